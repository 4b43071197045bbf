/- The document's answers for fix: a part of the way, a step. -/
import Derived.Test.YtlldmpcamdginaaFixG
namespace Go.Proofs.Ytlldmpcamdginaa.Fix
open Go.ChangeShapes Go.WideShapes Go.ChangeAt Go.RowKit
set_option linter.unusedVariables false

theorem blkNew2 (w : World) (o o2 : Obj) (t : TypeId) (cs : Array Value) : Blk (((w.alloc o).alloc o2).alloc (.cells cs t)) (w.heap.size + 1 + 1) t cs := by
  have := Blk.new1 (w.alloc o) o2 t cs
  rwa [World.size_alloc] at this
theorem pt_in {d a b : Int} (h1 : -2097152 ≤ d) (h2 : d ≤ 2097152) (ha : 0 ≤ a) (hab : a ≤ b) (hb : 1 ≤ b) : -2097152 ≤ pt d a b ∧ pt d a b ≤ 2097152 := part_bound (d := d) (D := 2097152) h1 h2 ha hab hb
set_option maxHeartbeats 2000000 in
theorem rmoved (x y u v a b : Int) (hp : Near x y) (hq : Near u v) (ha : 0 ≤ a) (ha2 : a ≤ 1048576) (hab : a ≤ b) (hb0 : 1 ≤ b) (hb1 : b ≤ 4194304) (w : World) :
    Calls Try.prog 50 #[R x y, R u v, .int .i64 a, .int .i64 b] w fun e w' => e = .returned (R (x + pt (u - x) a b) (y + pt (v - y) a b)) ∧ Ext w w' := by
  obtain ⟨hp1, hp2, hp3, hp4⟩ := hp
  obtain ⟨hq1, hq2, hq3, hq4⟩ := hq
  have H1 := Lib.hid (fun W => rpart (u - x) a b (by omega) (by omega) ha ha2 hab hb0 hb1 W)
  have H2 := Lib.hid (fun W => rpart (v - y) a b (by omega) (by omega) ha ha2 hab hb0 hb1 W)
  obtain ⟨t1, t2⟩ := pt_in (d := u - x) (by omega) (by omega) ha hab hb0
  obtain ⟨t3, t4⟩ := pt_in (d := v - y) (by omega) (by omega) ha hab hb0
  generalize pt (u - x) a b = m1 at *
  generalize pt (v - y) a b = m2 at *
  have w1 : IntKind.i64.wrap (u - x) = u - x := IntWalk.i64_in _ (by omega)
  have w2 : IntKind.i64.wrap (v - y) = v - y := IntWalk.i64_in _ (by omega)
  have w3 : IntKind.i64.wrap (x + m1) = x + m1 := IntWalk.i64_in _ (by omega)
  have w4 : IntKind.i64.wrap (y + m2) = y + m2 := IntWalk.i64_in _ (by omega)
  go_enter Try.func50, Try.ntmps50
  go_wp2_with fail
  go_region_held3 (fun w' => w'.cell? ⟨w.heap.size, 0, none⟩ = some (.int .i64 x) ∧ w'.cell? ⟨w.heap.size, 1, none⟩ = some (.int .i64 y) ∧ w'.cell? ⟨w.heap.size + 1, 0, none⟩ = some (.int .i64 u) ∧ w'.cell? ⟨w.heap.size + 1, 1, none⟩ = some (.int .i64 v)) (go_keep)
    (first | (go_at_call 79; ((with_reducible refine (H1.out _).mono ?_); rintro e w8 ⟨rfl, rfl⟩)) | (go_at_call 79; ((with_reducible refine (H2.out _).mono ?_); rintro e w8 ⟨rfl, rfl⟩)))
  all_goals
    go_wp2_with fail
    refine bodyPost_ret (v := R (x + m1) (y + m2)) (by simp [results, Try.results50, go_sem]) rfl ⟨rfl, ?_⟩
    repeat (first | exact Ext.rfl' _ | refine ext_drew ?_ | refine ext_drewN ?_ _ | refine ext_alloc ?_ _)
end Go.Proofs.Ytlldmpcamdginaa.Fix
