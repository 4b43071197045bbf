/- The document's answers for fix: a part of the way, a step. -/
import Derived.Test.YtdbjknljdplinaaFixG
namespace Go.Proofs.Ytdbjknljdplinaa.Fix
open Go.ChangeShapes Go.WideShapes Go.ChangeAt Go.RowKit
set_option linter.unusedVariables false

theorem blkNew2 (w : World) (o o2 : Obj) (t : TypeId) (cs : Array Value) : Blk (((w.alloc o).alloc o2).alloc (.cells cs t)) (w.heap.size + 1 + 1) t cs := by
  have := Blk.new1 (w.alloc o) o2 t cs
  rwa [World.size_alloc] at this
theorem pt_in {d a b : Int} (h1 : -2097152 ≤ d) (h2 : d ≤ 2097152) (ha : 0 ≤ a) (hab : a ≤ b) (hb : 1 ≤ b) : -2097152 ≤ pt d a b ∧ pt d a b ≤ 2097152 := part_bound (d := d) (D := 2097152) h1 h2 ha hab hb
set_option maxHeartbeats 2000000 in
theorem rmoved (x y u v a b : Int) (hp : Near x y) (hq : Near u v) (ha : 0 ≤ a) (ha2 : a ≤ 1048576) (hab : a ≤ b) (hb0 : 1 ≤ b) (hb1 : b ≤ 4194304) (w : World) :
    Calls Try.prog 18 #[R x y, R u v, .int .i64 a, .int .i64 b] w fun e w' => e = .returned (R (x + pt (u - x) a b) (y + pt (v - y) a b)) ∧ Ext w w' := by
  obtain ⟨hp1, hp2, hp3, hp4⟩ := hp
  obtain ⟨hq1, hq2, hq3, hq4⟩ := hq
  have H1 := Lib.hid (fun W => rpart (u - x) a b (by omega) (by omega) ha ha2 hab hb0 hb1 W)
  have H2 := Lib.hid (fun W => rpart (v - y) a b (by omega) (by omega) ha ha2 hab hb0 hb1 W)
  obtain ⟨t1, t2⟩ := pt_in (d := u - x) (by omega) (by omega) ha hab hb0
  obtain ⟨t3, t4⟩ := pt_in (d := v - y) (by omega) (by omega) ha hab hb0
  generalize pt (u - x) a b = m1 at *
  generalize pt (v - y) a b = m2 at *
  have w1 : IntKind.i64.wrap (u - x) = u - x := IntWalk.i64_in _ (by omega)
  have w2 : IntKind.i64.wrap (v - y) = v - y := IntWalk.i64_in _ (by omega)
  have w3 : IntKind.i64.wrap (x + m1) = x + m1 := IntWalk.i64_in _ (by omega)
  have w4 : IntKind.i64.wrap (y + m2) = y + m2 := IntWalk.i64_in _ (by omega)
  go_enter Try.func18, Try.ntmps18
  go_wp2_with fail
  go_region_held3 (fun w' => w'.cell? ⟨w.heap.size, 0, none⟩ = some (.int .i64 x) ∧ w'.cell? ⟨w.heap.size, 1, none⟩ = some (.int .i64 y) ∧ w'.cell? ⟨w.heap.size + 1, 0, none⟩ = some (.int .i64 u) ∧ w'.cell? ⟨w.heap.size + 1, 1, none⟩ = some (.int .i64 v)) (go_keep)
    (first | (go_at_call 63; ((with_reducible refine (H1.out _).mono ?_); rintro e w8 ⟨rfl, rfl⟩)) | (go_at_call 63; ((with_reducible refine (H2.out _).mono ?_); rintro e w8 ⟨rfl, rfl⟩)))
  all_goals
    go_wp2_with fail
    refine bodyPost_ret (v := R (x + m1) (y + m2)) (by simp [results, Try.results18, go_sem]) rfl ⟨rfl, ?_⟩
    repeat (first | exact Ext.rfl' _ | refine ext_drew ?_ | refine ext_drewN ?_ _ | refine ext_alloc ?_ _)
theorem rtoward_far (x y u v s : Int) (h : ¬ (Near x y ∧ Near u v)) (w : World) :
    Calls Try.prog 14 #[R x y, R u v, .int .i64 s] w fun e w' => e = .returned (.tuple #[R 0 0, .bool false]) ∧ Ext w w' := by
  by_cases hp : Near x y
  · have hq : ¬ Near u v := fun hq => h ⟨hp, hq⟩
    have Hp := Lib.hid hp; have Hq := Lib.hid hq; clear hp hq h
    go_enter Try.func14, Try.ntmps14
    go_wp2_with fail
    refine (may_yes _ _ Hp.out _).mono ?_
    rintro e w1 ⟨rfl, b1⟩
    obtain ⟨c1, f1⟩ := ecell b1
    go_wp2_with fail
    refine (may_no _ _ Hq.out _).mono ?_
    rintro e w2 ⟨rfl, b2⟩
    have b12 := ext_trans b1 b2
    obtain ⟨c2, f2⟩ := ecell b12
    clear c1 f1 b1 b2
    go_wp2_with fail
    exact bodyPost_ret (v := .tuple #[R 0 0, .bool false]) (by simp [results, Try.results14, go_sem, c2]) rfl ⟨rfl, ext_out b12 _ _⟩
  · have Hp := Lib.hid hp; clear hp h
    go_enter Try.func14, Try.ntmps14
    go_wp2_with fail
    refine (may_no _ _ Hp.out _).mono ?_
    rintro e w1 ⟨rfl, b12⟩
    obtain ⟨c2, f2⟩ := ecell b12
    go_wp2_with fail
    exact bodyPost_ret (v := .tuple #[R 0 0, .bool false]) (by simp [results, Try.results14, go_sem, c2]) rfl ⟨rfl, ext_out b12 _ _⟩
set_option maxHeartbeats 400000 in
theorem rtoward_none (x y u v s : Int) (hp : Near x y) (hq : Near u v) (h : s < 1 ∨ 256 < s) (w : World) :
    Calls Try.prog 14 #[R x y, R u v, .int .i64 s] w fun e w' => e = .returned (.tuple #[R x y, .bool false]) ∧ Ext w w' := by
  have Hp := Lib.hid hp; have Hq := Lib.hid hq; clear hp hq
  have hall : s < 1 ∨ (¬ s < 1 ∧ 256 < s) := by omega
  clear h
  rcases hall with h1 | ⟨h1, h2⟩
  all_goals
    go_enter Try.func14, Try.ntmps14
    go_wp2_with fail
    refine (may_yes _ _ Hp.out _).mono ?_
    rintro e w1 ⟨rfl, b1⟩
    obtain ⟨c1, f1⟩ := ecell b1
    go_wp2_with fail
    refine (may_yes _ _ Hq.out _).mono ?_
    rintro e w2 ⟨rfl, b2⟩
    have b12 := ext_trans b1 b2
    obtain ⟨c2, f2⟩ := ecell b12
    clear c1 f1 b1 b2
    go_wp2_with fail
    exact bodyPost_ret (v := .tuple #[R x y, .bool false]) (by simp [results, Try.results14, go_sem, c2]) rfl ⟨rfl, ext_out b12 _ _⟩
set_option maxHeartbeats 400000 in
theorem rtoward_there (x y u v s : Int) (r : Nat) (hp : Near x y) (hq : Near u v) (h1 : 1 ≤ s) (h2 : s ≤ 256) (hr : IsRoot (sqd x y u v) r) (hs : (r : Int) ≤ s) (w : World) :
    Calls Try.prog 14 #[R x y, R u v, .int .i64 s] w fun e w' => e = .returned (.tuple #[R u v, .bool true]) ∧ Ext w w' := by
  have Hp := Lib.hid hp; have Hq := Lib.hid hq; clear hp hq
  have HR := Lib.hid hr; clear hr
  go_enter Try.func14, Try.ntmps14
  go_wp2_with fail
  refine (may_yes _ _ Hp.out _).mono ?_
  rintro e w1 ⟨rfl, b1⟩
  obtain ⟨c1, f1⟩ := ecell b1
  go_wp2_with fail
  refine (may_yes _ _ Hq.out _).mono ?_
  rintro e w2 ⟨rfl, b2⟩
  have b12 := ext_trans b1 b2
  obtain ⟨c2, f2⟩ := ecell b12
  clear c1 f1 b1 b2
  go_wp2_with fail
  refine (rfar_yes _ _ _ _ r Hp.out Hq.out HR.out _).mono ?_
  rintro e w3 ⟨rfl, b3⟩
  have b13 := ext_trans b12 b3
  obtain ⟨c3, f3⟩ := ecell b13
  clear c2 f2 b12 b3
  go_wp2_with fail
  all_goals exact bodyPost_ret (v := .tuple #[R u v, .bool true]) (by simp [results, Try.results14, go_sem, c3]) rfl ⟨rfl, ext_out b13 _ _⟩
set_option maxHeartbeats 2000000 in
theorem rtoward_goes (x y u v s : Int) (r : Nat) (hp : Near x y) (hq : Near u v) (h1 : 1 ≤ s) (h2 : s ≤ 256) (hr : IsRoot (sqd x y u v) r) (hs : s < (r : Int)) (w : World) :
    Calls Try.prog 14 #[R x y, R u v, .int .i64 s] w fun e w' => e = .returned (.tuple #[R (x + pt (u - x) s r) (y + pt (v - y) s r), .bool false]) ∧ Ext w w' := by
  have hrs := root_small hr (sqd_bound hp hq).2.2.2.2.2
  have HM := Lib.hid (fun W => rmoved x y u v s r hp hq (by omega) (by omega) (by omega) (by omega) (by omega) W)
  have Hp := Lib.hid hp; have Hq := Lib.hid hq; clear hp hq
  have HR := Lib.hid hr; clear hr
  generalize x + pt (u - x) s r = z1 at *
  generalize y + pt (v - y) s r = z2 at *
  go_enter Try.func14, Try.ntmps14
  go_wp2_with fail
  refine (may_yes _ _ Hp.out _).mono ?_
  rintro e w1 ⟨rfl, b1⟩
  obtain ⟨c1, f1⟩ := ecell b1
  go_wp2_with fail
  refine (may_yes _ _ Hq.out _).mono ?_
  rintro e w2 ⟨rfl, b2⟩
  have b12 := ext_trans b1 b2
  obtain ⟨c2, f2⟩ := ecell b12
  clear c1 f1 b1 b2
  go_wp2_with fail
  refine (rfar_yes _ _ _ _ r Hp.out Hq.out HR.out _).mono ?_
  rintro e w3 ⟨rfl, b3⟩
  have k1 := (((Blk.new w 26 #[.int .i64 x, .int .i64 y]).alloc (.cells #[.int .i64 u, .int .i64 v] 26)).alloc (.cells #[.int .i64 0, .int .i64 0] 26)).ext (ext_trans b12 b3)
  have k2 := ((Blk.new1 w (.cells #[.int .i64 x, .int .i64 y] 26) 26 #[.int .i64 u, .int .i64 v]).alloc (.cells #[.int .i64 0, .int .i64 0] 26)).ext (ext_trans b12 b3)
  have k3 := (blkNew2 w (.cells #[.int .i64 x, .int .i64 y] 26) (.cells #[.int .i64 u, .int .i64 v] 26) 26 #[.int .i64 0, .int .i64 0]).ext (ext_trans b12 b3)
  have e3 : Ext w w3 := ext_trans (ext_alloc (ext_alloc (ext_alloc (Ext.rfl' _) _) _) _) (ext_trans b12 b3)
  clear c2 f2 b12 b3
  obtain ⟨p0, p1, _, _⟩ := k1.two
  obtain ⟨d0, d1, _, _⟩ := k2.two
  have K1 := Lib.hid k1; have K2 := Lib.hid k2; have K3 := Lib.hid k3
  clear k1 k2 k3
  go_wp2_with fail
  have E0 := Lib.hid (ext_drew (Ext.rfl' w3))
  have E3 := Lib.hid e3; clear e3
  go_region_held3 (fun w' => w'.cell? ⟨w.heap.size, 0, none⟩ = some (.int .i64 x) ∧ w'.cell? ⟨w.heap.size, 1, none⟩ = some (.int .i64 y) ∧ w'.cell? ⟨w.heap.size + 1, 0, none⟩ = some (.int .i64 u) ∧ w'.cell? ⟨w.heap.size + 1, 1, none⟩ = some (.int .i64 v) ∧ Hid (Ext w w'))
    (first | exact ⟨p0, p1, d0, d1, ext_drew E3.out⟩ | exact ⟨kc E8.out p0, kc E8.out p1, kc E8.out d0, kc E8.out d1, Lib.hid (ext_trans E3.out E8.out)⟩ | exact ⟨kc E9.out p0, kc E9.out p1, kc E9.out d0, kc E9.out d1, Lib.hid (ext_trans E3.out E9.out)⟩ | exact ⟨((K1.out.ext E9.out).far2 (by omega)).two.1, ((K1.out.ext E9.out).far2 (by omega)).two.2.1, ((K2.out.ext E9.out).far2 (by omega)).two.1, ((K2.out.ext E9.out).far2 (by omega)).two.2.1, Lib.hid (ext_put2 (ext_trans E3.out E9.out) (by omega) _ _)⟩)
    (first | (go_at_call 16; refine (rfar_yes _ _ _ _ r Hp.out Hq.out HR.out _).mono ?_; rintro e w8 ⟨rfl, b8⟩; have E8 := Lib.hid (ext_trans E0.out b8); obtain ⟨y0, y1, y2, y3⟩ := (K3.out.ext E8.out).two) | (go_at_call 18; refine (HM.out _).mono ?_; rintro e w9 ⟨rfl, b9⟩; have E9 := Lib.hid (ext_trans E8.out b9); obtain ⟨y4, y5, y6, y7⟩ := (K3.out.ext E9.out).two))
  go_wp2_with fail
  refine bodyPost_ret (v := .tuple #[R z1 z2, .bool false]) (by simp [results, Try.results14, go_sem, y4, y5]) rfl ⟨rfl, ?_⟩
  go_split_ands
  exact Hid.out (by assumption)
end Go.Proofs.Ytdbjknljdplinaa.Fix
