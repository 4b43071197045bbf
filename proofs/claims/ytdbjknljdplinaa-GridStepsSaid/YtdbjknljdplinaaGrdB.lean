/- Contracts of package grid: a map's tiles. -/
import Derived.Test.YtdbjknljdplinaaRows
import Derived.Test.YtdbjknljdplinaaGrdA
import Derived.Test.YtdbjknljdplinaaBlk
import Derived.WalkKit
import Derived.ProofKit
import Derived.OpenShut
import Derived.Outline
import Derived.Lib.Hide
import Derived.WalkLawsBesides
import Derived.BigQuiet
import Derived.Deep.QuietTactic
import Derived.IntWalk
namespace Go.Proofs.Ytdbjknljdplinaa.Grid
open Go.ChangeShapes Go.WideShapes Go.ChangeAt Go.RowKit
set_option linter.unusedVariables false

set_option maxHeartbeats 1000000 in
theorem on_zero (x : Int) (w : World) : Calls Try.prog 35 #[.agg #[.int .i64 0, .int .i64 0, .string ⟨#[]⟩], .int .i64 x] w fun e w' => e = .returned (.bool false) ∧ Ext w w' := by
  go_enter Try.func35, Try.ntmps35
  go_wp2_with fail
  go_ret
  exact ⟨rfl, ext_alloc (Ext.rfl' _) _⟩
set_option maxHeartbeats 1000000 in
theorem on_yes (W H x : Nat) (T : ByteArray) (w : World) (hW : 4 ≤ W) (hs : T.size ≤ 5000) (hx : x < T.size) : Calls Try.prog 35 #[.agg #[.int .i64 (W : Int), .int .i64 (H : Int), .string T], .int .i64 (x : Int)] w fun e w' => e = .returned (.bool true) ∧ Ext w w' := by
  have z0 : ((W : Int) == 0) = false := beq_eq_false_iff_ne.2 (by omega)
  have z1 : (0 : Int) ≤ (x : Int) := by omega
  have z2 : (x : Int) < (T.size : Int) := by omega
  go_enter Try.func35, Try.ntmps35
  go_wp2_with fail
  go_ret
  exact ⟨rfl, ext_alloc (Ext.rfl' _) _⟩
set_option maxHeartbeats 1000000 in
theorem on_no (W H : Nat) (x : Int) (T : ByteArray) (w : World) (hW : 4 ≤ W) (hs : T.size ≤ 5000) (hx : x < 0 ∨ (T.size : Int) ≤ x) : Calls Try.prog 35 #[.agg #[.int .i64 (W : Int), .int .i64 (H : Int), .string T], .int .i64 x] w fun e w' => e = .returned (.bool false) ∧ Ext w w' := by
  have z0 : ((W : Int) == 0) = false := beq_eq_false_iff_ne.2 (by omega)
  by_cases h : x < 0
  · have z1 : ¬ (0 : Int) ≤ x := by omega
    go_enter Try.func35, Try.ntmps35
    go_wp2_with fail
    go_ret
    exact ⟨rfl, ext_alloc (Ext.rfl' _) _⟩
  · have z1 : (0 : Int) ≤ x := by omega
    have z2 : ¬ x < (T.size : Int) := by omega
    go_enter Try.func35, Try.ntmps35
    go_wp2_with fail
    go_ret
    exact ⟨rfl, ext_alloc (Ext.rfl' _) _⟩
set_option maxHeartbeats 1000000 in
theorem len_zero (w : World) : Calls Try.prog 34 #[.agg #[.int .i64 0, .int .i64 0, .string ⟨#[]⟩]] w fun e w' => e = .returned (.int .i64 0) ∧ Ext w w' := by
  go_enter Try.func34, Try.ntmps34
  go_wp2_with fail
  go_ret
  exact ⟨rfl, ext_alloc (Ext.rfl' _) _⟩
set_option maxHeartbeats 1000000 in
theorem len_map (W H : Nat) (T : ByteArray) (w : World) (hs : T.size ≤ 5000) : Calls Try.prog 34 #[.agg #[.int .i64 (W : Int), .int .i64 (H : Int), .string T]] w fun e w' => e = .returned (.int .i64 (T.size : Int)) ∧ Ext w w' := by
  go_enter Try.func34, Try.ntmps34
  go_wp2_with fail
  go_ret
  exact ⟨rfl, ext_alloc (Ext.rfl' _) _⟩
set_option maxHeartbeats 1000000 in
theorem size_map (W H : Nat) (T : ByteArray) (w : World) : Calls Try.prog 36 #[.agg #[.int .i64 (W : Int), .int .i64 (H : Int), .string T]] w fun e w' => e = .returned (.tuple #[.int .i64 (W : Int), .int .i64 (H : Int)]) ∧ Ext w w' := by
  go_enter Try.func36, Try.ntmps36
  go_wp2_with fail
  go_quiet (fail)
  go_wp2_with fail
  go_ret2
  exact ⟨rfl, ext_drewN (ext_alloc (Ext.rfl' _) _) _⟩
set_option maxHeartbeats 1000000 in
theorem is_yes (W H x : Nat) (T : ByteArray) (w : World) (hW : 4 ≤ W) (hs : T.size ≤ 5000) (hx : x < T.size) : Calls Try.prog 38 #[.agg #[.int .i64 (W : Int), .int .i64 (H : Int), .string T], .int .i64 (x : Int)] w fun e w' => e = .returned (.int .u8 (T[x].toNat : Int)) ∧ Ext w w' := by
  have z1 : (0 : Int) ≤ (x : Int) := by omega
  have z2 : (x : Int) < (T.size : Int) := by omega
  go_enter Try.func38, Try.ntmps38
  go_wp2_with fail
  refine (on_yes W H x T _ hW hs hx).mono ?_
  rintro e w1 ⟨rfl, b1⟩
  have hb := (Blk.new w 52 #[.int .i64 (W : Int), .int .i64 (H : Int), .string T]).ext b1
  have c2 := hb.cell 2
  simp only [List.getElem?_toArray, List.getElem?_cons_succ, List.getElem?_cons_zero] at c2
  have HE := Lib.hid (ext_trans (ext_alloc (Ext.rfl' w) _) b1)
  clear hb b1
  go_wp2_with fail
  go_ret
  exact ⟨rfl, HE.out⟩
set_option maxHeartbeats 1000000 in
theorem is_no (W H : Nat) (x : Int) (T : ByteArray) (w : World) (hW : 4 ≤ W) (hs : T.size ≤ 5000) (hx : x < 0 ∨ (T.size : Int) ≤ x) : Calls Try.prog 38 #[.agg #[.int .i64 (W : Int), .int .i64 (H : Int), .string T], .int .i64 x] w fun e w' => e = .returned (.int .u8 1) ∧ Ext w w' := by
  have HX := Lib.hid hx; clear hx
  go_enter Try.func38, Try.ntmps38
  go_wp2_with fail
  refine (on_no W H x T _ hW hs HX.out).mono ?_
  rintro e w1 ⟨rfl, b1⟩
  have HE := Lib.hid (ext_trans (ext_alloc (Ext.rfl' w) _) b1)
  clear b1
  go_wp2_with fail
  go_ret
  exact ⟨rfl, HE.out⟩
set_option maxHeartbeats 1000000 in
theorem walk_yes (W H x : Nat) (T : ByteArray) (w : World) (hW : 4 ≤ W) (hs : T.size ≤ 5000) (hx : x < T.size) : Calls Try.prog 41 #[.agg #[.int .i64 (W : Int), .int .i64 (H : Int), .string T], .int .i64 (x : Int)] w fun e w' => e = .returned (.bool (((T[x].toNat : Nat) : Int) == 0)) ∧ Ext w w' := by
  go_enter Try.func41, Try.ntmps41
  go_wp2_with fail
  refine (is_yes W H x T _ hW hs hx).mono ?_
  rintro e w1 ⟨rfl, b1⟩
  have HE := Lib.hid (ext_trans (ext_alloc (Ext.rfl' w) _) b1)
  clear b1
  go_wp2_with fail
  go_ret
  exact ⟨rfl, HE.out⟩
set_option maxHeartbeats 1000000 in
theorem walk_no (W H : Nat) (x : Int) (T : ByteArray) (w : World) (hW : 4 ≤ W) (hs : T.size ≤ 5000) (hx : x < 0 ∨ (T.size : Int) ≤ x) : Calls Try.prog 41 #[.agg #[.int .i64 (W : Int), .int .i64 (H : Int), .string T], .int .i64 x] w fun e w' => e = .returned (.bool false) ∧ Ext w w' := by
  have HX := Lib.hid hx; clear hx
  go_enter Try.func41, Try.ntmps41
  go_wp2_with fail
  refine (is_no W H x T _ hW hs HX.out).mono ?_
  rintro e w1 ⟨rfl, b1⟩
  have HE := Lib.hid (ext_trans (ext_alloc (Ext.rfl' w) _) b1)
  clear b1
  go_wp2_with fail
  go_ret
  exact ⟨rfl, HE.out⟩
theorem fields {w w1 : World} {t : TypeId} {a b c : Value} (h : Blk w w.heap.size t #[a, b, c]) (e : Ext w w1) : True := trivial
theorem map_cells {w1 : World} {g : Nat} {t : TypeId} {a b c : Value} (h : Blk w1 g t #[a, b, c]) : w1.cell? ⟨g, 0, none⟩ = some a ∧ w1.cell? ⟨g, 1, none⟩ = some b ∧ w1.cell? ⟨g, 2, none⟩ = some c := ⟨h.cell 0, h.cell 1, h.cell 2⟩
set_option maxHeartbeats 1000000 in
theorem xy_yes (W H x : Nat) (T : ByteArray) (w : World) (hW : 4 ≤ W) (hW2 : W ≤ 64) (hs : T.size ≤ 5000) (hx : x < T.size) : Calls Try.prog 37 #[.agg #[.int .i64 (W : Int), .int .i64 (H : Int), .string T], .int .i64 (x : Int)] w fun e w' => e = .returned (.tuple #[.int .i64 ((x % W : Nat) : Int), .int .i64 ((x / W : Nat) : Int)]) ∧ Ext w w' := by
  have q1 : (x : Int).tmod (W : Int) = ((x % W : Nat) : Int) := by rw [Int.tmod_eq_emod_of_nonneg (by omega)]; exact (Int.natCast_emod x W).symm
  have q2 : (x : Int).tdiv (W : Int) = ((x / W : Nat) : Int) := by rw [Int.tdiv_eq_ediv_of_nonneg (by omega)]; exact (Int.natCast_ediv x W).symm
  have q3 : (x : Int) % (W : Int) = ((x % W : Nat) : Int) := (Int.natCast_emod x W).symm
  have q4 : (x : Int) / (W : Int) = ((x / W : Nat) : Int) := (Int.natCast_ediv x W).symm
  have h1 := Nat.mod_le x W
  have h2 := Nat.div_le_self x W
  generalize x % W = a at *
  generalize x / W = b at *
  have q5 : IntKind.i64.wrap (a : Int) = (a : Int) := by rw [IntKind.wrap_i64]; omega
  have q6 : IntKind.i64.wrap (b : Int) = (b : Int) := by rw [IntKind.wrap_i64]; omega
  have q7 : ((W : Int) == 0) = false := beq_eq_false_iff_ne.2 (by omega)
  have q8 : ¬ (W : Int) = 0 := by omega
  have HQ := Lib.hid (And.intro q1 (And.intro q2 (And.intro q3 (And.intro q4 (And.intro q5 q6)))))
  clear q1 q2 q3 q4 q5 q6
  go_enter Try.func37, Try.ntmps37
  go_wp2_with fail
  refine (on_yes W H x T _ hW hs hx).mono ?_
  rintro e w1 ⟨rfl, b1⟩
  have hb := (Blk.new w 52 #[.int .i64 (W : Int), .int .i64 (H : Int), .string T]).ext b1
  obtain ⟨c0, c1, c2⟩ := map_cells hb
  have HE := Lib.hid (ext_trans (ext_alloc (Ext.rfl' w) _) b1)
  clear hb b1
  obtain ⟨q1, q2, q3, q4, q5, q6⟩ := HQ.out
  go_wp2_with fail
  go_quiet (fail)
  go_wp2_with fail
  go_ret2
  exact ⟨rfl, ext_drewN HE.out _⟩
set_option maxHeartbeats 1000000 in
theorem xy_no (W H : Nat) (x : Int) (T : ByteArray) (w : World) (hW : 4 ≤ W) (hs : T.size ≤ 5000) (hx : x < 0 ∨ (T.size : Int) ≤ x) : Calls Try.prog 37 #[.agg #[.int .i64 (W : Int), .int .i64 (H : Int), .string T], .int .i64 x] w fun e w' => e = .returned (.tuple #[.int .i64 (-1), .int .i64 (-1)]) ∧ Ext w w' := by
  have HX := Lib.hid hx; clear hx
  go_enter Try.func37, Try.ntmps37
  go_wp2_with fail
  refine (on_no W H x T _ hW hs HX.out).mono ?_
  rintro e w1 ⟨rfl, b1⟩
  have HE := Lib.hid (ext_trans (ext_alloc (Ext.rfl' w) _) b1)
  clear b1
  go_wp2_with fail
  go_ret2
  exact ⟨rfl, HE.out⟩
end Go.Proofs.Ytdbjknljdplinaa.Grid
