/- Contracts of package grid: a map's tiles. -/
import Derived.Test.YtmceaocknlnmpaaRows
import Derived.Test.YtmceaocknlnmpaaP1
import Derived.WalkKit
import Derived.ProofKit
import Derived.OpenShut
import Derived.Outline
import Derived.Lib.Hide
import Derived.WalkLawsBesides
import Derived.BigQuiet
import Derived.Deep.QuietTactic
import Derived.IntWalk
namespace Go.Proofs.Ytmceaocknlnmpaa.Grid
open Go.ChangeShapes Go.WideShapes Go.ChangeAt Go.RowKit
set_option linter.unusedVariables false

set_option maxHeartbeats 1000000 in
theorem on_zero (x : Int) (w : World) : Calls Try.prog 11 #[.agg #[.int .i64 0, .int .i64 0, .string ⟨#[]⟩], .int .i64 x] w fun e w' => e = .returned (.bool false) ∧ Ext w w' := by
  go_enter Try.func11, Try.ntmps11
  go_wp2_with fail
  go_ret
  exact ⟨rfl, ext_alloc (Ext.rfl' _) _⟩
set_option maxHeartbeats 1000000 in
theorem on_yes (W H x : Nat) (T : ByteArray) (w : World) (hW : 4 ≤ W) (hs : T.size ≤ 5000) (hx : x < T.size) : Calls Try.prog 11 #[.agg #[.int .i64 (W : Int), .int .i64 (H : Int), .string T], .int .i64 (x : Int)] w fun e w' => e = .returned (.bool true) ∧ Ext w w' := by
  have z0 : ((W : Int) == 0) = false := beq_eq_false_iff_ne.2 (by omega)
  have z1 : (0 : Int) ≤ (x : Int) := by omega
  have z2 : (x : Int) < (T.size : Int) := by omega
  go_enter Try.func11, Try.ntmps11
  go_wp2_with fail
  go_ret
  exact ⟨rfl, ext_alloc (Ext.rfl' _) _⟩
set_option maxHeartbeats 1000000 in
theorem on_no (W H : Nat) (x : Int) (T : ByteArray) (w : World) (hW : 4 ≤ W) (hs : T.size ≤ 5000) (hx : x < 0 ∨ (T.size : Int) ≤ x) : Calls Try.prog 11 #[.agg #[.int .i64 (W : Int), .int .i64 (H : Int), .string T], .int .i64 x] w fun e w' => e = .returned (.bool false) ∧ Ext w w' := by
  have z0 : ((W : Int) == 0) = false := beq_eq_false_iff_ne.2 (by omega)
  by_cases h : x < 0
  · have z1 : ¬ (0 : Int) ≤ x := by omega
    go_enter Try.func11, Try.ntmps11
    go_wp2_with fail
    go_ret
    exact ⟨rfl, ext_alloc (Ext.rfl' _) _⟩
  · have z1 : (0 : Int) ≤ x := by omega
    have z2 : ¬ x < (T.size : Int) := by omega
    go_enter Try.func11, Try.ntmps11
    go_wp2_with fail
    go_ret
    exact ⟨rfl, ext_alloc (Ext.rfl' _) _⟩
set_option maxHeartbeats 1000000 in
theorem len_zero (w : World) : Calls Try.prog 53 #[.agg #[.int .i64 0, .int .i64 0, .string ⟨#[]⟩]] w fun e w' => e = .returned (.int .i64 0) ∧ Ext w w' := by
  go_enter Try.func53, Try.ntmps53
  go_wp2_with fail
  go_ret
  exact ⟨rfl, ext_alloc (Ext.rfl' _) _⟩
set_option maxHeartbeats 1000000 in
theorem len_map (W H : Nat) (T : ByteArray) (w : World) (hs : T.size ≤ 5000) : Calls Try.prog 53 #[.agg #[.int .i64 (W : Int), .int .i64 (H : Int), .string T]] w fun e w' => e = .returned (.int .i64 (T.size : Int)) ∧ Ext w w' := by
  go_enter Try.func53, Try.ntmps53
  go_wp2_with fail
  go_ret
  exact ⟨rfl, ext_alloc (Ext.rfl' _) _⟩
set_option maxHeartbeats 1000000 in
theorem is_yes (W H x : Nat) (T : ByteArray) (w : World) (hW : 4 ≤ W) (hs : T.size ≤ 5000) (hx : x < T.size) : Calls Try.prog 27 #[.agg #[.int .i64 (W : Int), .int .i64 (H : Int), .string T], .int .i64 (x : Int)] w fun e w' => e = .returned (.int .u8 (T[x].toNat : Int)) ∧ Ext w w' := by
  have z1 : (0 : Int) ≤ (x : Int) := by omega
  have z2 : (x : Int) < (T.size : Int) := by omega
  go_enter Try.func27, Try.ntmps27
  go_wp2_with fail
  refine (on_yes W H x T _ hW hs hx).mono ?_
  rintro e w1 ⟨rfl, b1⟩
  have hb := (Blk.new w 25 #[.int .i64 (W : Int), .int .i64 (H : Int), .string T]).ext b1
  have c2 := hb.cell 2
  simp only [List.getElem?_toArray, List.getElem?_cons_succ, List.getElem?_cons_zero] at c2
  have HE := Lib.hid (ext_trans (ext_alloc (Ext.rfl' w) _) b1)
  clear hb b1
  go_wp2_with fail
  go_ret
  exact ⟨rfl, HE.out⟩
set_option maxHeartbeats 1000000 in
theorem is_no (W H : Nat) (x : Int) (T : ByteArray) (w : World) (hW : 4 ≤ W) (hs : T.size ≤ 5000) (hx : x < 0 ∨ (T.size : Int) ≤ x) : Calls Try.prog 27 #[.agg #[.int .i64 (W : Int), .int .i64 (H : Int), .string T], .int .i64 x] w fun e w' => e = .returned (.int .u8 1) ∧ Ext w w' := by
  have HX := Lib.hid hx; clear hx
  go_enter Try.func27, Try.ntmps27
  go_wp2_with fail
  refine (on_no W H x T _ hW hs HX.out).mono ?_
  rintro e w1 ⟨rfl, b1⟩
  have HE := Lib.hid (ext_trans (ext_alloc (Ext.rfl' w) _) b1)
  clear b1
  go_wp2_with fail
  go_ret
  exact ⟨rfl, HE.out⟩
set_option maxHeartbeats 1000000 in
theorem walk_yes (W H x : Nat) (T : ByteArray) (w : World) (hW : 4 ≤ W) (hs : T.size ≤ 5000) (hx : x < T.size) : Calls Try.prog 15 #[.agg #[.int .i64 (W : Int), .int .i64 (H : Int), .string T], .int .i64 (x : Int)] w fun e w' => e = .returned (.bool (((T[x].toNat : Nat) : Int) == 0)) ∧ Ext w w' := by
  go_enter Try.func15, Try.ntmps15
  go_wp2_with fail
  refine (is_yes W H x T _ hW hs hx).mono ?_
  rintro e w1 ⟨rfl, b1⟩
  have HE := Lib.hid (ext_trans (ext_alloc (Ext.rfl' w) _) b1)
  clear b1
  go_wp2_with fail
  go_ret
  exact ⟨rfl, HE.out⟩
set_option maxHeartbeats 1000000 in
theorem walk_no (W H : Nat) (x : Int) (T : ByteArray) (w : World) (hW : 4 ≤ W) (hs : T.size ≤ 5000) (hx : x < 0 ∨ (T.size : Int) ≤ x) : Calls Try.prog 15 #[.agg #[.int .i64 (W : Int), .int .i64 (H : Int), .string T], .int .i64 x] w fun e w' => e = .returned (.bool false) ∧ Ext w w' := by
  have HX := Lib.hid hx; clear hx
  go_enter Try.func15, Try.ntmps15
  go_wp2_with fail
  refine (is_no W H x T _ hW hs HX.out).mono ?_
  rintro e w1 ⟨rfl, b1⟩
  have HE := Lib.hid (ext_trans (ext_alloc (Ext.rfl' w) _) b1)
  clear b1
  go_wp2_with fail
  go_ret
  exact ⟨rfl, HE.out⟩
theorem fields {w w1 : World} {t : TypeId} {a b c : Value} (h : Blk w w.heap.size t #[a, b, c]) (e : Ext w w1) : True := trivial
theorem map_cells {w1 : World} {g : Nat} {t : TypeId} {a b c : Value} (h : Blk w1 g t #[a, b, c]) : w1.cell? ⟨g, 0, none⟩ = some a ∧ w1.cell? ⟨g, 1, none⟩ = some b ∧ w1.cell? ⟨g, 2, none⟩ = some c := ⟨h.cell 0, h.cell 1, h.cell 2⟩
set_option maxHeartbeats 1000000 in
theorem xy_yes (W H x : Nat) (T : ByteArray) (w : World) (hW : 4 ≤ W) (hW2 : W ≤ 64) (hs : T.size ≤ 5000) (hx : x < T.size) : Calls Try.prog 26 #[.agg #[.int .i64 (W : Int), .int .i64 (H : Int), .string T], .int .i64 (x : Int)] w fun e w' => e = .returned (.tuple #[.int .i64 ((x % W : Nat) : Int), .int .i64 ((x / W : Nat) : Int)]) ∧ Ext w w' := by
  have q1 : (x : Int).tmod (W : Int) = ((x % W : Nat) : Int) := by rw [Int.tmod_eq_emod_of_nonneg (by omega)]; exact (Int.natCast_emod x W).symm
  have q2 : (x : Int).tdiv (W : Int) = ((x / W : Nat) : Int) := by rw [Int.tdiv_eq_ediv_of_nonneg (by omega)]; exact (Int.natCast_ediv x W).symm
  have q3 : (x : Int) % (W : Int) = ((x % W : Nat) : Int) := (Int.natCast_emod x W).symm
  have q4 : (x : Int) / (W : Int) = ((x / W : Nat) : Int) := (Int.natCast_ediv x W).symm
  have h1 := Nat.mod_le x W
  have h2 := Nat.div_le_self x W
  generalize x % W = a at *
  generalize x / W = b at *
  have q5 : IntKind.i64.wrap (a : Int) = (a : Int) := by rw [IntKind.wrap_i64]; omega
  have q6 : IntKind.i64.wrap (b : Int) = (b : Int) := by rw [IntKind.wrap_i64]; omega
  have q7 : ((W : Int) == 0) = false := beq_eq_false_iff_ne.2 (by omega)
  have q8 : ¬ (W : Int) = 0 := by omega
  have HQ := Lib.hid (And.intro q1 (And.intro q2 (And.intro q3 (And.intro q4 (And.intro q5 q6)))))
  clear q1 q2 q3 q4 q5 q6
  go_enter Try.func26, Try.ntmps26
  go_wp2_with fail
  refine (on_yes W H x T _ hW hs hx).mono ?_
  rintro e w1 ⟨rfl, b1⟩
  have hb := (Blk.new w 25 #[.int .i64 (W : Int), .int .i64 (H : Int), .string T]).ext b1
  obtain ⟨c0, c1, c2⟩ := map_cells hb
  have HE := Lib.hid (ext_trans (ext_alloc (Ext.rfl' w) _) b1)
  clear hb b1
  obtain ⟨q1, q2, q3, q4, q5, q6⟩ := HQ.out
  go_wp2_with fail
  go_quiet (fail)
  go_wp2_with fail
  go_ret2
  exact ⟨rfl, ext_drewN HE.out _⟩
set_option maxHeartbeats 1000000 in
theorem xy_no (W H : Nat) (x : Int) (T : ByteArray) (w : World) (hW : 4 ≤ W) (hs : T.size ≤ 5000) (hx : x < 0 ∨ (T.size : Int) ≤ x) : Calls Try.prog 26 #[.agg #[.int .i64 (W : Int), .int .i64 (H : Int), .string T], .int .i64 x] w fun e w' => e = .returned (.tuple #[.int .i64 (-1), .int .i64 (-1)]) ∧ Ext w w' := by
  have HX := Lib.hid hx; clear hx
  go_enter Try.func26, Try.ntmps26
  go_wp2_with fail
  refine (on_no W H x T _ hW hs HX.out).mono ?_
  rintro e w1 ⟨rfl, b1⟩
  have HE := Lib.hid (ext_trans (ext_alloc (Ext.rfl' w) _) b1)
  clear b1
  go_wp2_with fail
  go_ret2
  exact ⟨rfl, HE.out⟩
end Go.Proofs.Ytmceaocknlnmpaa.Grid
namespace Go.Proofs.Ytmceaocknlnmpaa.Grid
open Go.ChangeShapes Go.WideShapes Go.ChangeAt Go.RowKit
set_option linter.unusedVariables false

set_option maxHeartbeats 4000000 in
theorem far_yes (W H a b : Nat) (T : ByteArray) (w : World) (hW : 4 ≤ W) (hW2 : W ≤ 64) (hs : T.size ≤ 5000) (ha : a < T.size) (hb : b < T.size) : Calls Try.prog 13 #[.agg #[.int .i64 (W : Int), .int .i64 (H : Int), .string T], .int .i64 (a : Int), .int .i64 (b : Int)] w fun e w' => e = .returned (.int .i64 (far W a b : Nat)) ∧ Ext w w' := by
  have hf : far W a b = (a % W - b % W) + (b % W - a % W) + ((a / W - b / W) + (b / W - a / W)) := rfl
  have HA := Lib.hid (fun W1 => xy_yes W H a T W1 hW hW2 hs ha)
  have HB := Lib.hid (fun W1 => xy_yes W H b T W1 hW hW2 hs hb)
  have h1 := Nat.mod_le a W; have h2 := Nat.mod_le b W
  have h3 := Nat.div_le_self a W; have h4 := Nat.div_le_self b W
  generalize a % W = ax at *; generalize b % W = bx at *; generalize a / W = ay at *; generalize b / W = by_ at *
  obtain ⟨F, hF⟩ : ∃ F, F = far W a b := ⟨_, rfl⟩
  rw [← hF] at hf ⊢
  clear hF
  have HF := Lib.hid hf
  clear hf
  go_enter Try.func13, Try.ntmps13
  go_wp2_with fail
  refine (on_yes W H a T _ hW hs ha).mono ?_
  rintro e w1 ⟨rfl, b1⟩
  have K1 := Lib.hid ((Blk.new w 25 #[.int .i64 (W : Int), .int .i64 (H : Int), .string T]).ext b1)
  obtain ⟨c0, c1, c2⟩ := map_cells K1.out
  have HE1 := Lib.hid (ext_trans (ext_alloc (Ext.rfl' w) _) b1)
  clear b1
  go_wp2_with fail
  refine (on_yes W H b T _ hW hs hb).mono ?_
  rintro e w2 ⟨rfl, b2⟩
  have K2 := Lib.hid (K1.out.ext b2)
  clear c0 c1 c2
  obtain ⟨c0, c1, c2⟩ := map_cells K2.out
  have HE2 := Lib.hid (ext_trans HE1.out b2)
  clear b2
  go_wp2_with fail
  refine (HA.out _).mono ?_
  rintro e w3 ⟨rfl, b3⟩
  have K3 := Lib.hid (K2.out.ext b3)
  clear c0 c1 c2
  obtain ⟨c0, c1, c2⟩ := map_cells K3.out
  have HE3 := Lib.hid (ext_trans HE2.out b3)
  clear b3
  go_wp2_with fail
  refine (HB.out _).mono ?_
  rintro e w4 ⟨rfl, b4⟩
  have HE4 := Lib.hid (ext_trans HE3.out b4)
  clear b4 c0 c1 c2
  go_wp2_with fail
  all_goals
    go_ret
    exact ⟨ret_int (by have := HF.out; omega), HE4.out⟩
set_option maxHeartbeats 4000000 in
theorem far_no (W H : Nat) (a b : Int) (T : ByteArray) (w : World) (hW : 4 ≤ W) (hs : T.size ≤ 5000) (h : (a < 0 ∨ (T.size : Int) ≤ a) ∨ (b < 0 ∨ (T.size : Int) ≤ b)) : Calls Try.prog 13 #[.agg #[.int .i64 (W : Int), .int .i64 (H : Int), .string T], .int .i64 a, .int .i64 b] w fun e w' => e = .returned (.int .i64 (-1)) ∧ Ext w w' := by
  by_cases ha : a < 0 ∨ (T.size : Int) ≤ a
  · have HA := Lib.hid ha; clear h ha
    go_enter Try.func13, Try.ntmps13
    go_wp2_with fail
    refine (on_no W H a T _ hW hs HA.out).mono ?_
    rintro e w1 ⟨rfl, b1⟩
    have HE1 := Lib.hid (ext_trans (ext_alloc (Ext.rfl' w) _) b1)
    clear b1
    go_wp2_with fail
    go_ret
    exact ⟨rfl, HE1.out⟩
  · have hb : b < 0 ∨ (T.size : Int) ≤ b := by
      rcases h with h | h
      · exact absurd h ha
      · exact h
    obtain ⟨x, rfl⟩ : ∃ x : Nat, a = (x : Int) := ⟨a.toNat, by omega⟩
    have hx : x < T.size := by omega
    have HB := Lib.hid hb; clear h hb ha
    go_enter Try.func13, Try.ntmps13
    go_wp2_with fail
    refine (on_yes W H x T _ hW hs hx).mono ?_
    rintro e w1 ⟨rfl, b1⟩
    obtain ⟨c0, c1, c2⟩ := map_cells ((Blk.new w 25 #[.int .i64 (W : Int), .int .i64 (H : Int), .string T]).ext b1)
    have HE1 := Lib.hid (ext_trans (ext_alloc (Ext.rfl' w) _) b1)
    clear b1
    go_wp2_with fail
    refine (on_no W H b T _ hW hs HB.out).mono ?_
    rintro e w2 ⟨rfl, b2⟩
    have HE2 := Lib.hid (ext_trans HE1.out b2)
    clear b2
    go_wp2_with fail
    go_ret
    exact ⟨rfl, HE2.out⟩
end Go.Proofs.Ytmceaocknlnmpaa.Grid
namespace Go.Proofs.Ytmceaocknlnmpaa.Grid
open Go.ChangeShapes Go.WideShapes Go.ChangeAt Go.RowKit
set_option linter.unusedVariables false

/-- There may be such a map. -/
def okm (w h : Int) (T : ByteArray) : Prop := 4 ≤ w ∧ w ≤ 64 ∧ 4 ≤ h ∧ h ≤ 64 ∧ (T.size : Int) = w * h ∧ ∀ i, (hi : i < T.size) → T[i].toNat ≤ 2
instance (w h : Int) (T : ByteArray) : Decidable (okm w h T) := by unfold okm; infer_instance
def mval (w h : Int) (T : ByteArray) : Value := .agg #[.int .i64 w, .int .i64 h, .string T]
def newR (w h : Int) (T : ByteArray) : Value := if okm w h T then .tuple #[mval w h T, .int .i64 0] else .tuple #[mval 0 0 ⟨#[]⟩, .int .i64 2]
def NewPost (w h : Int) (T : ByteArray) (W : World) (e : Ending) (W' : World) : Prop := e = .returned (newR w h T) ∧ Ext W W'
def MayPost (w h : Int) (T : ByteArray) (W : World) (e : Ending) (W' : World) : Prop := e = .returned (.bool (decide (okm w h T))) ∧ W = W'
def NwRel (W : World) (T : ByteArray) (iv : Value) (wr : World) : Prop := ∃ k : Nat, k ≤ T.size ∧ iv = .int .i64 (k : Int) ∧ (∀ i, (hi : i < T.size) → i < k → T[i].toNat ≤ 2) ∧ Blk wr W.heap.size 25 #[.int .i64 0, .int .i64 0, .string ⟨#[]⟩] ∧ Ext W wr
def MyRel (T : ByteArray) (iv : Value) : Prop := ∃ k : Nat, k ≤ T.size ∧ iv = .int .i64 (k : Int) ∧ (∀ i, (hi : i < T.size) → i < k → T[i].toNat ≤ 2)
set_option maxHeartbeats 4000000 in
theorem new_any (w h : Int) (T : ByteArray) (W : World) (hs : T.size ≤ 5000) (hw1 : -9223372036854775808 ≤ w) (hw2 : w ≤ 9223372036854775807) (hh1 : -9223372036854775808 ≤ h) (hh2 : h ≤ 9223372036854775807) :
    Calls Try.prog 6 #[.int .i64 w, .int .i64 h, .string T] W (NewPost w h T W) := by
  have HR := Lib.hid (show newR w h T = newR w h T from rfl)
  by_cases hr : 4 ≤ w ∧ w ≤ 64 ∧ 4 ≤ h ∧ h ≤ 64
  · obtain ⟨r1, r2, r3, r4⟩ := hr
    obtain ⟨a, rfl⟩ : ∃ a : Nat, w = (a : Int) := ⟨w.toNat, by omega⟩
    obtain ⟨b, rfl⟩ : ∃ b : Nat, h = (b : Int) := ⟨h.toNat, by omega⟩
    obtain ⟨P, hP⟩ : ∃ P, P = a * b := ⟨_, rfl⟩
    have hP1 : (a : Int) * (b : Int) = (P : Int) := by rw [hP]; exact (Int.natCast_mul a b).symm
    have hP2 : P ≤ 64 * 64 := by rw [hP]; exact Nat.mul_le_mul (by omega) (by omega)
    have z1 : ¬ (a : Int) < 4 := by omega
    have z2 : ¬ (64 : Int) < (a : Int) := by omega
    have z3 : ¬ (b : Int) < 4 := by omega
    have z4 : ¬ (64 : Int) < (b : Int) := by omega
    by_cases hsz : T.size = P
    · have z5 : (((T.size : Nat) : Int) != (P : Int)) = false := by rw [hsz]; simp
      have z6 : (((T.size : Nat) : Int) == (P : Int)) = true := by rw [hsz]; simp
      have HOK : Hid ((∀ i, (hi : i < T.size) → T[i].toNat ≤ 2) ↔ okm (a : Int) (b : Int) T) := Lib.hid ⟨fun hall => ⟨r1, r2, r3, r4, by rw [hP1, hsz], hall⟩, fun ho => ho.2.2.2.2.2⟩
      clear hP
      have HSZ := Lib.hid hsz; clear hsz
      have HP1 := Lib.hid hP1
      go_enter Try.func6, Try.ntmps6
      go_wp2_with fail
      go_loopw [34] (fun iv wr => NwRel W T iv wr) (fun iv _ => T.size - (intOf iv).toNat)
      case atStart => exact ⟨0, Nat.zero_le _, rfl, fun i _ h => by omega, Blk.new _ _ _, ext_alloc (Ext.rfl' _) _⟩
      case round =>
        obtain ⟨k, hk, rfl, hall, hB, hE⟩ := hrel
        have HALL := Lib.hid hall; have HB := Lib.hid hB; have HE := Lib.hid hE
        have hlt2 := hB.lt
        obtain ⟨c0, c1, c2⟩ := map_cells hB
        have f0 := hB.frozen 0; have f1 := hB.frozen 1; have f2 := hB.frozen 2
        clear hall hB hE
        by_cases hlt : k < T.size
        · have y0 : (k : Int) < (T.size : Int) := by omega
          have y1 : (0 : Int) ≤ (k : Int) := by omega
          by_cases hbad : 2 < T[k].toNat
          · have y2 : (2 : Int) < (T[k].toNat : Int) := by omega
            have HN : Hid (¬ okm (a : Int) (b : Int) T) := Lib.hid (fun ho => by have := HOK.out.2 ho k hlt; omega)
            clear hbad
            go_wp2_with fail
            exact bodyPost_ret (v := .tuple #[.agg #[.int .i64 0, .int .i64 0, .string ⟨#[]⟩], .int .i64 2]) (by simp [results, Try.results6, go_sem, *]) rfl ⟨by unfold newR; rw [if_neg HN.out]; rfl, ext_set (ext_set (ext_set HE.out (Nat.le_refl _) _) (Nat.le_refl _) _) (Nat.le_refl _) _⟩
          · have y2 : ¬ (2 : Int) < (T[k].toNat : Int) := by omega
            have HA2 : Hid (∀ i, (hi : i < T.size) → i < k + 1 → T[i].toNat ≤ 2) := Lib.hid (fun i hi hik => by
              by_cases e : i = k
              · subst e; omega
              · exact HALL.out i hi (by omega))
            clear hbad
            go_wp2_with fail
            go_roundw
            case rel => exact ⟨k + 1, by omega, by go_num, HA2.out, HB.out, HE.out⟩
            case measure => simp [intOf]; omega
        · have y0 : ¬ (k : Int) < (T.size : Int) := by omega
          have HN : Hid (okm (a : Int) (b : Int) T) := Lib.hid (HOK.out.1 (fun i hi => HALL.out i hi (by omega)))
          go_wp2_with fail
          exact bodyPost_ret (v := .tuple #[.agg #[.int .i64 (a : Int), .int .i64 (b : Int), .string T], .int .i64 0]) (by simp [results, Try.results6, go_sem, *]) rfl ⟨by unfold newR; rw [if_pos HN.out]; rfl, ext_set (ext_set (ext_set HE.out (Nat.le_refl _) _) (Nat.le_refl _) _) (Nat.le_refl _) _⟩
    · have z5 : (((T.size : Nat) : Int) != (P : Int)) = true := by simp; omega
      have z6 : (((T.size : Nat) : Int) == (P : Int)) = false := beq_eq_false_iff_ne.2 (by omega)
      have HN : Hid (¬ okm (a : Int) (b : Int) T) := Lib.hid (fun ho => by have := ho.2.2.2.2.1; rw [hP1] at this; omega)
      clear hP hsz
      go_enter Try.func6, Try.ntmps6
      go_wp2_with fail
      exact bodyPost_ret (v := .tuple #[.agg #[.int .i64 0, .int .i64 0, .string ⟨#[]⟩], .int .i64 2]) (by simp [results, Try.results6, go_sem]) rfl ⟨by unfold newR; rw [if_neg HN.out]; rfl, ext_alloc (Ext.rfl' _) _⟩
  · have HN : Hid (¬ okm w h T) := Lib.hid (fun ho => hr ⟨ho.1, ho.2.1, ho.2.2.1, ho.2.2.2.1⟩)
    by_cases r1 : w < 4
    · clear hr
      go_enter Try.func6, Try.ntmps6
      go_wp2_with fail
      exact bodyPost_ret (v := .tuple #[.agg #[.int .i64 0, .int .i64 0, .string ⟨#[]⟩], .int .i64 2]) (by simp [results, Try.results6, go_sem]) rfl ⟨by unfold newR; rw [if_neg HN.out]; rfl, ext_alloc (Ext.rfl' _) _⟩
    · by_cases r2 : 64 < w
      · clear hr
        go_enter Try.func6, Try.ntmps6
        go_wp2_with fail
        exact bodyPost_ret (v := .tuple #[.agg #[.int .i64 0, .int .i64 0, .string ⟨#[]⟩], .int .i64 2]) (by simp [results, Try.results6, go_sem]) rfl ⟨by unfold newR; rw [if_neg HN.out]; rfl, ext_alloc (Ext.rfl' _) _⟩
      · by_cases r3 : h < 4
        · clear hr
          go_enter Try.func6, Try.ntmps6
          go_wp2_with fail
          exact bodyPost_ret (v := .tuple #[.agg #[.int .i64 0, .int .i64 0, .string ⟨#[]⟩], .int .i64 2]) (by simp [results, Try.results6, go_sem]) rfl ⟨by unfold newR; rw [if_neg HN.out]; rfl, ext_alloc (Ext.rfl' _) _⟩
        · have r4 : 64 < h := by omega
          clear hr
          go_enter Try.func6, Try.ntmps6
          go_wp2_with fail
          exact bodyPost_ret (v := .tuple #[.agg #[.int .i64 0, .int .i64 0, .string ⟨#[]⟩], .int .i64 2]) (by simp [results, Try.results6, go_sem]) rfl ⟨by unfold newR; rw [if_neg HN.out]; rfl, ext_alloc (Ext.rfl' _) _⟩
end Go.Proofs.Ytmceaocknlnmpaa.Grid
