/- Path: the document's in, far and best. -/
import Derived.Test.YtmceaocknlnmpaaPthU
import Derived.Test.YtmceaocknlnmpaaGrdG
namespace Go.Proofs.Ytmceaocknlnmpaa.Pth
open Go.ChangeShapes Go.WideShapes Go.ChangeAt Go.RowKit
open Go.Proofs.Ytmceaocknlnmpaa.Rec Go.Proofs.Ytmceaocknlnmpaa.Grid
set_option linter.unusedVariables false
def cZ (z : Int) : List Value := [.int .i64 z]
theorem cZ_len (z : Int) : (cZ z).length = 1 := rfl
/-- A tile of the document's. -/
def cT (x : Ti) : List Value := [.bool x.seen, .bool x.opn, .int .i64 (x.g : Int), .int .i64 (x.by' : Int)]
theorem cT_len (x : Ti) : (cT x).length = 4 := rfl
set_option maxHeartbeats 1000000 in
set_option maxRecDepth 100000 in
theorem in_ref (A : Option Addr) (n c : Nat) (z : Int) (zs : List Int) (w : World) (hR : RowR w A n 1 cZ zs) (hn : n ≤ 100000) : Calls Try.prog 25 #[.slice A n c, .int .i64 z] w fun e w' => e = .returned (.bool (decide (z ∈ zs))) ∧ w = w' := by
  obtain ⟨hl, hc⟩ := hR
  have HC := Lib.hid hc
  have HL := Lib.hid hl
  clear hl hc
  go_enter Try.func25, Try.ntmps25
  go_wp2_with fail
  go_loopw [5] (fun iv wr => ∃ i : Nat, iv = .int .i64 (i : Int) ∧ i ≤ n ∧ (∀ k, (h : k < zs.length) → k < i → zs[k] ≠ z) ∧ w = wr) (fun iv _ => n - (intOf iv).toNat)
  case atStart => exact ⟨0, rfl, by omega, fun k _ h => absurd h (by omega), rfl⟩
  case round =>
    obtain ⟨i, rfl, hi, hz, rfl⟩ := hrel
    have HZ := Lib.hid hz
    clear hz
    by_cases hin : i < n
    · obtain ⟨b, o, rfl, hb, hcell⟩ := HC.out (by omega)
      have hiz : i < zs.length := by rw [HL.out]; exact hin
      have ci := hcell i hiz 0 (by omega)
      simp only [cZ, List.getElem?_cons_zero, Nat.add_zero, Nat.mul_one] at ci
      obtain ⟨x, hx⟩ : ∃ x, x = zs[i] := ⟨_, rfl⟩
      rw [← hx] at ci
      have HX := Lib.hid hx
      clear hx hcell
      have y1 : (i : Int) < (n : Int) := by omega
      have y2 : (0 : Int) ≤ (i : Int) := by omega
      have y3 : IntKind.i64.wrap ((i : Int) + 1) = ((i + 1 : Nat) : Int) := by rw [IntWalk.i64_in _ (by omega)]; omega
      by_cases hxz : x = z
      · subst hxz
        have HM : Hid (decide (x ∈ zs) = true) := Lib.hid (decide_eq_true (by rw [HX.out]; exact List.getElem_mem _))
        go_wp2_with fail
        go_ret
        exact ⟨by rw [HM.out]; rfl, rfl⟩
      · go_wp2_with fail
        go_roundw
        case measure => simp only [intOf]; omega
        case rel =>
          refine ⟨i + 1, rfl, by omega, fun k hk hki => ?_, trivial⟩
          rcases Nat.lt_or_eq_of_le (Nat.le_of_lt_succ hki) with h | h
          · exact HZ.out k hk h
          · subst h; rw [← HX.out]; exact hxz
    · have y1 : ¬ (i : Int) < (n : Int) := by omega
      have HM : Hid (decide (z ∈ zs) = false) := Lib.hid (decide_eq_false (fun h => by
        obtain ⟨k, hk, e⟩ := List.getElem_of_mem h
        exact HZ.out k hk (by have := HL.out; omega) e))
      go_wp2_with fail
      go_ret
      exact ⟨by rw [HM.out]; rfl, rfl⟩
set_option maxHeartbeats 1000000 in
set_option maxRecDepth 100000 in
theorem far_ref (W H P t tt nr : Nat) (T : ByteArray) (w : World) (hW : 4 ≤ W) (hW2 : W ≤ 64) (hP : P = W * H) (hP2 : P ≤ 5000) (ht : t < P) (htt : tt < P) (hnr : (nr : Int) ≤ 9223372036854775807) :
    Calls Try.prog 22 #[.agg #[.int .i64 (W : Int), .int .i64 (H : Int), .string T], .int .i64 (t : Int), .int .i64 (tt : Int), .int .i64 (nr : Int)] w fun e w' => e = .returned (.int .i64 ((hh W tt nr t : Nat) : Int)) ∧ Ext w w' := by
  have HFAR := Lib.hid (fun w' => rfar_yes W H P t tt T w' hW hP hP2 ht htt)
  have hfl := far_small (W := W) (a := t) (b := tt) (by omega)
  have HH : Hid (hh W tt nr t = far W t tt - nr) := Lib.hid rfl
  obtain ⟨fv, hfv⟩ : ∃ fv, fv = far W t tt := ⟨_, rfl⟩
  rw [← hfv] at HFAR HH hfl
  clear hfv
  have y1 : IntKind.i64.wrap ((fv : Int) - (nr : Int)) = (fv : Int) - (nr : Int) := IntWalk.i64_in _ (by omega)
  rw [HH.out]
  obtain ⟨r, hr⟩ : ∃ r, r = fv - nr := ⟨_, rfl⟩
  rw [← hr]
  have HRR := Lib.hid hr
  clear hr HH
  go_enter Try.func22, Try.ntmps22
  go_wp2_with fail
  refine (HFAR.out _).mono ?_
  rintro e w1 ⟨rfl, b1⟩
  have HE := Lib.hid (ext_trans (ext_alloc (Ext.rfl' w) _) b1)
  clear b1
  by_cases hlt : (fv : Int) - (nr : Int) < 0
  · go_wp2_with fail
    go_ret
    exact ⟨ret_int (by have := HRR.out; omega), HE.out⟩
  · go_wp2_with fail
    go_ret
    exact ⟨ret_int (by have := HRR.out; omega), HE.out⟩
def oV : Option Nat → Int
  | none => -1
  | some t => (t : Int)
end Go.Proofs.Ytmceaocknlnmpaa.Pth
