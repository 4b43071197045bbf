/- Contracts of package delta: how many zeros stand from a place on. -/
import Derived.Test.YtodmjkhfckokhaaDelA
import Derived.LoopTactic
namespace Go.Proofs.Ytodmjkhfckokhaa.Delta
open Go.ChangeShapes Go.WideShapes Go.ChangeAt Go.RowKit
open Go.Proofs.Ytodmjkhfckokhaa.Wire
set_option linter.unusedVariables false

/-- How many zeros stand ahead. -/
def zr : List Nat → Nat
  | [] => 0
  | c :: cs => if c = 0 then zr cs + 1 else 0
theorem zr_le (l : List Nat) : zr l ≤ l.length := by
  induction l with
  | nil => simp [zr]
  | cons c cs ih =>
    rw [zr, List.length_cons]
    split <;> omega
theorem zr_at {xs : List Nat} {k : Nat} (h : k < xs.length) : zr (xs.drop k) = if xs.getD k 0 = 0 then zr (xs.drop (k + 1)) + 1 else 0 := by
  rw [List.drop_eq_getElem_cons h, zr, List.getD_eq_getElem?_getD, List.getElem?_eq_getElem h]; rfl
def ZRel (xs : List Nat) (from_ : Nat) (tv : Value) : Prop := ∃ k : Nat, from_ ≤ k ∧ k ≤ xs.length ∧ tv = .int .i64 (k : Int) ∧ k + zr (xs.drop k) = from_ + zr (xs.drop from_)
set_option maxHeartbeats 2000000 in
set_option maxRecDepth 100000 in
theorem zeros (xb n c from_ : Nat) (A : Option Addr) (xs : List Nat) (w : World) (hx : w.cell? ⟨xb, 0, none⟩ = some (.slice A n c)) (hB : Bs w A n xs) (hf : from_ ≤ n) (hn : n ≤ 4000000000) :
    Calls Try.prog 79 #[.int .i64 (from_ : Int), .pointer (some ⟨xb, 0, none⟩)] w fun e w' => e = .returned (.int .i64 (zr (xs.drop from_) : Nat)) ∧ w = w' := by
  have hxl : xs.length = n := hB.1
  subst hxl
  have HB := Lib.hid hB; clear hB
  have HZL := Lib.hid (zr_le (xs.drop from_))
  go_enter Try.func79, Try.ntmps79
  go_wp2_with fail
  go_loop [4] (fun tv => ZRel xs from_ tv) (fun tv => xs.length - (intOf tv).toNat)
  case atStart => exact ⟨from_, Nat.le_refl _, hf, rfl, rfl⟩
  case round =>
    obtain ⟨k, hk1, hk2, rfl, hz⟩ := hrel
    have HZ := Lib.hid hz; clear hz
    have k0 : (0 : Int) ≤ (k : Int) := by omega
    by_cases hlt : k < xs.length
    · have k1 : (k : Int) < (xs.length : Int) := by omega
      obtain ⟨b, o, rfl, _, hcell⟩ := HB.out.2.2 (by omega)
      have a0 := hcell k hlt
      clear hcell
      have HA := Lib.hid (zr_at hlt)
      by_cases h0 : xs.getD k 0 = 0
      · have HA2 : Hid (zr (xs.drop k) = zr (xs.drop (k + 1)) + 1) := Lib.hid (by rw [HA.out, if_pos h0])
        rw [h0] at a0
        clear h0
        go_wp2_with fail
        go_round
        case rel => exact ⟨k + 1, by omega, by omega, by go_num, by have := HZ.out; have := HA2.out; omega⟩
        case measure => simp [intOf]; omega
      · have HA2 : Hid (zr (xs.drop k) = 0) := Lib.hid (by rw [HA.out, if_neg h0])
        have hb : (((xs.getD k 0 : Nat) : Int) == 0) = false := beq_eq_false_iff_ne.2 (by omega)
        have HR : Hid (IntKind.i64.wrap ((k : Int) - (from_ : Int)) = ((zr (xs.drop from_) : Nat) : Int)) := Lib.hid (by rw [IntWalk.i64_in _ (by omega)]; have := HZ.out; have := HA2.out; omega)
        have HR2 : Hid ((k : Int) - (from_ : Int) = ((zr (xs.drop from_) : Nat) : Int)) := Lib.hid (by have := HZ.out; have := HA2.out; omega)
        clear h0
        generalize xs.getD k 0 = xk at *
        go_wp2_with fail
        go_ret
        exact ⟨ret_int HR2.out, rfl⟩
    · have k1 : ¬ (k : Int) < (xs.length : Int) := by omega
      have HR2 : Hid ((k : Int) - (from_ : Int) = ((zr (xs.drop from_) : Nat) : Int)) := Lib.hid (by
        have := HZ.out
        rw [List.drop_of_length_le (show xs.length ≤ k by omega), zr] at this
        omega)
      go_wp2_with fail
      go_ret
      exact ⟨ret_int HR2.out, rfl⟩
end Go.Proofs.Ytodmjkhfckokhaa.Delta
