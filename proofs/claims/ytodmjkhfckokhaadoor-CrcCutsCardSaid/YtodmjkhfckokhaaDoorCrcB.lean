/- Plain words of 32 bits: the steps of the checksum; the document's answer, bit by bit. -/
import Derived.Test.YtodmjkhfckokhaaDoorCrcA
namespace Go.Proofs.YtodmjkhfckokhaaDoor.Crc
open Go.ChangeShapes Go.WideShapes Go.ChangeAt Go.RowKit
set_option linter.unusedVariables false

def poly : BitVec 32 := 0xedb88320#32
/-- One step of the checksum. -/
def step (x : BitVec 32) : BitVec 32 := if x.getLsbD 0 = true then x >>> 1 ^^^ poly else x >>> 1
theorem xx (a b p : BitVec 32) : a ^^^ p ^^^ (b ^^^ p) = a ^^^ b := by
  apply BitVec.eq_of_getLsbD_eq
  intro i _
  simp only [BitVec.getLsbD_xor]
  cases a.getLsbD i <;> cases b.getLsbD i <;> cases p.getLsbD i <;> rfl
theorem step_xor (a b : BitVec 32) : step (a ^^^ b) = step a ^^^ step b := by
  unfold step
  rw [BitVec.getLsbD_xor, BitVec.ushiftRight_xor_distrib]
  cases ha : a.getLsbD 0 <;> cases hb : b.getLsbD 0 <;> simp
  · rw [BitVec.xor_assoc]
  · rw [BitVec.xor_assoc, BitVec.xor_comm (b >>> 1), ← BitVec.xor_assoc]
  · exact (xx _ _ _).symm
def stepN : Nat → BitVec 32 → BitVec 32
  | 0, x => x
  | k + 1, x => step (stepN k x)
theorem stepN_xor (k : Nat) (a b : BitVec 32) : stepN k (a ^^^ b) = stepN k a ^^^ stepN k b := by
  induction k with
  | zero => rfl
  | succ k ih => simp only [stepN, ih, step_xor]
theorem stepN_add (j k : Nat) (x : BitVec 32) : stepN (j + k) x = stepN j (stepN k x) := by
  induction j with
  | zero => simp [stepN]
  | succ j ih => rw [Nat.succ_add]; simp only [stepN, ih]
theorem stepN_low (k : Nat) (x : BitVec 32) (h : ∀ i, i < k → x.getLsbD i = false) : stepN k x = x >>> k := by
  induction k with
  | zero => simp [stepN]
  | succ k ih =>
    have e := ih (fun i hi => h i (by omega))
    have hb : (x >>> k).getLsbD 0 = false := by rw [BitVec.getLsbD_ushiftRight]; exact h k (by omega)
    simp only [stepN, e, step, hb]
    simp [BitVec.shiftRight_add]
theorem low_case : ∀ a : Nat, a < 16 → stepN 4 (BitVec.ofNat 32 a) = hw a := by decide
theorem half_eq (m : BitVec 32) : half m = stepN 4 m := by
  have e : m = (m &&& ~~~ 15#32) ^^^ (m &&& 15#32) := by
    apply BitVec.eq_of_getLsbD_eq
    intro i hi
    simp only [BitVec.getLsbD_xor, BitVec.getLsbD_and, BitVec.getLsbD_not]
    cases m.getLsbD i <;> cases (15#32).getLsbD i <;> simp [hi]
  have h1 : stepN 4 (m &&& ~~~ 15#32) = m >>> 4 := by
    rw [stepN_low 4 _ (fun i hi => by
      have : (15#32).getLsbD i = true := by
        have : i = 0 ∨ i = 1 ∨ i = 2 ∨ i = 3 := by omega
        rcases this with rfl | rfl | rfl | rfl <;> decide
      rw [BitVec.getLsbD_and, BitVec.getLsbD_not, this]; simp)]
    apply BitVec.eq_of_getLsbD_eq
    intro i hi
    simp only [BitVec.getLsbD_ushiftRight, BitVec.getLsbD_and, BitVec.getLsbD_not]
    by_cases h : 4 + i < 32
    · have : (15#32).getLsbD (4 + i) = false := by
        rw [BitVec.getLsbD, BitVec.toNat_ofNat]
        rw [Nat.testBit_eq_decide_div_mod_eq]
        have : (16 : Nat) ≤ 2 ^ (4 + i) := by
          calc (16 : Nat) = 2 ^ 4 := rfl
            _ ≤ 2 ^ (4 + i) := Nat.pow_le_pow_right (by omega) (by omega)
        rw [Nat.div_eq_of_lt (by omega)]; rfl
      rw [this]; simp [h]
    · rw [BitVec.getLsbD_of_ge m (4 + i) (by omega)]; simp
  have h2 : stepN 4 (m &&& 15#32) = hw (m &&& 15#32).toNat := by
    have := low_case _ (and15_lt m)
    rwa [BitVec.ofNat_toNat, BitVec.setWidth_eq] at this
  conv => rhs; rw [e]
  rw [stepN_xor, h1, h2]
  rfl
theorem byte_eq (n : BitVec 32) (c : Nat) : byteW n c = stepN 8 (n ^^^ BitVec.ofNat 32 c) := by
  unfold byteW
  rw [half_eq, half_eq, ← stepN_add]
/-- One bit, as the document has it. -/
theorem bit_step (n : BitVec 32) (c : Nat) (hc : c < 256) (x : BitVec 32) (hx : x = if (n.toNat + c) % 2 = 1 then n >>> 1 ^^^ poly else n >>> 1) :
    x ^^^ BitVec.ofNat 32 (c / 2) = step (n ^^^ BitVec.ofNat 32 c) := by
  have e1 : (BitVec.ofNat 32 c) >>> 1 = BitVec.ofNat 32 (c / 2) := by
    apply BitVec.eq_of_toNat_eq
    rw [BitVec.toNat_ushiftRight, Nat.shiftRight_eq_div_pow, BitVec.toNat_ofNat, BitVec.toNat_ofNat]
    omega
  have e2 : ((n ^^^ BitVec.ofNat 32 c).getLsbD 0 = true) ↔ (n.toNat + c) % 2 = 1 := by
    rw [BitVec.getLsbD_xor, BitVec.getLsbD, BitVec.getLsbD, BitVec.toNat_ofNat, Nat.testBit_zero, Nat.testBit_zero]
    have : c % 2 ^ 32 = c := Nat.mod_eq_of_lt (by omega)
    rw [this]
    by_cases h1 : n.toNat % 2 = 1 <;> by_cases h2 : c % 2 = 1 <;> simp [h1, h2] <;> omega
  unfold step
  rw [BitVec.ushiftRight_xor_distrib, e1]
  by_cases h : (n.toNat + c) % 2 = 1
  · rw [if_pos (e2.2 h), hx, if_pos h, BitVec.xor_assoc, BitVec.xor_comm poly, ← BitVec.xor_assoc]
  · rw [if_neg (fun g => h (e2.1 g)), hx, if_neg h]
end Go.Proofs.YtodmjkhfckokhaaDoor.Crc
