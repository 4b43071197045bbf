/- Plain words of 32 bits: checksums of what is cut; of what is changed. -/
import Derived.Test.YtodmjkhfckokhaaDoorCrcB
namespace Go.Proofs.YtodmjkhfckokhaaDoor.Crc
open Go.ChangeShapes Go.WideShapes Go.ChangeAt Go.RowKit
set_option linter.unusedVariables false

theorem feed_append (n : BitVec 32) (xs ys : List Nat) : feed n (xs ++ ys) = feed (feed n xs) ys := List.foldl_append
theorem more_append (s : BitVec 32) (xs ys : List Nat) : moreW (moreW s xs) ys = moreW s (xs ++ ys) := by
  unfold moreW
  rw [BitVec.not_not, feed_append]
theorem more_nil_eq (s : BitVec 32) : moreW s [] = s := by simp [moreW, feed]
theorem step_top (x : BitVec 32) : (step x).getLsbD 31 = x.getLsbD 0 := by
  unfold step
  cases h : x.getLsbD 0 with
  | true =>
    rw [if_pos rfl, BitVec.getLsbD_xor, BitVec.getLsbD_ushiftRight, BitVec.getLsbD_of_ge x (1 + 31) (by omega)]
    decide
  | false =>
    rw [if_neg (by simp), BitVec.getLsbD_ushiftRight, BitVec.getLsbD_of_ge x (1 + 31) (by omega)]
theorem xor_cancel {a b p : BitVec 32} (h : a ^^^ p = b ^^^ p) : a = b := by
  have := congrArg (· ^^^ p) h
  simpa [BitVec.xor_assoc] using this
theorem step_inj {x y : BitVec 32} (h : step x = step y) : x = y := by
  have h0 : x.getLsbD 0 = y.getLsbD 0 := by rw [← step_top, ← step_top, h]
  have h1 : x >>> 1 = y >>> 1 := by
    unfold step at h
    rw [h0] at h
    by_cases hb : y.getLsbD 0 = true
    · rw [if_pos hb, if_pos hb] at h; exact xor_cancel h
    · rw [if_neg hb, if_neg hb] at h; exact h
  apply BitVec.eq_of_getLsbD_eq
  intro i hi
  cases i with
  | zero => exact h0
  | succ i =>
    have := congrArg (·.getLsbD i) h1
    simp only [BitVec.getLsbD_ushiftRight] at this
    rwa [Nat.add_comm 1 i] at this
theorem stepN_inj (k : Nat) {x y : BitVec 32} (h : stepN k x = stepN k y) : x = y := by
  induction k with
  | zero => exact h
  | succ k ih => exact ih (step_inj h)
theorem byte_inj {n m : BitVec 32} {c : Nat} (h : byteW n c = byteW m c) : n = m := by
  rw [byte_eq, byte_eq] at h
  exact xor_cancel (stepN_inj 8 h)
theorem feed_inj (ys : List Nat) : ∀ {n m : BitVec 32}, feed n ys = feed m ys → n = m := by
  induction ys with
  | nil => intro n m h; exact h
  | cons c ys ih => intro n m h; exact byte_inj (ih h)
/-- Up to four bytes as one word. -/
def word : List Nat → BitVec 32
  | [] => 0#32
  | c :: u => BitVec.ofNat 32 c ^^^ word u <<< 8
theorem word_high (u : List Nat) (hb : ∀ c ∈ u, c < 256) : ∀ i, 8 * u.length ≤ i → (word u).getLsbD i = false := by
  induction u with
  | nil => intro i _; simp [word]
  | cons c u ih =>
    intro i hi
    simp only [List.length_cons] at hi
    rw [word, BitVec.getLsbD_xor, BitVec.getLsbD_shiftLeft, ih (fun c hc => hb c (by simp [hc])) (i - 8) (by omega)]
    have : (BitVec.ofNat 32 c).getLsbD i = false := by
      rw [BitVec.getLsbD, BitVec.toNat_ofNat]
      apply Nat.testBit_lt_two_pow
      have h1 := hb c (by simp)
      have h2 : (256 : Nat) ≤ 2 ^ i := by
        calc (256 : Nat) = 2 ^ 8 := rfl
          _ ≤ 2 ^ i := Nat.pow_le_pow_right (by omega) (by omega)
      exact Nat.lt_of_le_of_lt (Nat.mod_le _ _) (by omega)
    rw [this]; simp
theorem word_shift (u : List Nat) (hb : ∀ c ∈ u, c < 256) (hl : u.length ≤ 3) : stepN 8 (word u <<< 8) = word u := by
  rw [stepN_low 8 _ (fun i hi => by rw [BitVec.getLsbD_shiftLeft]; simp [hi])]
  apply BitVec.eq_of_getLsbD_eq
  intro i hi
  rw [BitVec.getLsbD_ushiftRight, BitVec.getLsbD_shiftLeft]
  by_cases h : 8 + i < 32
  · simp [h]
  · rw [word_high u hb i (by omega)]
    simp [h]
theorem feed_word (u : List Nat) : ∀ (n : BitVec 32), (∀ c ∈ u, c < 256) → u.length ≤ 4 → feed n u = stepN (8 * u.length) (n ^^^ word u) := by
  induction u with
  | nil => intro n _ _; simp [feed, word, stepN]
  | cons c u ih =>
    intro n hb hl
    simp only [List.length_cons] at hl
    have hb' : ∀ c ∈ u, c < 256 := fun d hd => hb d (by simp [hd])
    show feed (byteW n c) u = _
    rw [ih _ hb' (by omega), byte_eq, List.length_cons, Nat.mul_succ, stepN_add, word, ← BitVec.xor_assoc, stepN_xor 8 (n ^^^ BitVec.ofNat 32 c), word_shift u hb' (by omega)]
theorem word_inj (u : List Nat) : ∀ (v : List Nat), u.length = v.length → (∀ c ∈ u, c < 256) → (∀ c ∈ v, c < 256) → u.length ≤ 4 → word u = word v → u = v := by
  induction u with
  | nil => intro v hl _ _ _ _; exact (List.eq_nil_of_length_eq_zero hl.symm).symm
  | cons c u ih =>
    intro v hl hu hv h4 h
    cases v with
    | nil => simp at hl
    | cons d v =>
      simp only [List.length_cons] at hl h4
      have hc := hu c (by simp)
      have hd := hv d (by simp)
      rw [word, word] at h
      have low : c = d := by
        have key : ∀ i, i < 8 → c.testBit i = d.testBit i := fun i hi => by
          have := congrArg (·.getLsbD i) h
          simp only [BitVec.getLsbD_xor, BitVec.getLsbD_shiftLeft] at this
          have e : ∀ c : Nat, c < 256 → (BitVec.ofNat 32 c).getLsbD i = c.testBit i := fun c hc => by
            rw [BitVec.getLsbD, BitVec.toNat_ofNat, Nat.mod_eq_of_lt (by omega)]
          rw [e c hc, e d hd] at this
          simpa [hi] using this
        apply Nat.eq_of_testBit_eq
        intro i
        by_cases hi : i < 8
        · exact key i hi
        · have h2 : (256 : Nat) ≤ 2 ^ i := by
            calc (256 : Nat) = 2 ^ 8 := rfl
              _ ≤ 2 ^ i := Nat.pow_le_pow_right (by omega) (by omega)
          rw [Nat.testBit_lt_two_pow (by omega), Nat.testBit_lt_two_pow (by omega)]
      subst low
      have hw : word u <<< 8 = word v <<< 8 := by
        have := congrArg (BitVec.ofNat 32 c ^^^ ·) h
        simpa [← BitVec.xor_assoc] using this
      have hw2 : word u = word v := by
        have := congrArg (stepN 8) hw
        rwa [word_shift u (fun d hd => hu d (by simp [hd])) (by omega), word_shift v (fun e he => hv e (by simp [he])) (by omega)] at this
      rw [ih v (by omega) (fun d hd => hu d (by simp [hd])) (fun e he => hv e (by simp [he])) (by omega) hw2]
/-- At most four bytes in a row that are others: the checksum is another one. -/
theorem burst (n : BitVec 32) (a u v z : List Nat) (hl : u.length = v.length) (hu : ∀ c ∈ u, c < 256) (hv : ∀ c ∈ v, c < 256) (h4 : u.length ≤ 4) (h : moreW n (a ++ u ++ z) = moreW n (a ++ v ++ z)) : u = v := by
  have h1 : feed (~~~ n) (a ++ u ++ z) = feed (~~~ n) (a ++ v ++ z) := by
    have := congrArg (~~~ ·) h
    simpa [moreW, BitVec.not_not] using this
  rw [feed_append, feed_append, feed_append, feed_append] at h1
  have h2 := feed_inj z h1
  rw [feed_word u _ hu h4, feed_word v _ hv (by omega), hl] at h2
  have h3 := stepN_inj _ h2
  have h5 : word u = word v := by
    have := congrArg (feed (~~~ n) a ^^^ ·) h3
    simpa [← BitVec.xor_assoc] using this
  exact word_inj u v hl hu hv h4 h5
end Go.Proofs.YtodmjkhfckokhaaDoor.Crc
