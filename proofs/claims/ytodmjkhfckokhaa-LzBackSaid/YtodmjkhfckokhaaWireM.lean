/- Plain numbers: varints as lists of bytes, and how they are read back. -/
import Derived.Test.YtodmjkhfckokhaaByt
namespace Go.Proofs.Ytodmjkhfckokhaa.Wire
open Go.ChangeShapes Go.WideShapes Go.ChangeAt Go.RowKit
set_option linter.unusedVariables false

/-- A number's bytes. -/
def vb (n : Nat) : List Nat := if h : n < 128 then [n] else (n % 128 + 128) :: vb (n / 128)
termination_by n
decreasing_by omega
theorem vb_small {n : Nat} (h : n < 128) : vb n = [n] := by rw [vb, dif_pos h]
theorem vb_more {n : Nat} (h : ¬ n < 128) : vb n = (n % 128 + 128) :: vb (n / 128) := by rw [vb, dif_neg h]
theorem vb_pos (n : Nat) : 1 ≤ (vb n).length := by
  by_cases h1 : n < 128
  · rw [vb_small h1]; simp
  · rw [vb_more h1]; simp
theorem vb_len (k : Nat) : ∀ n, n < 128 ^ (k + 1) → (vb n).length ≤ k + 1 := by
  induction k with
  | zero => intro n h; rw [vb_small (by simpa using h)]; simp
  | succ k ih =>
    intro n h
    by_cases h1 : n < 128
    · rw [vb_small h1]; simp
    · rw [vb_more h1, List.length_cons]
      have := ih (n / 128) (by
        rw [Nat.pow_succ] at h
        exact Nat.div_lt_of_lt_mul (by rw [Nat.mul_comm]; exact h))
      omega
theorem vb_ten {n : Nat} (h : n < 18446744073709551616) : (vb n).length ≤ 10 := vb_len 9 n (Nat.lt_trans h (by decide))
theorem vb_mem (n : Nat) : ∀ c ∈ vb n, c < 256 := by
  induction n using Nat.strongRecOn with
  | _ n ih =>
    intro c hc
    by_cases h1 : n < 128
    · rw [vb_small h1] at hc; simp at hc; omega
    · rw [vb_more h1] at hc
      rcases List.mem_cons.1 hc with rfl | hc
      · omega
      · exact ih (n / 128) (by omega) c hc
theorem vb_byte (n : Nat) : ∀ j, (vb n).getD j 0 < 256 := small_mem (vb_mem n)
/-- What reading tells. -/
inductive VR where
  | short
  | form
  | ok (v k : Nat)
/-- A varint that stands next, size bytes of which were read. -/
def vr (size acc : Nat) : List Nat → VR
  | [] => .short
  | c :: cs =>
    if (size = 9 ∧ 1 < c) ∨ (0 < size ∧ c = 0) then .form
    else if c < 128 then .ok (acc + c * 128 ^ size) (size + 1)
    else vr (size + 1) (acc + (c - 128) * 128 ^ size) cs
theorem pow_split {s : Nat} (h : s ≤ 8) : 2 ^ (64 - 7 * s) = 128 * 2 ^ (64 - 7 * (s + 1)) := by
  rw [show 64 - 7 * s = 7 + (64 - 7 * (s + 1)) from by omega, Nat.pow_add]
theorem pow_eight {s : Nat} (h : s ≤ 8) : 128 < 2 ^ (64 - 7 * s) := by
  have : 2 ^ 8 ≤ 2 ^ (64 - 7 * s) := Nat.pow_le_pow_right (by omega) (by omega)
  omega
theorem vr_vb (m : Nat) : ∀ (size acc : Nat) (ys : List Nat), size ≤ 9 → m < 2 ^ (64 - 7 * size) → (0 < size → 0 < m) → vr size acc (vb m ++ ys) = .ok (acc + m * 128 ^ size) (size + (vb m).length) := by
  induction m using Nat.strongRecOn with
  | _ m ih =>
    intro size acc ys hs hm hz
    by_cases h1 : m < 128
    · rw [vb_small h1]
      show vr size acc (m :: ys) = _
      rw [vr, if_neg, if_pos h1]
      · rfl
      · rintro (⟨rfl, h⟩ | ⟨h, rfl⟩)
        · simp at hm; omega
        · exact absurd (hz h) (by omega)
    · have h8 : size ≤ 8 := by
        rcases Nat.lt_or_ge 8 size with h | h
        · obtain rfl : size = 9 := by omega
          simp at hm; omega
        · exact h
      rw [vb_more h1]
      show vr size acc ((m % 128 + 128) :: (vb (m / 128) ++ ys)) = _
      rw [vr, if_neg (by omega), if_neg (by omega), ih (m / 128) (by omega) _ _ _ (by omega) _ (by omega)]
      · rw [List.length_cons]
        congr 1
        · rw [Nat.add_sub_cancel, Nat.pow_succ, Nat.add_assoc, ← Nat.mul_assoc, Nat.mul_right_comm, ← Nat.add_mul]
          congr 2
          omega
        · omega
      · rw [pow_split h8] at hm; omega
theorem vr_put {m : Nat} (h : m < 18446744073709551616) (ys : List Nat) : vr 0 0 (vb m ++ ys) = .ok m (vb m).length := by
  rw [vr_vb m 0 0 ys (by omega) (by simpa using h) (by omega)]
  simp
theorem vr_of (xs : List Nat) : ∀ (size acc v k : Nat), (∀ c ∈ xs, c < 256) → size ≤ 9 → vr size acc xs = .ok v k →
    ∃ m, v = acc + m * 128 ^ size ∧ k = size + (vb m).length ∧ vb m = xs.take (vb m).length ∧ m < 2 ^ (64 - 7 * size) ∧ (0 < size → 0 < m) := by
  induction xs with
  | nil => intro size acc v k _ _ h; cases h
  | cons c cs ih =>
    intro size acc v k hb hs h
    have hc := hb c (by simp)
    rw [vr] at h
    by_cases h1 : (size = 9 ∧ 1 < c) ∨ (0 < size ∧ c = 0)
    · rw [if_pos h1] at h; cases h
    · rw [if_neg h1] at h
      by_cases h2 : c < 128
      · rw [if_pos h2] at h
        cases h
        refine ⟨c, rfl, by rw [vb_small h2]; rfl, by rw [vb_small h2]; rfl, ?_, by omega⟩
        by_cases h9 : size = 9
        · subst h9; simp; omega
        · have := pow_eight (s := size) (by omega); omega
      · rw [if_neg h2] at h
        have h8 : size ≤ 8 := by omega
        obtain ⟨m, e1, e2, e3, e4, e5⟩ := ih (size + 1) _ v k (fun d hd => hb d (by simp [hd])) (by omega) h
        have hm0 := e5 (by omega)
        have hd1 : ((c - 128) + 128 * m) % 128 = c - 128 := by omega
        have hd2 : ((c - 128) + 128 * m) / 128 = m := by omega
        have hv : vb ((c - 128) + 128 * m) = c :: vb m := by
          rw [vb_more (by omega), hd1, hd2, show c - 128 + 128 = c from by omega]
        refine ⟨(c - 128) + 128 * m, ?_, ?_, ?_, ?_, by omega⟩
        · rw [e1, Nat.add_mul, Nat.pow_succ]
          rw [show 128 * m * 128 ^ size = m * (128 ^ size * 128) from by rw [Nat.mul_comm 128 m, Nat.mul_assoc, Nat.mul_comm 128]]
          omega
        · rw [hv, List.length_cons]; omega
        · rw [hv, List.length_cons, List.take_succ_cons, ← e3]
        · rw [pow_split h8]; omega
theorem vr_ok {xs : List Nat} {v k : Nat} (hb : ∀ c ∈ xs, c < 256) (h : vr 0 0 xs = .ok v k) : vb v = xs.take k ∧ k = (vb v).length ∧ v < 18446744073709551616 ∧ k ≤ xs.length := by
  obtain ⟨m, e1, e2, e3, e4, _⟩ := vr_of xs 0 0 v k hb (by omega) h
  have hv : v = m := by simpa using e1
  subst hv
  have hk : k = (vb v).length := by omega
  refine ⟨by rw [hk]; exact e3, hk, by simpa using e4, ?_⟩
  have := congrArg List.length e3
  rw [List.length_take] at this
  omega
theorem vb_head {a b : Nat} (ha : a < 18446744073709551616) (hb : b < 18446744073709551616) {ys : List Nat} (h : vb b = vb a ++ ys) : a = b := by
  have h1 := vr_put ha ys
  have h2 := vr_put hb []
  rw [List.append_nil, h, h1] at h2
  exact (VR.ok.inj h2).1
theorem vb_inj {a b : Nat} (ha : a < 18446744073709551616) (hb : b < 18446744073709551616) (h : vb a = vb b) : a = b := vb_head ha hb (ys := []) (by rw [List.append_nil, h])
/-- Of two varints, as long as the shorter one is, the heads are the same just if the numbers are. -/
theorem heads {a b n : Nat} (ha : a < 18446744073709551616) (hb : b < 18446744073709551616) (hn : n = min (vb a).length (vb b).length) : (vb a).take n = (vb b).take n ↔ a = b := by
  constructor
  · intro h
    rcases Nat.le_total (vb a).length (vb b).length with hl | hl
    · rw [Nat.min_eq_left hl] at hn
      subst hn
      rw [List.take_length] at h
      refine vb_head ha hb (ys := (vb b).drop (vb a).length) ?_
      conv => lhs; rw [← List.take_append_drop (vb a).length (vb b), ← h]
    · rw [Nat.min_eq_right hl] at hn
      subst hn
      rw [List.take_length] at h
      refine (vb_head hb ha (ys := (vb a).drop (vb b).length) ?_).symm
      conv => lhs; rw [← List.take_append_drop (vb b).length (vb a), h]
  · rintro rfl; rfl
/-- Zigzag. -/
def zz (m : Int) : Nat := (if 0 ≤ m then 2 * m else -2 * m - 1).toNat
def uz (n : Nat) : Int := if n % 2 = 0 then (n / 2 : Nat) else -((n / 2 : Nat) : Int) - 1
theorem uz_zz (m : Int) : uz (zz m) = m := by
  unfold uz zz
  by_cases h : 0 ≤ m
  · rw [if_pos h, if_pos (by omega)]; omega
  · rw [if_neg h, if_neg (by omega)]; omega
theorem zz_lt {m : Int} (h1 : -9223372036854775808 ≤ m) (h2 : m ≤ 9223372036854775807) : zz m < 18446744073709551616 := by
  unfold zz; by_cases h : 0 ≤ m
  · rw [if_pos h]; omega
  · rw [if_neg h]; omega
/-- A fixed number's bytes. -/
def fx (n : Nat) : List Nat := [n / 16777216, n / 65536 % 256, n / 256 % 256, n % 256]
theorem fx_mem {n : Nat} (h : n < 4294967296) : ∀ c ∈ fx n, c < 256 := by
  intro c hc
  simp only [fx, List.mem_cons, List.not_mem_nil, or_false] at hc
  omega
end Go.Proofs.Ytodmjkhfckokhaa.Wire
