/- Plain lists: how long a difference is; what is mixed twice. -/
import Derived.Test.YtodmjkhfckokhaaDelM
namespace Go.Proofs.Ytodmjkhfckokhaa.Delta
open Go.ChangeShapes Go.WideShapes Go.ChangeAt Go.RowKit
open Go.Proofs.Ytodmjkhfckokhaa.Wire
set_option linter.unusedVariables false

/-- Where a literal ends four zeros stand, or zeros alone. -/
theorem lit_end (l : List Nat) : 4 ≤ zr (l.drop (lit l)) ∨ zr (l.drop (lit l)) = (l.drop (lit l)).length := by
  induction l with
  | nil => right; simp [zr]
  | cons c cs ih =>
    by_cases h : 4 ≤ zr (c :: cs) ∨ zr (c :: cs) = (c :: cs).length
    · rw [lit_stop h, List.drop_zero]; exact h
    · rw [lit, if_neg h, List.drop_succ_cons]; exact ih
theorem vb_two {n : Nat} (h : n < 16384) : (vb n).length ≤ 2 := vb_len 1 n (by omega)
theorem vb_one {n : Nat} (h : n < 128) : (vb n).length = 1 := by rw [vb_small h]; rfl
theorem enc_len (k : Nat) : ∀ l : List Nat, l.length ≤ k → l.length < 16384 → (enc l).length ≤ l.length + 3 ∧ (4 ≤ zr l ∨ zr l = l.length → (enc l).length ≤ l.length) := by
  induction k with
  | zero =>
    intro l hl _
    rw [enc_stop (by omega)]
    simp
  | succ k ih =>
    intro l hl hb
    by_cases h : zr l < l.length
    · have h1 := zr_full h
      have h2 := lit_pos h1.2 h1.1
      have h3 := lit_le (l.drop (zr l))
      have h4 := lit_end (l.drop (zr l))
      rw [List.drop_drop] at h4
      have h5 := (ih (l.drop (zr l + lit (l.drop (zr l)))) (by rw [List.length_drop]; omega) (by rw [List.length_drop]; omega)).2 h4
      rw [List.length_drop] at h3 h5
      rw [enc_more h]
      simp only [List.length_append, List.length_take, List.length_drop]
      have v1 := vb_two (n := zr l) (by omega)
      have v2 := vb_two (n := lit (l.drop (zr l))) (by omega)
      have v0 : zr l < 4 → (vb (zr l)).length = 1 := fun hz => vb_one (by omega)
      have hmin : min (lit (l.drop (zr l))) (l.length - zr l) = lit (l.drop (zr l)) := Nat.min_eq_left h3
      rw [hmin]
      refine ⟨?_, fun hz => ?_⟩
      · by_cases hz : zr l < 4
        · have := v0 hz; omega
        · omega
      · omega
    · rw [enc_stop h]
      simp
theorem mix_len (xs ys : List Nat) : (mix xs ys).length = ys.length := mixK_len _ _ _
theorem diff_len (xs ys : List Nat) (h : ys.length ≤ 3000) : (diff xs ys).length ≤ ys.length + 2 * (ys.length / 5) + 12 := by
  unfold diff
  have h1 := (enc_len _ (mix xs ys) (Nat.le_refl _) (by rw [mix_len]; omega)).1
  have h2 := vb_two (n := ys.length) (by omega)
  rw [mix_len] at h1
  rw [List.length_append]
  omega
theorem zr_zeros (n : Nat) : zr (List.replicate n 0) = n := by
  induction n with
  | zero => rfl
  | succ n ih => rw [List.replicate_succ, zr, if_pos rfl, ih]
theorem list_ext_getD {xs ys : List Nat} (hl : xs.length = ys.length) (h : ∀ j, j < ys.length → xs.getD j 0 = ys.getD j 0) : xs = ys := by
  apply List.ext_getElem?
  intro j
  rcases Nat.lt_or_ge j ys.length with hj | hj
  · have := h j hj
    rw [List.getD_eq_getElem?_getD, List.getD_eq_getElem?_getD, List.getElem?_eq_getElem hj, List.getElem?_eq_getElem (by omega)] at this
    rw [List.getElem?_eq_getElem hj, List.getElem?_eq_getElem (by omega)]
    exact congrArg some this
  · rw [List.getElem?_eq_none (by omega), List.getElem?_eq_none hj]
theorem mix_at (xs ys : List Nat) (j : Nat) (hj : j < ys.length) : (mix xs ys).getD j 0 = if j < xs.length then ys.getD j 0 ^^^ xs.getD j 0 else ys.getD j 0 := mixK_at _ xs ys j hj
theorem mix_mix (xs ys : List Nat) : mix xs (mix xs ys) = ys :=
  list_ext_getD (by rw [mix_len, mix_len]) (fun j hj => by
    rw [mix_at _ _ j (by rw [mix_len]; exact hj), mix_at _ _ j hj]
    by_cases h : j < xs.length
    · rw [if_pos h, if_pos h, Nat.xor_assoc, Nat.xor_self, Nat.xor_zero]
    · rw [if_neg h, if_neg h])
theorem mix_self (ys : List Nat) : mix ys ys = List.replicate ys.length 0 :=
  list_ext_getD (by rw [mix_len, List.length_replicate]) (fun j hj => by
    rw [List.length_replicate] at hj
    rw [mix_at _ _ j hj, if_pos hj, Nat.xor_self]
    simp [List.getD_eq_getElem?_getD, hj])
theorem diff_self (ys : List Nat) (h : ys.length ≤ 3000) : (diff ys ys).length ≤ 3 := by
  unfold diff
  rw [mix_self, enc_stop (by rw [zr_zeros, List.length_replicate]; omega), List.append_nil]
  have := vb_two (n := ys.length) (by omega)
  omega
theorem mix_small {xs ys : List Nat} (hx : ∀ j, xs.getD j 0 < 256) (hy : ∀ j, ys.getD j 0 < 256) : ∀ j, (mix xs ys).getD j 0 < 256 := mixK_small _ hx hy
theorem diff_small {xs ys : List Nat} (hx : ∀ j, xs.getD j 0 < 256) (hy : ∀ j, ys.getD j 0 < 256) : ∀ j, (diff xs ys).getD j 0 < 256 :=
  small_app (vb_byte _) (small_mem (enc_small _ _ (Nat.le_refl _) (mem_small (mix_small hx hy))))
end Go.Proofs.Ytodmjkhfckokhaa.Delta
