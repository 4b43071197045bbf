/- What Pack comes to (plain). -/
import Derived.Test.YtodmjkhfckokhaaLzI
namespace Go.Proofs.Ytodmjkhfckokhaa.Lz
open Go.ChangeShapes Go.WideShapes Go.ChangeAt Go.RowKit
open Go.Proofs.Ytodmjkhfckokhaa.Wire Go.Proofs.Ytodmjkhfckokhaa.Map32
set_option linter.unusedVariables false

/-- Literals, as tokens. -/
def litT (l : List Nat) : List Nat :=
  if h : l = [] then [] else (2 * (min 64 l.length - 1)) :: (l.take (min 64 l.length) ++ litT (l.drop (min 64 l.length)))
termination_by l.length
decreasing_by
  have : 0 < l.length := List.length_pos_iff.2 h
  rw [List.length_drop]; omega
theorem litT_nil : litT [] = [] := by rw [litT]; simp
theorem litT_step {l : List Nat} (h : 0 < l.length) : litT l = (2 * (min 64 l.length - 1)) :: (l.take (min 64 l.length) ++ litT (l.drop (min 64 l.length))) := by
  rw [litT, dif_neg (List.length_pos_iff.1 h)]
theorem litT_len : ∀ (n : Nat) (l : List Nat), l.length = n → (litT l).length = l.length + (l.length + 63) / 64 := by
  intro n
  induction n using Nat.strongRecOn with
  | ind n ih =>
    intro l hl
    by_cases h : 0 < l.length
    · rw [litT_step h, List.length_cons, List.length_append, List.length_take, ih (l.drop (min 64 l.length)).length (by rw [List.length_drop]; omega) _ rfl, List.length_drop]
      omega
    · obtain rfl : l = [] := List.eq_nil_of_length_eq_zero (by omega)
      rw [litT_nil]; rfl
theorem litT_small : ∀ (n : Nat) (l : List Nat), l.length = n → (∀ c ∈ l, c < 256) → ∀ c ∈ litT l, c < 256 := by
  intro n
  induction n using Nat.strongRecOn with
  | ind n ih =>
    intro l hl hs
    by_cases h : 0 < l.length
    · rw [litT_step h]
      intro c hc
      rcases List.mem_cons.1 hc with rfl | hc
      · omega
      · rcases List.mem_append.1 hc with hc | hc
        · exact hs c (List.mem_of_mem_take hc)
        · exact ih (l.drop (min 64 l.length)).length (by rw [List.length_drop]; omega) _ rfl (fun c hc => hs c (List.mem_of_mem_drop hc)) c hc
    · obtain rfl : l = [] := List.eq_nil_of_length_eq_zero (by omega)
      rw [litT_nil]; intro c hc; cases hc
/-- What holds of a match that was found. -/
def Good (xs : List Nat) (a : Nat) (s : Nat × Nat) : Prop :=
  s = (0, 0) ∨ (3 ≤ s.2 ∧ s.2 ≤ 66 ∧ a + s.2 ≤ xs.length ∧ 1 ≤ s.1 ∧ s.1 ≤ 4096 ∧ s.1 ≤ a ∧ ∀ j, j < s.2 → xs.getD (a - s.1 + j) 0 = xs.getD (a + j) 0)
theorem pick_good {xs : List Nat} {a f : Nat} {s : Nat × Nat} (h : Good xs a s) (hf : f < a) (hw : a ≤ f + 4096) (hm : 3 ≤ mt xs f a) : Good xs a (pick xs a s f) := by
  unfold pick
  split
  · have h1 := mt_le xs f a
    refine .inr ⟨hm, by simp only; omega, by simp only; omega, by simp only; omega, by simp only; omega, by simp only; omega, fun j hj => ?_⟩
    simp only at hj ⊢
    rw [show a - (a - f) + j = f + j from by omega]
    exact mtU_eq _ j hj
  · exact h
theorem scan_good {xs : List Nat} {a : Nat} : ∀ (l : List Nat) (s : Nat × Nat), Good xs a s → (∀ f ∈ l, f < a ∧ a ≤ f + 4096 ∧ 3 ≤ mt xs f a) → Good xs a (l.foldl (pick xs a) s)
  | [], s, h, _ => h
  | f :: l, s, h, hl => by
    obtain ⟨h1, h2, h3⟩ := hl f List.mem_cons_self
    exact scan_good l _ (pick_good h h1 h2 h3) (fun g hg => hl g (List.mem_cons_of_mem _ hg))
theorem seen_mt {xs : List Nat} (hx : ∀ j, xs.getD j 0 < 256) {a f : Nat} (ha : a + 3 ≤ xs.length) (h : f ∈ seen xs a (key xs a)) : f < a ∧ a ≤ f + 4096 ∧ 3 ≤ mt xs f a := by
  obtain ⟨h1, h2, h3, h4⟩ := seen_mem h
  obtain ⟨e0, e1, e2⟩ := (key_inj hx).1 h4
  refine ⟨h1, h2, mtU_ge _ 3 (by omega) (fun j hj => ?_)⟩
  rcases (show j = 0 ∨ j = 1 ∨ j = 2 by omega) with rfl | rfl | rfl
  · simpa using e0
  · exact e1
  · exact e2
theorem bst_good {xs : List Nat} (hx : ∀ j, xs.getD j 0 < 256) (a : Nat) : Good xs a (bst xs a) := by
  unfold bst
  by_cases ha : a + 3 ≤ xs.length
  · rw [if_pos ha]
    have h := scan_good (xs := xs) (a := a) (seen xs a (key xs a)).reverse (0, 0) (.inl rfl) (fun f hf => seen_mt hx ha (List.mem_reverse.1 hf))
    unfold mask
    split
    · exact .inl rfl
    · exact h
  · rw [if_neg ha]; exact .inl rfl
/-- What is packed from a place on, when the bytes from told on are still to tell. -/
def pk (xs : List Nat) (told a : Nat) : List Nat :=
  if h : a < xs.length then
    if h2 : (bst xs a).2 = 0 then pk xs told (a + 1)
    else litT ((xs.drop told).take (a - told)) ++ ((2 * ((bst xs a).2 - 3) + 1) :: (vb ((bst xs a).1 - 1) ++ pk xs (a + (bst xs a).2) (a + (bst xs a).2)))
  else litT (xs.drop told)
termination_by xs.length - a
decreasing_by all_goals omega
theorem pk_end {xs : List Nat} {told a : Nat} (h : xs.length ≤ a) : pk xs told a = litT (xs.drop told) := by rw [pk, dif_neg (by omega)]
theorem pk_lit {xs : List Nat} {told a : Nat} (h : a < xs.length) (h2 : (bst xs a).2 = 0) : pk xs told a = pk xs told (a + 1) := by rw [pk, dif_pos h, dif_pos h2]
theorem pk_match {xs : List Nat} {told a : Nat} (h : a < xs.length) (h2 : ¬ (bst xs a).2 = 0) : pk xs told a = litT ((xs.drop told).take (a - told)) ++ ((2 * ((bst xs a).2 - 3) + 1) :: (vb ((bst xs a).1 - 1) ++ pk xs (a + (bst xs a).2) (a + (bst xs a).2))) := by
  conv => lhs; rw [pk]
  rw [dif_pos h, dif_neg h2]
end Go.Proofs.Ytodmjkhfckokhaa.Lz
