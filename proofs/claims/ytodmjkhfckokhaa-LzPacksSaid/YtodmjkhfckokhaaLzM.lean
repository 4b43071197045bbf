/- A row of zeros, packed, is short (plain). -/
import Derived.Test.YtodmjkhfckokhaaLzL
namespace Go.Proofs.Ytodmjkhfckokhaa.Lz
open Go.ChangeShapes Go.WideShapes Go.ChangeAt Go.RowKit
open Go.Proofs.Ytodmjkhfckokhaa.Wire Go.Proofs.Ytodmjkhfckokhaa.Map32
set_option linter.unusedVariables false

theorem zeros_get (N j : Nat) : (List.replicate N 0).getD j 0 = 0 := by
  rw [List.getD_eq_getElem?_getD, List.getElem?_replicate]
  split <;> rfl
theorem zeros_small (N : Nat) : ∀ j, (List.replicate N 0).getD j 0 < 256 := fun j => by rw [zeros_get]; omega
theorem bst_zero (xs : List Nat) : bst xs 0 = (0, 0) := by
  unfold bst
  split
  · rfl
  · rfl
theorem bst_end {xs : List Nat} {a : Nat} (h : xs.length < a + 3) : bst xs a = (0, 0) := by unfold bst; rw [if_neg (by omega)]
theorem bst_zeros {N a : Nat} (h1 : 1 ≤ a) (h : a + 3 ≤ N) : bst (List.replicate N 0) a = (1, min 66 (N - a)) := by
  have hl : (List.replicate N 0).length = N := List.length_replicate
  unfold bst
  rw [if_pos (by rw [hl]; exact h)]
  have hk : ∀ p, key (List.replicate N 0) p = 0 := fun p => by unfold key; rw [zeros_get, zeros_get, zeros_get]
  have hs : ∃ r, seen (List.replicate N 0) a (key (List.replicate N 0) a) = r ++ [a - 1] := by
    obtain ⟨b, rfl⟩ : ∃ b, a = b + 1 := ⟨a - 1, by omega⟩
    rw [hk, seen_hi, if_pos ⟨by rw [hl]; omega, hk b⟩]
    exact ⟨_, rfl⟩
  obtain ⟨r, hr⟩ := hs
  have hm : mt (List.replicate N 0) (a - 1) a = min 66 (N - a) := by
    rw [mt_most rfl (fun j _ => by rw [zeros_get, zeros_get]), hl]
  rw [hr, List.reverse_append]
  have e : scan (List.replicate N 0) a ([a - 1].reverse ++ r.reverse) = (1, min 66 (N - a)) := by
    have e1 : scan (List.replicate N 0) a [a - 1].reverse = (1, min 66 (N - a)) := by
      show pick _ _ (0, 0) (a - 1) = _
      unfold pick
      rw [hm, if_pos (by show 0 < _; omega), show a - (a - 1) = 1 from by omega]
    rw [scan_app (by rw [e1, hl]), e1]
  rw [e]
  unfold mask
  rw [if_neg (by simp)]
theorem pk_zeros (N : Nat) : ∀ (n a : Nat), N - a = n → 1 ≤ a → a ≤ N → (pk (List.replicate N 0) a a).length ≤ 2 * ((N - a) / 66) + 3 := by
  have hl : (List.replicate N 0).length = N := List.length_replicate
  intro n
  induction n using Nat.strongRecOn with
  | ind n ih =>
    intro a hn h1 ha
    by_cases h3 : a + 3 ≤ N
    · have hb := bst_zeros h1 h3
      rw [pk_match (by rw [hl]; omega) (by rw [hb]; simp only; omega), hb]
      simp only [Nat.sub_self, List.take_zero, litT_nil, List.nil_append, List.length_cons, List.length_append]
      rw [vb_one (by omega)]
      by_cases h66 : 66 ≤ N - a
      · rw [show min 66 (N - a) = 66 from by omega]
        have := ih (N - (a + 66)) (by omega) (a + 66) rfl (by omega) (by omega)
        omega
      · rw [show a + min 66 (N - a) = N from by omega, pk_end (by rw [hl]; exact Nat.le_refl _), List.drop_of_length_le (by rw [hl]; exact Nat.le_refl _), litT_nil]
        simp
    · have hz : ∀ b, a ≤ b → b ≤ N → (pk (List.replicate N 0) a b).length ≤ 3 := by
        intro b
        induction hd : N - b using Nat.strongRecOn generalizing b with
        | ind d ihd =>
          intro hab hbN
          by_cases hlt : b < N
          · rw [pk_lit (by rw [hl]; exact hlt) (by rw [bst_end (by rw [hl]; omega)])]
            exact ihd (N - (b + 1)) (by omega) (b + 1) rfl (by omega) (by omega)
          · rw [pk_end (by rw [hl]; omega), litT_len _ _ rfl, List.length_drop, hl]; omega
      have := hz a (Nat.le_refl _) ha
      omega
theorem pk_row (N : Nat) (hN : 0 < N) : (pk (List.replicate N 0) 0 0).length ≤ 2 + 2 * (N / 66 + 1) + 2 := by
  have hl : (List.replicate N 0).length = N := List.length_replicate
  rw [pk_lit (by rw [hl]; exact hN) (by rw [bst_zero])]
  by_cases h3 : 1 + 3 ≤ N
  · have hb := bst_zeros (N := N) (a := 1) (Nat.le_refl _) h3
    rw [pk_match (by rw [hl]; omega) (by rw [hb]; simp only; omega), hb]
    have h4 := pk_zeros N _ (1 + min 66 (N - 1)) rfl (by omega) (by omega)
    simp only [Nat.zero_add, Nat.sub_self, List.length_cons, List.length_append]
    rw [vb_one (by omega), litT_len _ _ rfl, List.length_take, List.length_drop, hl]
    by_cases h66 : 66 ≤ N - 1
    · rw [show min 66 (N - 1) = 66 from by omega] at h4 ⊢
      omega
    · rw [show 1 + min 66 (N - 1) = N from by omega] at h4 ⊢
      rw [pk_end (by rw [hl]; exact Nat.le_refl _), List.drop_of_length_le (by rw [hl]; exact Nat.le_refl _), litT_nil] at h4 ⊢
      simp only [List.length_nil]
      omega
  · have h4 := pk_len (zeros_small N) _ 0 (0 + 1) rfl (by omega) (by rw [hl]; omega)
    rw [hl] at h4
    omega
end Go.Proofs.Ytodmjkhfckokhaa.Lz
