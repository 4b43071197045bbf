/- The document's choice of a match is the code's (plain). -/
import Derived.Test.YtodmjkhfckokhaaLzM
namespace Go.Proofs.Ytodmjkhfckokhaa.Lz
open Go.ChangeShapes Go.WideShapes Go.ChangeAt Go.RowKit
open Go.Proofs.Ytodmjkhfckokhaa.Wire Go.Proofs.Ytodmjkhfckokhaa.Map32
set_option linter.unusedVariables false

/-- One more place looked at, as the document says it. -/
def pickR (xs : List Nat) (a : Nat) (s : Nat × Nat) (f : Nat) : Nat × Nat := if s.2 < mt xs f a ∧ (3 < mt xs f a ∨ a - f ≤ 128) then (a - f, mt xs f a) else s
theorem fold_pickR {xs : List Nat} {a : Nat} : ∀ (l : List Nat) (s : Nat × Nat), (s = (0, 0) ∨ 3 ≤ s.2) → (∀ f ∈ l, s.1 < a - f ∧ 3 ≤ mt xs f a) → l.Pairwise (fun f g => g < f) → l.foldl (pickR xs a) (mask s) = mask (l.foldl (pick xs a) s)
  | [], s, _, _, _ => rfl
  | f :: l, s, hs, hl, hp => by
    obtain ⟨h1, h2⟩ := hl f List.mem_cons_self
    rw [List.pairwise_cons] at hp
    rw [List.foldl_cons, List.foldl_cons]
    by_cases hlt : s.2 < mt xs f a
    · have e1 : pick xs a s f = (a - f, mt xs f a) := if_pos hlt
      have e2 : pickR xs a (mask s) f = mask (a - f, mt xs f a) := by
        by_cases h3 : 3 < mt xs f a
        · have e3 : mask (a - f, mt xs f a) = (a - f, mt xs f a) := if_neg (fun h => by have := h.1; simp only at this; omega)
          rw [e3]
          refine if_pos ⟨?_, .inl h3⟩
          unfold mask
          split
          · show 0 < _; omega
          · exact hlt
        · have h3' : mt xs f a = 3 := by omega
          rcases hs with rfl | hs
          · have e0 : mask (0, 0) = (0, 0) := rfl
            rw [e0]
            by_cases hn : a - f ≤ 128
            · rw [show mask (a - f, mt xs f a) = (a - f, mt xs f a) from if_neg (fun h => by have := h.2; simp only at this; omega)]
              exact if_pos ⟨hlt, .inr hn⟩
            · rw [show mask (a - f, mt xs f a) = (0, 0) from if_pos ⟨h3', by simp only; omega⟩]
              exact if_neg (fun h => by rcases h.2 with h | h <;> omega)
          · omega
      rw [e1, e2]
      refine fold_pickR l (a - f, mt xs f a) (.inr h2) (fun g hg => ?_) hp.2
      have := hl g (List.mem_cons_of_mem _ hg)
      have := hp.1 g hg
      exact ⟨by simp only; omega, by omega⟩
    · have e1 : pick xs a s f = s := if_neg hlt
      have e2 : pickR xs a (mask s) f = mask s := by
        refine if_neg (fun h => ?_)
        have h4 := h.1
        unfold mask at h4
        split at h4
        · rename_i hc
          rcases h.2 with h5 | h5 <;> omega
        · exact hlt h4
      rw [e1, e2]
      exact fold_pickR l s hs (fun g hg => hl g (List.mem_cons_of_mem _ hg)) hp.2
theorem pls_sorted (xs : List Nat) (lo hi k : Nat) : (pls xs lo hi k).Pairwise (fun f g => f < g) := by
  unfold pls
  exact List.Pairwise.filter _ List.pairwise_lt_range
theorem bst_ref {xs : List Nat} (hx : ∀ j, xs.getD j 0 < 256) {a : Nat} (h : a + 3 ≤ xs.length) : bst xs a = (seen xs a (key xs a)).reverse.foldl (pickR xs a) (0, 0) := by
  have e := fold_pickR (xs := xs) (a := a) (seen xs a (key xs a)).reverse (0, 0) (.inl rfl) (fun f hf => by
    obtain ⟨h1, h2, h3⟩ := seen_mt hx h (List.mem_reverse.1 hf)
    exact ⟨by simp only; omega, h3⟩) (by
      rw [List.pairwise_reverse]
      exact List.Pairwise.sublist (List.drop_sublist _ _) (pls_sorted _ _ _ _))
  unfold bst
  rw [if_pos h]
  exact e.symm
end Go.Proofs.Ytodmjkhfckokhaa.Lz
