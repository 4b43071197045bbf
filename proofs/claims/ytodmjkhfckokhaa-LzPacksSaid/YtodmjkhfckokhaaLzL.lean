/- How long what is packed is; a lower limit (plain). -/
import Derived.Test.YtodmjkhfckokhaaLzK
namespace Go.Proofs.Ytodmjkhfckokhaa.Lz
open Go.ChangeShapes Go.WideShapes Go.ChangeAt Go.RowKit
open Go.Proofs.Ytodmjkhfckokhaa.Wire Go.Proofs.Ytodmjkhfckokhaa.Map32
set_option linter.unusedVariables false

theorem bst_far (xs : List Nat) (a : Nat) (h : (bst xs a).2 = 3) : (bst xs a).1 ≤ 128 := by
  unfold bst at h ⊢
  by_cases ha : a + 3 ≤ xs.length
  · rw [if_pos ha] at h ⊢
    unfold mask at h ⊢
    split
    · exact Nat.zero_le _
    · rename_i hc
      rw [if_neg hc] at h
      by_cases h1 : 128 < (scan xs a (seen xs a (key xs a)).reverse).1
      · exact absurd ⟨h, h1⟩ hc
      · omega
  · rw [if_neg ha]; exact Nat.zero_le _
theorem vb_one {m : Nat} (h : m < 128) : (vb m).length = 1 := by rw [vb, dif_pos h]; rfl
theorem vb_two {m : Nat} (h : m < 16384) : (vb m).length ≤ 2 := by
  by_cases h1 : m < 128
  · rw [vb_one h1]; omega
  · rw [vb, dif_neg h1, List.length_cons, vb_one (by omega)]; omega
theorem pk_len {xs : List Nat} (hx : ∀ j, xs.getD j 0 < 256) : ∀ (n told a : Nat), xs.length - a = n → told ≤ a → a ≤ xs.length → (pk xs told a).length ≤ (xs.length - told) + (xs.length - told + 63) / 64 := by
  intro n
  induction n using Nat.strongRecOn with
  | ind n ih =>
    intro told a hn ht ha
    by_cases h : a < xs.length
    · by_cases h2 : (bst xs a).2 = 0
      · rw [pk_lit h h2]; exact ih (xs.length - (a + 1)) (by omega) told (a + 1) rfl (by omega) (by omega)
      · rw [pk_match h h2]
        have hfar := bst_far xs a
        rcases bst_good hx a with hg | ⟨g1, g2, g3, g4, g5, g6, g7⟩
        · rw [hg] at h2; exact absurd rfl h2
        · generalize bst xs a = s at *
          have hdl : ((xs.drop told).take (a - told)).length = a - told := by rw [List.length_take, List.length_drop]; omega
          have h3 := ih (xs.length - (a + s.2)) (by omega) (a + s.2) (a + s.2) rfl (Nat.le_refl _) g3
          have hc : 1 + (vb (s.1 - 1)).length ≤ s.2 - 1 := by
            by_cases h33 : s.2 = 3
            · rw [vb_one (by have := hfar h33; omega)]; omega
            · have := vb_two (m := s.1 - 1) (by omega); omega
          rw [List.length_append, List.length_cons, List.length_append, litT_len _ _ rfl, hdl]
          omega
    · rw [pk_end (by omega), litT_len _ _ rfl, List.length_drop]; exact Nat.le_refl _
/-- Literals that go beyond the limit. -/
theorem unp_lits_low (M : Nat) : ∀ (n : Nat) (l out rest : List Nat), l.length = n → M < out.length + l.length → out.length ≤ M → unp M out (litT l ++ rest) = .bad 6 := by
  intro n
  induction n using Nat.strongRecOn with
  | ind n ih =>
    intro l out rest hl hM ho
    have h : 0 < l.length := by omega
    obtain ⟨m, hm⟩ : ∃ m, m = min 64 l.length := ⟨_, rfl⟩
    rw [litT_step h, ← hm]
    have e : 2 * (m - 1) / 2 + 1 = m := by omega
    by_cases hb : M < out.length + m
    · rw [List.cons_append, unp_run6 (by omega) (by omega) (by rw [e]; omega)]
    · rw [List.cons_append, unp_run (by omega) (by omega) (by rw [e]; omega) (by rw [e, List.length_append, List.length_append, List.length_take]; omega), e]
      have hlt : (l.take m).length = m := by rw [List.length_take]; omega
      rw [List.append_assoc, List.take_append_of_le_length (by omega), List.take_of_length_le (by omega), List.drop_append_of_le_length (by omega), List.drop_of_length_le (by omega), List.nil_append]
      exact ih (l.drop m).length (by rw [List.length_drop]; omega) _ _ _ rfl (by rw [List.length_append, hlt, List.length_drop]; omega) (by rw [List.length_append, hlt]; omega)
theorem unp_low {xs : List Nat} (hx : ∀ j, xs.getD j 0 < 256) (M : Nat) (hM : M < xs.length) : ∀ (n told a : Nat), xs.length - a = n → told ≤ a → a ≤ xs.length → told ≤ M → unp M (xs.take told) (pk xs told a) = .bad 6 := by
  intro n
  induction n using Nat.strongRecOn with
  | ind n ih =>
    intro told a hn ht ha hto
    have htl : (xs.take told).length = told := by rw [List.length_take]; omega
    by_cases h : a < xs.length
    · by_cases h2 : (bst xs a).2 = 0
      · rw [pk_lit h h2]; exact ih (xs.length - (a + 1)) (by omega) told (a + 1) rfl (by omega) (by omega) hto
      · rw [pk_match h h2]
        rcases bst_good hx a with hg | ⟨g1, g2, g3, g4, g5, g6, g7⟩
        · rw [hg] at h2; exact absurd rfl h2
        · generalize bst xs a = s at *
          have hdl : ((xs.drop told).take (a - told)).length = a - told := by rw [List.length_take, List.length_drop]; omega
          by_cases hlow : M < a
          · exact unp_lits_low M _ _ _ _ rfl (by rw [htl, hdl]; omega) (by rw [htl]; exact hto)
          · rw [unp_lits _ _ _ _ _ rfl (by rw [htl, hdl]; omega)]
            have e1 : xs.take told ++ (xs.drop told).take (a - told) = xs.take a := by
              rw [← List.take_add, show told + (a - told) = a from by omega]
            rw [e1]
            have hal : (xs.take a).length = a := by rw [List.length_take]; omega
            have hv := vr_put (m := s.1 - 1) (by omega) (pk xs (a + s.2) (a + s.2))
            have e2 : (2 * (s.2 - 3) + 1) / 2 + 3 = s.2 := by omega
            by_cases hlow2 : M < a + s.2
            · rw [unp_match6 (by omega) (by omega) hv (by rw [hal]; omega) (by rw [hal, e2]; omega)]
            · rw [unp_match (by omega) (by omega) hv (by rw [hal]; omega) (by rw [hal, e2]; omega), e2, show s.1 - 1 + 1 = s.1 from by omega, rep_good g4 g6 s.2 g3 g7]
              rw [List.drop_left]
              exact ih (xs.length - (a + s.2)) (by omega) (a + s.2) (a + s.2) rfl (Nat.le_refl _) g3 (by omega)
    · rw [pk_end (by omega)]
      have := unp_lits_low M _ (xs.drop told) (xs.take told) [] rfl (by rw [htl, List.length_drop]; omega) (by rw [htl]; exact hto)
      rw [List.append_nil] at this
      exact this
end Go.Proofs.Ytodmjkhfckokhaa.Lz
