/- What is packed is unpacked as itself (plain). -/
import Derived.Test.YtodmjkhfckokhaaLzJ
import Derived.Test.YtodmjkhfckokhaaLzC
namespace Go.Proofs.Ytodmjkhfckokhaa.Lz
open Go.ChangeShapes Go.WideShapes Go.ChangeAt Go.RowKit
open Go.Proofs.Ytodmjkhfckokhaa.Wire Go.Proofs.Ytodmjkhfckokhaa.Map32
set_option linter.unusedVariables false

theorem unp_lits (M : Nat) : ∀ (n : Nat) (l out rest : List Nat), l.length = n → out.length + l.length ≤ M → unp M out (litT l ++ rest) = unp M (out ++ l) rest := by
  intro n
  induction n using Nat.strongRecOn with
  | ind n ih =>
    intro l out rest hl hM
    by_cases h : 0 < l.length
    · obtain ⟨m, hm⟩ : ∃ m, m = min 64 l.length := ⟨_, rfl⟩
      rw [litT_step h, ← hm]
      have e : 2 * (m - 1) / 2 + 1 = m := by omega
      rw [List.cons_append, unp_run (by omega) (by omega) (by rw [e]; omega) (by rw [e, List.length_append, List.length_append, List.length_take]; omega), e]
      have hlt : (l.take m).length = m := by rw [List.length_take]; omega
      rw [List.append_assoc, List.take_append_of_le_length (by omega), List.take_of_length_le (by omega), List.drop_append_of_le_length (by omega), List.drop_of_length_le (by omega), List.nil_append]
      rw [ih (l.drop m).length (by rw [List.length_drop]; omega) _ _ _ rfl (by rw [List.length_append, hlt, List.length_drop]; omega), List.append_assoc, List.take_append_drop]
    · obtain rfl : l = [] := List.eq_nil_of_length_eq_zero (by omega)
      rw [litT_nil, List.nil_append, List.append_nil]
theorem rep_good {xs : List Nat} {a b : Nat} (hb : 1 ≤ b) (hba : b ≤ a) : ∀ n, a + n ≤ xs.length → (∀ j, j < n → xs.getD (a - b + j) 0 = xs.getD (a + j) 0) → rep (xs.take a) b n = xs.take (a + n)
  | 0, h, _ => rfl
  | n + 1, h, he => by
    rw [rep, rep_good hb hba n (by omega) (fun j hj => he j (by omega))]
    have hl : (xs.take (a + n)).length = a + n := by rw [List.length_take]; omega
    rw [hl, show a + (n + 1) = a + n + 1 from by omega, List.take_succ_eq_append_getElem (by omega)]
    congr 1
    have h1 : (xs.take (a + n)).getD (a + n - b) 0 = xs.getD (a - b + n) 0 := by
      rw [List.getD_eq_getElem?_getD, List.getElem?_take, if_pos (by omega), List.getD_eq_getElem?_getD, show a + n - b = a - b + n from by omega]
    rw [h1, he n (by omega), List.getD_eq_getElem?_getD, List.getElem?_eq_getElem (by omega)]
    rfl
theorem unp_pk {xs : List Nat} (hx : ∀ j, xs.getD j 0 < 256) : ∀ (n told a : Nat), xs.length - a = n → told ≤ a → a ≤ xs.length → unp xs.length (xs.take told) (pk xs told a) = .ok xs := by
  intro n
  induction n using Nat.strongRecOn with
  | ind n ih =>
    intro told a hn ht ha
    have htl : (xs.take told).length = told := by rw [List.length_take]; omega
    by_cases h : a < xs.length
    · by_cases h2 : (bst xs a).2 = 0
      · rw [pk_lit h h2]; exact ih (xs.length - (a + 1)) (by omega) told (a + 1) rfl (by omega) (by omega)
      · rw [pk_match h h2]
        rcases bst_good hx a with hg | ⟨g1, g2, g3, g4, g5, g6, g7⟩
        · rw [hg] at h2; exact absurd rfl h2
        · generalize bst xs a = s at *
          have hdl : ((xs.drop told).take (a - told)).length = a - told := by rw [List.length_take, List.length_drop]; omega
          rw [unp_lits _ _ _ _ _ rfl (by rw [htl, hdl]; omega)]
          have e1 : xs.take told ++ (xs.drop told).take (a - told) = xs.take a := by
            rw [← List.take_add, show told + (a - told) = a from by omega]
          rw [e1]
          have hal : (xs.take a).length = a := by rw [List.length_take]; omega
          have hv := vr_put (m := s.1 - 1) (by omega) (pk xs (a + s.2) (a + s.2))
          have e2 : (2 * (s.2 - 3) + 1) / 2 + 3 = s.2 := by omega
          rw [unp_match (by omega) (by omega) hv (by rw [hal]; omega) (by rw [hal, e2]; omega), e2, show s.1 - 1 + 1 = s.1 from by omega, rep_good g4 g6 s.2 g3 g7]
          rw [List.drop_left]
          exact ih (xs.length - (a + s.2)) (by omega) (a + s.2) (a + s.2) rfl (Nat.le_refl _) g3
    · rw [pk_end (by omega)]
      have := unp_lits xs.length _ (xs.drop told) (xs.take told) [] rfl (by rw [htl, List.length_drop]; omega)
      rw [List.append_nil] at this
      rw [this, unp_nil, List.take_append_drop]
end Go.Proofs.Ytodmjkhfckokhaa.Lz
