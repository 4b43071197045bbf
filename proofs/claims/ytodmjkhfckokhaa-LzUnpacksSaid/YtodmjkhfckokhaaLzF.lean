/- Contracts of package lz: the earlier places at which three bytes stand (plain). -/
import Derived.Test.YtodmjkhfckokhaaLzE
namespace Go.Proofs.Ytodmjkhfckokhaa.Lz
open Go.ChangeShapes Go.WideShapes Go.ChangeAt Go.RowKit
open Go.Proofs.Ytodmjkhfckokhaa.Wire
set_option linter.unusedVariables false

/-- The last 16. -/
def last16 (l : List Nat) : List Nat := l.drop (l.length - 16)
/-- The places from lo on, ahead of hi, at which the three bytes k stand. -/
def pls (xs : List Nat) (lo hi k : Nat) : List Nat := (List.range hi).filter fun p => decide (lo ≤ p) && decide (p + 3 ≤ xs.length) && (key xs p == k)
theorem pls_mem {xs : List Nat} {lo hi k p : Nat} : p ∈ pls xs lo hi k ↔ p < hi ∧ lo ≤ p ∧ p + 3 ≤ xs.length ∧ key xs p = k := by
  simp [pls, List.mem_filter, and_assoc]
theorem pls_snoc {xs : List Nat} {lo hi k : Nat} (h : lo ≤ hi) : pls xs lo (hi + 1) k = if hi + 3 ≤ xs.length ∧ key xs hi = k then pls xs lo hi k ++ [hi] else pls xs lo hi k := by
  unfold pls
  rw [List.range_succ, List.filter_append]
  by_cases hc : hi + 3 ≤ xs.length ∧ key xs hi = k
  · rw [if_pos hc]; simp [h, hc.1, hc.2]
  · rw [if_neg hc]
    have : ¬ (decide (lo ≤ hi) && decide (hi + 3 ≤ xs.length) && (key xs hi == k)) = true := by
      simp only [Bool.and_eq_true, decide_eq_true_eq, beq_iff_eq]; exact fun h' => hc ⟨h'.1.2, h'.2⟩
    have e : List.filter (fun p => decide (lo ≤ p) && decide (p + 3 ≤ xs.length) && (key xs p == k)) [hi] = [] := List.filter_eq_nil_iff.2 (fun a ha => by rw [List.mem_singleton.1 ha]; exact this)
    rw [e, List.append_nil]
theorem filter_lo {xs : List Nat} {lo k : Nat} : ∀ hi, lo < hi → pls xs lo hi k = if lo + 3 ≤ xs.length ∧ key xs lo = k then lo :: pls xs (lo + 1) hi k else pls xs (lo + 1) hi k := by
  intro hi
  induction hi with
  | zero => intro h; omega
  | succ hi ih =>
    intro h
    by_cases he : lo = hi
    · subst he
      have e0 : ∀ m, pls xs m m k = [] := by
        intro m; apply List.eq_nil_iff_forall_not_mem.2; intro p hp; rw [pls_mem] at hp; omega
      rw [pls_snoc (Nat.le_refl _), e0, show pls xs (lo + 1) (lo + 1) k = [] from e0 _]
      simp
    · rw [pls_snoc (by omega), pls_snoc (by omega), ih (by omega)]
      by_cases h1 : lo + 3 ≤ xs.length ∧ key xs lo = k <;> by_cases h2 : hi + 3 ≤ xs.length ∧ key xs hi = k <;> simp [h1, h2]
theorem last16_len (l : List Nat) : (last16 l).length = min l.length 16 := by unfold last16; rw [List.length_drop]; omega
theorem last16_nil : last16 [] = [] := rfl
theorem last16_mem {l : List Nat} {p : Nat} (h : p ∈ last16 l) : p ∈ l := List.mem_of_mem_drop h
theorem last16_ne {l : List Nat} (h : l ≠ []) : last16 l ≠ [] := by
  intro e; have := congrArg List.length e; rw [last16_len] at this; simp at this
  exact h this
/-- The oldest one goes. -/
theorem last16_cons {z : Nat} {l : List Nat} : last16 (z :: l) = if l.length < 16 then z :: l else last16 l := by
  unfold last16
  by_cases h : l.length < 16
  · rw [if_pos h, List.length_cons, show l.length + 1 - 16 = 0 from by omega, List.drop_zero]
  · rw [if_neg h, List.length_cons, show l.length + 1 - 16 = (l.length - 16) + 1 from by omega, List.drop_succ_cons]
theorem last16_few {l : List Nat} (h : l.length ≤ 16) : last16 l = l := by unfold last16; rw [show l.length - 16 = 0 from by omega, List.drop_zero]
theorem last16_snoc {z : Nat} {l : List Nat} : last16 (l ++ [z]) = (if (last16 l).length = 16 then (last16 l).tail else last16 l) ++ [z] := by
  rw [last16_len]
  by_cases h : 16 ≤ l.length
  · rw [if_pos (by omega)]
    unfold last16
    rw [List.length_append, show l.length + [z].length - 16 = (l.length - 16) + 1 from by simp; omega, List.drop_append_of_le_length (by omega), List.tail_drop]
  · rw [if_neg (by omega), last16_few (by rw [List.length_append]; simp; omega), last16_few (by omega)]
/-- What stands in the map ahead of a place. -/
def seen (xs : List Nat) (at_ k : Nat) : List Nat := last16 (pls xs (at_ - 4096) at_ k)
theorem seen_lo {xs : List Nat} {at_ k : Nat} (h : 4096 ≤ at_) (hl : at_ ≤ xs.length) (hk : key xs (at_ - 4096) ≠ k) : last16 (pls xs (at_ + 1 - 4096) at_ k) = seen xs at_ k := by
  unfold seen
  rw [filter_lo (lo := at_ - 4096) at_ (by omega), if_neg (fun e => hk e.2), show at_ - 4096 + 1 = at_ + 1 - 4096 from by omega]
theorem seen_lo_few {xs : List Nat} {at_ k : Nat} (h : at_ < 4096) : last16 (pls xs (at_ + 1 - 4096) at_ k) = seen xs at_ k := by
  unfold seen
  rw [show at_ + 1 - 4096 = at_ - 4096 from by omega]
/-- The place that goes out of sight stands ahead, or does not stand in the map. -/
theorem seen_lo_here {xs : List Nat} {at_ k : Nat} (h : 4096 ≤ at_) (hl : at_ ≤ xs.length) (hk : key xs (at_ - 4096) = k) :
    (∃ r, seen xs at_ k = (at_ - 4096) :: r ∧ last16 (pls xs (at_ + 1 - 4096) at_ k) = r) ∨ (seen xs at_ k = last16 (pls xs (at_ + 1 - 4096) at_ k) ∧ ∀ z r, seen xs at_ k = z :: r → z ≠ at_ - 4096) := by
  unfold seen
  rw [filter_lo (lo := at_ - 4096) at_ (by omega), if_pos ⟨by omega, hk⟩, show at_ - 4096 + 1 = at_ + 1 - 4096 from by omega, last16_cons]
  by_cases hf : (pls xs (at_ + 1 - 4096) at_ k).length < 16
  · rw [if_pos hf]; exact .inl ⟨_, rfl, last16_few (by omega)⟩
  · rw [if_neg hf]
    refine .inr ⟨rfl, fun z r e => ?_⟩
    have : z ∈ pls xs (at_ + 1 - 4096) at_ k := last16_mem (by rw [e]; exact List.mem_cons_self)
    rw [pls_mem] at this
    omega
theorem seen_hi {xs : List Nat} {at_ k : Nat} : seen xs (at_ + 1) k = if at_ + 3 ≤ xs.length ∧ key xs at_ = k then (if (last16 (pls xs (at_ + 1 - 4096) at_ k)).length = 16 then (last16 (pls xs (at_ + 1 - 4096) at_ k)).tail else last16 (pls xs (at_ + 1 - 4096) at_ k)) ++ [at_] else last16 (pls xs (at_ + 1 - 4096) at_ k) := by
  unfold seen
  rw [pls_snoc (by omega)]
  by_cases hc : at_ + 3 ≤ xs.length ∧ key xs at_ = k
  · rw [if_pos hc, if_pos hc, last16_snoc]
  · rw [if_neg hc, if_neg hc]
theorem seen_zero (xs : List Nat) (k : Nat) : seen xs 0 k = [] := rfl
theorem seen_len (xs : List Nat) (at_ k : Nat) : (seen xs at_ k).length ≤ 16 := by unfold seen; rw [last16_len]; omega
theorem seen_mem {xs : List Nat} {at_ k p : Nat} (h : p ∈ seen xs at_ k) : p < at_ ∧ at_ ≤ p + 4096 ∧ p + 3 ≤ xs.length ∧ key xs p = k := by
  have := pls_mem.1 (last16_mem h); omega
end Go.Proofs.Ytodmjkhfckokhaa.Lz
