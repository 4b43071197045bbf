/- The places that the document's loop has looked at (plain). -/
import Derived.Test.YtodmjkhfckokhaaLzO
namespace Go.Proofs.Ytodmjkhfckokhaa.Lz
open Go.ChangeShapes Go.WideShapes Go.ChangeAt Go.RowKit
open Go.Proofs.Ytodmjkhfckokhaa.Wire Go.Proofs.Ytodmjkhfckokhaa.Map32
set_option linter.unusedVariables false

theorem pls_empty (xs : List Nat) (m k : Nat) : pls xs m m k = [] := by
  apply List.eq_nil_iff_forall_not_mem.2; intro p hp; rw [pls_mem] at hp; omega
theorem pls_split {xs : List Nat} {lo m k : Nat} (h : lo ≤ m) : ∀ hi, m ≤ hi → pls xs lo hi k = pls xs lo m k ++ pls xs m hi k := by
  intro hi
  induction hi with
  | zero => intro hm; obtain rfl : m = 0 := by omega
            rw [pls_empty, List.append_nil]
  | succ hi ih =>
    intro hm
    by_cases he : m = hi + 1
    · subst he; rw [pls_empty, List.append_nil]
    · rw [pls_snoc (by omega), pls_snoc (by omega), ih (by omega)]
      split
      · rw [List.append_assoc]
      · rfl
theorem last16_app {l r : List Nat} (h : r.length = 16) : last16 (l ++ r) = r := by
  unfold last16
  rw [List.length_append, show l.length + r.length - 16 = l.length from by omega, List.drop_left]
/-- The loop is at its end: all that may be seen has been looked at. -/
theorem seen_all {xs : List Nat} {a m k : Nat} (hm : m ≤ a) (hw : a - 4096 ≤ m) (hl : (pls xs m a k).length ≤ 16) (he : m = a - 4096 ∨ (pls xs m a k).length = 16) : seen xs a k = pls xs m a k := by
  unfold seen
  generalize a - 4096 = lo at *
  rcases he with he | he
  · rw [← he]; exact last16_few hl
  · rw [pls_split hw a hm, last16_app he]
/-- Three bytes match where the key is the same. -/
theorem mt_three {xs : List Nat} (hx : ∀ j, xs.getD j 0 < 256) {a f : Nat} (hf : f < a) : 3 ≤ mt xs f a ↔ a + 3 ≤ xs.length ∧ key xs f = key xs a := by
  constructor
  · intro h
    have h1 := mt_le xs f a
    refine ⟨by omega, (key_inj hx).2 ⟨?_, ?_, ?_⟩⟩
    · have := mtU_eq (xs := xs) (f := f) (a := a) _ 0 (show 0 < mt xs f a by omega); simpa using this
    · exact mtU_eq (xs := xs) (f := f) (a := a) _ 1 (show 1 < mt xs f a by omega)
    · exact mtU_eq (xs := xs) (f := f) (a := a) _ 2 (show 2 < mt xs f a by omega)
  · rintro ⟨h1, h2⟩
    obtain ⟨e0, e1, e2⟩ := (key_inj hx).1 h2
    refine mtU_ge _ 3 (by omega) (fun j hj => ?_)
    rcases (show j = 0 ∨ j = 1 ∨ j = 2 by omega) with rfl | rfl | rfl
    · simpa using e0
    · exact e1
    · exact e2
end Go.Proofs.Ytodmjkhfckokhaa.Lz
