/- Plain lists: the pieces of a difference, put back. -/
import Derived.Test.YtodmjkhfckokhaaDelN
namespace Go.Proofs.Ytodmjkhfckokhaa.Delta
open Go.ChangeShapes Go.WideShapes Go.ChangeAt Go.RowKit
open Go.Proofs.Ytodmjkhfckokhaa.Wire
set_option linter.unusedVariables false

theorem zr_take (l : List Nat) : l.take (zr l) = List.replicate (zr l) 0 := by
  induction l with
  | nil => rfl
  | cons c cs ih =>
    rw [zr]
    by_cases h : c = 0
    · rw [if_pos h, List.take_succ_cons, List.replicate_succ, ih, h]
    · rw [if_neg h]; rfl
/-- A text is laid over another one at a place. -/
def lay (x : List Nat) (i : Nat) (ys : List Nat) : List Nat := x.take i ++ ys ++ x.drop (i + ys.length)
/-- The pieces of a text from a place on. -/
def pcs (at_ : Nat) (l : List Nat) : List (Nat × List Nat) :=
  if h : zr l < l.length then
    (at_ + zr l, (l.drop (zr l)).take (lit (l.drop (zr l)))) :: pcs (at_ + (zr l + lit (l.drop (zr l)))) (l.drop (zr l + lit (l.drop (zr l))))
  else []
termination_by l.length
decreasing_by
  have h1 := zr_full h
  have h2 := lit_pos h1.2 h1.1
  rw [List.length_drop]
  omega
theorem pcs_stop {at_ : Nat} {l : List Nat} (h : ¬ zr l < l.length) : pcs at_ l = [] := by rw [pcs, dif_neg h]
theorem pcs_more {at_ : Nat} {l : List Nat} (h : zr l < l.length) : pcs at_ l = (at_ + zr l, (l.drop (zr l)).take (lit (l.drop (zr l)))) :: pcs (at_ + (zr l + lit (l.drop (zr l)))) (l.drop (zr l + lit (l.drop (zr l)))) := by rw [pcs, dif_pos h]
theorem rep_add (a b : Nat) : List.replicate (a + b) (0 : Nat) = List.replicate a 0 ++ List.replicate b 0 := List.replicate_append_replicate.symm
theorem lay_zeros (pre L : List Nat) (z n : Nat) : lay (pre ++ List.replicate (z + (L.length + n)) 0) (pre.length + z) L = pre ++ (List.replicate z 0 ++ L) ++ List.replicate n 0 := by
  unfold lay
  rw [rep_add, rep_add]
  have e1 : (pre ++ (List.replicate z 0 ++ (List.replicate L.length 0 ++ List.replicate n 0))).take (pre.length + z) = pre ++ List.replicate z 0 := by
    rw [← List.append_assoc, List.take_left' (by simp)]
  have e2 : (pre ++ (List.replicate z 0 ++ (List.replicate L.length 0 ++ List.replicate n 0))).drop (pre.length + z + L.length) = List.replicate n 0 := by
    rw [← List.append_assoc, ← List.append_assoc, List.drop_left' (by simp; omega)]
  rw [e1, e2]
  simp only [List.append_assoc]
/-- The pieces, laid over zeros, are the text. -/
theorem fill (k : Nat) : ∀ (l pre : List Nat), l.length ≤ k → (pcs pre.length l).foldl (fun x p => lay x p.1 p.2) (pre ++ List.replicate l.length 0) = pre ++ l := by
  induction k with
  | zero =>
    intro l pre hl
    obtain rfl : l = [] := List.eq_nil_of_length_eq_zero (by omega)
    rw [pcs_stop (by simp)]; rfl
  | succ k ih =>
    intro l pre hl
    by_cases h : zr l < l.length
    · have h1 := zr_full h
      have h2 := lit_pos h1.2 h1.1
      have h3 := lit_le (l.drop (zr l))
      have hL : ((l.drop (zr l)).take (lit (l.drop (zr l)))).length = lit (l.drop (zr l)) := by rw [List.length_take]; omega
      have hsplit : l = List.replicate (zr l) 0 ++ (l.drop (zr l)).take (lit (l.drop (zr l))) ++ l.drop (zr l + lit (l.drop (zr l))) := by
        rw [← zr_take, List.append_assoc, ← List.drop_drop, List.take_append_drop, List.take_append_drop]
      have hrest : (l.drop (zr l + lit (l.drop (zr l)))).length = l.length - (zr l + lit (l.drop (zr l))) := List.length_drop
      rw [List.length_drop] at h3
      have hlen : l.length = zr l + (((l.drop (zr l)).take (lit (l.drop (zr l)))).length + (l.drop (zr l + lit (l.drop (zr l)))).length) := by rw [hL, hrest]; omega
      rw [pcs_more h, List.foldl_cons]
      have hstep := lay_zeros pre ((l.drop (zr l)).take (lit (l.drop (zr l)))) (zr l) (l.drop (zr l + lit (l.drop (zr l)))).length
      rw [← hlen] at hstep
      rw [hstep]
      have := ih (l.drop (zr l + lit (l.drop (zr l)))) (pre ++ (List.replicate (zr l) 0 ++ (l.drop (zr l)).take (lit (l.drop (zr l))))) (by rw [hrest]; omega)
      have hpl : (pre ++ (List.replicate (zr l) 0 ++ (l.drop (zr l)).take (lit (l.drop (zr l))))).length = pre.length + (zr l + lit (l.drop (zr l))) := by
        rw [List.length_append, List.length_append, List.length_replicate, hL]
      rw [hpl] at this
      rw [this]
      conv => rhs; rw [hsplit]
      simp only [List.append_assoc]
    · have hz : zr l = l.length := by have := zr_le l; omega
      rw [pcs_stop h]
      show pre ++ List.replicate l.length 0 = pre ++ l
      have := zr_take l
      rw [hz, List.take_length] at this
      rw [← this]
end Go.Proofs.Ytodmjkhfckokhaa.Delta
