/- Plain lists: the runs of a difference. -/
import Derived.Test.YtodmjkhfckokhaaDelB
namespace Go.Proofs.Ytodmjkhfckokhaa.Delta
open Go.ChangeShapes Go.WideShapes Go.ChangeAt Go.RowKit
open Go.Proofs.Ytodmjkhfckokhaa.Wire
set_option linter.unusedVariables false

/-- How long a literal is that begins here: till four zeros in a row, or zeros alone. -/
def lit : List Nat → Nat
  | [] => 0
  | c :: cs => if 4 ≤ zr (c :: cs) ∨ zr (c :: cs) = (c :: cs).length then 0 else lit cs + 1
theorem lit_le (l : List Nat) : lit l ≤ l.length := by
  induction l with
  | nil => simp [lit]
  | cons c cs ih =>
    rw [lit, List.length_cons]
    split <;> omega
theorem lit_stop {l : List Nat} (h : 4 ≤ zr l ∨ zr l = l.length) : lit l = 0 := by
  cases l with
  | nil => rfl
  | cons c cs => rw [lit, if_pos h]
theorem zr_drop (l : List Nat) : ∀ n, n ≤ zr l → zr (l.drop n) = zr l - n := by
  induction l with
  | nil => intro n h; simp [zr]
  | cons c cs ih =>
    intro n h
    cases n with
    | zero => simp
    | succ n =>
      rw [zr] at h
      by_cases hc : c = 0
      · rw [if_pos hc] at h
        rw [List.drop_succ_cons, ih n (by omega), zr, if_pos hc]
        omega
      · rw [if_neg hc] at h; omega
theorem zr_full {l : List Nat} (h : zr l < l.length) : l.drop (zr l) ≠ [] ∧ zr (l.drop (zr l)) = 0 := by
  refine ⟨fun e => ?_, by rw [zr_drop l _ (Nat.le_refl _)]; omega⟩
  have := congrArg List.length e
  rw [List.length_drop] at this
  simp at this
  omega
/-- A literal that goes on behind fewer than four zeros. -/
theorem lit_jump (l : List Nat) : ∀ n, zr l = n → n < 4 → n < l.length → lit l = n + 1 + lit (l.drop (n + 1)) := by
  induction l with
  | nil => intro n _ _ h; simp at h
  | cons c cs ih =>
    intro n hz h4 hl
    have hstop : ¬ (4 ≤ zr (c :: cs) ∨ zr (c :: cs) = (c :: cs).length) := by omega
    rw [lit, if_neg hstop]
    cases n with
    | zero => rw [List.drop_succ_cons, List.drop_zero]; omega
    | succ n =>
      rw [zr] at hz
      by_cases hc : c = 0
      · rw [if_pos hc] at hz
        rw [ih n (by omega) (by omega) (by rw [List.length_cons] at hl; omega), List.drop_succ_cons]
        omega
      · rw [if_neg hc] at hz; omega
theorem lit_pos {l : List Nat} (h : zr l = 0) (hl : l ≠ []) : 0 < lit l := by
  have hp : 0 < l.length := List.length_pos_iff.2 hl
  rw [lit_jump l 0 h (by omega) hp]
  omega
/-- The runs of a text, as bytes: zeros, a literal, and so on. -/
def enc (l : List Nat) : List Nat :=
  if h : zr l < l.length then
    vb (zr l) ++ vb (lit (l.drop (zr l))) ++ (l.drop (zr l)).take (lit (l.drop (zr l))) ++ enc (l.drop (zr l + lit (l.drop (zr l))))
  else []
termination_by l.length
decreasing_by
  have h1 := zr_full h
  have h2 := lit_pos h1.2 h1.1
  rw [List.length_drop]
  omega
theorem enc_stop {l : List Nat} (h : ¬ zr l < l.length) : enc l = [] := by rw [enc, dif_neg h]
theorem enc_more {l : List Nat} (h : zr l < l.length) : enc l = vb (zr l) ++ vb (lit (l.drop (zr l))) ++ (l.drop (zr l)).take (lit (l.drop (zr l))) ++ enc (l.drop (zr l + lit (l.drop (zr l)))) := by rw [enc, dif_pos h]
/-- A difference's bytes. -/
def diff (xs ys : List Nat) : List Nat := vb ys.length ++ enc (mix xs ys)
theorem take_small {l : List Nat} (h : ∀ c ∈ l, c < 256) (n : Nat) : ∀ c ∈ l.take n, c < 256 := fun c hc => h c (List.mem_of_mem_take hc)
theorem enc_small (k : Nat) : ∀ l : List Nat, l.length ≤ k → (∀ c ∈ l, c < 256) → ∀ c ∈ enc l, c < 256 := by
  induction k with
  | zero =>
    intro l hl _ c hc
    rw [enc_stop (by omega)] at hc; simp at hc
  | succ k ih =>
    intro l hl hb c hc
    by_cases h : zr l < l.length
    · have h1 := zr_full h
      have h2 := lit_pos h1.2 h1.1
      rw [enc_more h] at hc
      simp only [List.mem_append] at hc
      rcases hc with ((hc | hc) | hc) | hc
      · exact vb_mem _ c hc
      · exact vb_mem _ c hc
      · exact take_small (fun d hd => hb d (List.mem_of_mem_drop hd)) _ c hc
      · exact ih _ (by rw [List.length_drop]; omega) (fun d hd => hb d (List.mem_of_mem_drop hd)) c hc
    · rw [enc_stop h] at hc; simp at hc
end Go.Proofs.Ytodmjkhfckokhaa.Delta
