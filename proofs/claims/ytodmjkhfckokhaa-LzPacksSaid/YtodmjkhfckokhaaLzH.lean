/- Contracts of package lz: the best match (plain, and walked). -/
import Derived.Test.YtodmjkhfckokhaaLzG
namespace Go.Proofs.Ytodmjkhfckokhaa.Lz
open Go.ChangeShapes Go.WideShapes Go.ChangeAt Go.RowKit
open Go.Proofs.Ytodmjkhfckokhaa.Wire Go.Proofs.Ytodmjkhfckokhaa.Map32
set_option linter.unusedVariables false

/-- How many bytes match, k at most. -/
def mtU (xs : List Nat) (f a : Nat) : Nat → Nat
  | 0 => 0
  | k + 1 => if mtU xs f a k = k ∧ xs.getD (f + k) 0 = xs.getD (a + k) 0 then k + 1 else mtU xs f a k
theorem mtU_le (xs : List Nat) (f a k : Nat) : mtU xs f a k ≤ k := by
  induction k with
  | zero => exact Nat.le_refl _
  | succ k ih => rw [mtU]; split <;> omega
theorem mtU_ge {xs : List Nat} {f a : Nat} : ∀ k n, n ≤ k → (∀ j, j < n → xs.getD (f + j) 0 = xs.getD (a + j) 0) → n ≤ mtU xs f a k
  | 0, n, h, _ => by omega
  | k + 1, n, h, he => by
    rw [mtU]
    by_cases hn : n = k + 1
    · have h1 := mtU_ge k k (Nat.le_refl _) (fun j hj => he j (by omega))
      have h2 := mtU_le xs f a k
      rw [if_pos ⟨by omega, he k (by omega)⟩]; omega
    · have h1 := mtU_ge k n (by omega) he
      split <;> omega
theorem mtU_eq {xs : List Nat} {f a : Nat} : ∀ k j, j < mtU xs f a k → xs.getD (f + j) 0 = xs.getD (a + j) 0
  | 0, j, h => by rw [mtU] at h; omega
  | k + 1, j, h => by
    rw [mtU] at h
    split at h
    · rename_i hc
      by_cases hj : j = k
      · rw [hj]; exact hc.2
      · exact mtU_eq k j (by rw [hc.1]; omega)
    · exact mtU_eq k j h
def mt (xs : List Nat) (f a : Nat) : Nat := mtU xs f a (min 66 (xs.length - a))
theorem mt_le (xs : List Nat) (f a : Nat) : mt xs f a ≤ min 66 (xs.length - a) := mtU_le _ _ _ _
theorem mt_most {xs : List Nat} {f a n : Nat} (hn : n = min 66 (xs.length - a)) (h : ∀ j, j < n → xs.getD (f + j) 0 = xs.getD (a + j) 0) : mt xs f a = n := by
  have h1 := mtU_ge (min 66 (xs.length - a)) n (by omega) h
  have h2 := mt_le xs f a
  unfold mt at h2 ⊢; omega
theorem mt_stop {xs : List Nat} {f a n : Nat} (hn : n ≤ min 66 (xs.length - a)) (h : ∀ j, j < n → xs.getD (f + j) 0 = xs.getD (a + j) 0) (hne : xs.getD (f + n) 0 ≠ xs.getD (a + n) 0) : mt xs f a = n := by
  have h1 := mtU_ge (min 66 (xs.length - a)) n hn h
  have h2 : ¬ n < mtU xs f a (min 66 (xs.length - a)) := fun h' => hne (mtU_eq _ _ h')
  unfold mt; omega
/-- One more place looked at. -/
def pick (xs : List Nat) (a : Nat) (s : Nat × Nat) (f : Nat) : Nat × Nat := if s.2 < mt xs f a then (a - f, mt xs f a) else s
def scan (xs : List Nat) (a : Nat) (zs : List Nat) : Nat × Nat := zs.foldl (pick xs a) (0, 0)
/-- One of just 3 bytes is not taken from far. -/
def mask (s : Nat × Nat) : Nat × Nat := if s.2 = 3 ∧ 128 < s.1 then (0, 0) else s
def bst (xs : List Nat) (a : Nat) : Nat × Nat := if a + 3 ≤ xs.length then mask (scan xs a (seen xs a (key xs a)).reverse) else (0, 0)
theorem scan_snoc (xs : List Nat) (a : Nat) (zs : List Nat) (f : Nat) : scan xs a (zs ++ [f]) = pick xs a (scan xs a zs) f := by simp [scan]
theorem scan_most {xs : List Nat} {a : Nat} : ∀ (l : List Nat) (s : Nat × Nat), s.2 = min 66 (xs.length - a) → l.foldl (pick xs a) s = s
  | [], s, h => rfl
  | f :: l, s, h => by
    have h1 := mt_le xs f a
    rw [List.foldl_cons, show pick xs a s f = s from if_neg (by omega)]
    exact scan_most l s h
theorem scan_app {xs : List Nat} {a : Nat} {zs l : List Nat} (h : (scan xs a zs).2 = min 66 (xs.length - a)) : scan xs a (zs ++ l) = scan xs a zs := by
  unfold scan at h ⊢
  rw [List.foldl_append]; exact scan_most l _ h
theorem scan_le {xs : List Nat} {a : Nat} (zs : List Nat) (hz : ∀ f ∈ zs, a ≤ f + 4096) : (scan xs a zs).1 ≤ 4096 ∧ (scan xs a zs).2 ≤ 66 := by
  have : ∀ (l : List Nat) (s : Nat × Nat), s.1 ≤ 4096 → s.2 ≤ 66 → (∀ f ∈ l, a ≤ f + 4096) → (l.foldl (pick xs a) s).1 ≤ 4096 ∧ (l.foldl (pick xs a) s).2 ≤ 66 := by
    intro l
    induction l with
    | nil => intro s h1 h2 _; exact ⟨h1, h2⟩
    | cons f l ih =>
      intro s h1 h2 h3
      rw [List.foldl_cons]
      have hm := mt_le xs f a
      have hf := h3 f (List.mem_cons_self)
      apply ih
      · unfold pick; split
        · show a - f ≤ 4096; omega
        · exact h1
      · unfold pick; split
        · show mt xs f a ≤ 66; omega
        · exact h2
      · exact fun g hg => h3 g (List.mem_cons_of_mem _ hg)
  exact this zs (0, 0) (by simp) (by simp) hz
theorem rev_drop {zs : List Nat} {k : Nat} (h : k < zs.length) : (zs.drop k).reverse = (zs.drop (k + 1)).reverse ++ [zs.getD k 0] := by
  rw [List.drop_eq_getElem_cons h, List.reverse_cons, List.getD_eq_getElem?_getD, List.getElem?_eq_getElem h]; rfl
theorem rev_take (zs : List Nat) (k : Nat) : zs.reverse = (zs.drop k).reverse ++ (zs.take k).reverse := by
  rw [← List.reverse_append, List.take_append_drop]
end Go.Proofs.Ytodmjkhfckokhaa.Lz
