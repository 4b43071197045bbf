/- Tiles: how far they are apart, which are next to one, which are around (plain). -/
import Derived.Test.YtdbjknljdplinaaBase
namespace Go.Proofs.Ytdbjknljdplinaa.Grid
set_option linter.unusedVariables false

/-- How far tiles are apart, of a map of W columns. -/
def far (W a b : Nat) : Nat := (a % W - b % W) + (b % W - a % W) + ((a / W - b / W) + (b / W - a / W))
theorem far_self (W a : Nat) : far W a a = 0 := by unfold far; omega
theorem far_comm (W a b : Nat) : far W a b = far W b a := by unfold far; omega
/-- The tiles below k that are not farther. -/
def upto (W t : Nat) (f : Int) (k : Nat) : List Nat := (List.range k).filter fun u => decide ((far W t u : Int) ≤ f)
theorem upto_zero (W t : Nat) (f : Int) : upto W t f 0 = [] := rfl
theorem upto_yes {W t k : Nat} {f : Int} (h : (far W t k : Int) ≤ f) : upto W t f (k + 1) = upto W t f k ++ [k] := by
  unfold upto; rw [List.range_succ, List.filter_append]; simp [h]
theorem upto_no {W t k : Nat} {f : Int} (h : ¬ (far W t k : Int) ≤ f) : upto W t f (k + 1) = upto W t f k := by
  unfold upto
  rw [List.range_succ, List.filter_append]
  have : List.filter (fun u => decide ((far W t u : Int) ≤ f)) [k] = [] := by rw [List.filter_eq_nil_iff]; intro a ha; rw [List.mem_singleton.1 ha]; simpa using h
  rw [this, List.append_nil]
theorem upto_skip {W t k : Nat} {f : Int} : ∀ m, k ≤ m → (∀ u, k ≤ u → u < m → ¬ (far W t u : Int) ≤ f) → upto W t f m = upto W t f k := by
  intro m
  induction m with
  | zero =>
    intro h _
    have e : k = 0 := by omega
    rw [e]
  | succ m ih =>
    intro h hn
    by_cases e : k = m + 1
    · rw [e]
    · rw [upto_no (hn m (by omega) (by omega)), ih (by omega) (fun u h1 h2 => hn u h1 (by omega))]
theorem upto_len (W t : Nat) (f : Int) (k : Nat) : (upto W t f k).length ≤ k := by
  unfold upto; have := List.length_filter_le (fun u => decide ((far W t u : Int) ≤ f)) (List.range k); rw [List.length_range] at this; exact this
theorem upto_mem {W t k u : Nat} {f : Int} : u ∈ upto W t f k ↔ u < k ∧ (far W t u : Int) ≤ f := by simp [upto, List.mem_filter]
theorem upto_neg {W t k : Nat} {f : Int} (h : f < 0) : upto W t f k = [] := by
  unfold upto; rw [List.filter_eq_nil_iff]; intro a _; simp; omega
theorem div_lt' {W H u : Nat} (hW : 0 < W) (h : u < W * H) : u / W < H := (Nat.div_lt_iff_lt_mul hW).2 (by rw [Nat.mul_comm]; exact h)
theorem far_le {W H a b : Nat} (hW : 0 < W) (ha : a < W * H) (hb : b < W * H) : far W a b + 2 ≤ W + H := by
  have h1 := Nat.mod_lt a hW; have h2 := Nat.mod_lt b hW
  have h3 := div_lt' hW ha; have h4 := div_lt' hW hb
  unfold far
  generalize a % W = x at *; generalize b % W = x2 at *; generalize a / W = y at *; generalize b / W = y2 at *
  omega
/-- A far limit is as a lower one. -/
theorem upto_min {W H t : Nat} {f : Int} (hW : 0 < W) (ht : t < W * H) : upto W t (min f ((W : Int) + (H : Int))) (W * H) = upto W t f (W * H) := by
  unfold upto
  refine List.filter_congr (fun u hu => ?_)
  have hu' := List.mem_range.1 hu
  have := far_le hW ht hu'
  rw [decide_eq_decide]
  omega
theorem rc_div {W r c : Nat} (h : c < W) : (r * W + c) / W = r := by
  rw [Nat.mul_comm, Nat.mul_add_div (by omega), Nat.div_eq_of_lt h, Nat.add_zero]
theorem rc_mod {W r c : Nat} (h : c < W) : (r * W + c) % W = c := by
  rw [Nat.mul_comm, Nat.mul_add_mod, Nat.mod_eq_of_lt h]
theorem far_rc {W t r c : Nat} (h : c < W) : far W t (r * W + c) = (t % W - c) + (c - t % W) + ((t / W - r) + (r - t / W)) := by
  unfold far; rw [rc_div h, rc_mod h]
theorem div_mod' (W u : Nat) : u = u / W * W + u % W := by have := Nat.div_add_mod u W; rw [Nat.mul_comm] at this; omega
/-- The tiles next to one, in order. -/
def nxt (W H t : Nat) : List Nat :=
  (if 0 < t / W then [t - W] else []) ++ (if t % W + 1 < W then [t + 1] else []) ++ (if t / W + 1 < H then [t + W] else []) ++ (if 0 < t % W then [t - 1] else [])
theorem sub_div {W t : Nat} : (t - W) / W = t / W - 1 := by have := Nat.sub_mul_div t W 1; rwa [Nat.mul_one] at this
theorem sub_mod {W t : Nat} (h : W ≤ t) : (t - W) % W = t % W := by have := Nat.sub_mul_mod (x := t) (n := W) (k := 1) (by omega); rwa [Nat.mul_one] at this
theorem row_pos {W t : Nat} (hW : 0 < W) : 0 < t / W ↔ W ≤ t := Nat.div_pos_iff.trans ⟨fun h => h.2, fun h => ⟨hW, h⟩⟩
theorem add_div' {W t : Nat} (hW : 0 < W) : (t + W) / W = t / W + 1 := Nat.add_div_right t hW
theorem row_more {W H t : Nat} (hW : 0 < W) : t / W + 1 < H ↔ t + W < W * H := by
  rw [← add_div' hW, Nat.div_lt_iff_lt_mul hW, Nat.mul_comm]
theorem right_same {W t : Nat} (hW : 0 < W) (h : t % W + 1 < W) : (t + 1) / W = t / W ∧ (t + 1) % W = t % W + 1 := by
  have e : t + 1 = t / W * W + (t % W + 1) := by have := div_mod' W t; omega
  rw [e, rc_div h, rc_mod h]; exact ⟨rfl, rfl⟩
theorem right_next {W t : Nat} (hW : 0 < W) (h : t % W + 1 = W) : (t + 1) / W = t / W + 1 ∧ (t + 1) % W = 0 := by
  have e : t + 1 = (t / W + 1) * W + 0 := by have := div_mod' W t; rw [Nat.add_mul]; omega
  rw [e, rc_div hW, rc_mod hW]; exact ⟨rfl, rfl⟩
theorem left_same {W t : Nat} (hW : 0 < W) (h : 0 < t % W) : (t - 1) / W = t / W ∧ (t - 1) % W = t % W - 1 := by
  have hl := Nat.mod_lt t hW
  have e : t - 1 = t / W * W + (t % W - 1) := by have := div_mod' W t; omega
  rw [e, rc_div (by omega), rc_mod (by omega)]; exact ⟨rfl, rfl⟩
theorem left_next {W t : Nat} (hW : 0 < W) (h : t % W = 0) (h0 : 0 < t) : (t - 1) / W + 1 = t / W ∧ (t - 1) % W = W - 1 := by
  have h1 := div_mod' W t
  have hr : 0 < t / W := by
    rcases Nat.eq_zero_or_pos (t / W) with e | e
    · rw [e, h] at h1; omega
    · exact e
  obtain ⟨k, hk⟩ : ∃ k, t / W = k + 1 := ⟨t / W - 1, by omega⟩
  have e : t - 1 = k * W + (W - 1) := by rw [hk, Nat.add_mul] at h1; omega
  rw [hk, e, rc_div (by omega), rc_mod (by omega)]; exact ⟨rfl, rfl⟩
/-- Which of the four are next to one. -/
theorem far_north {W t : Nat} (hW : 0 < W) (h : W ≤ t) : far W t (t - W) = 1 := by
  have := (row_pos hW).2 h
  unfold far; rw [sub_div, sub_mod h]; generalize t % W = x at *; generalize t / W = y at *; omega
theorem far_south {W t : Nat} (hW : 0 < W) : far W t (t + W) = 1 := by
  unfold far; rw [add_div' hW, Nat.add_mod_right]; generalize t % W = x at *; generalize t / W = y at *; omega
theorem far_east {W t : Nat} (hW : 4 ≤ W) : far W t (t + 1) = 1 ↔ t % W + 1 < W := by
  have hl := Nat.mod_lt t (show 0 < W by omega)
  unfold far
  by_cases h : t % W + 1 < W
  · obtain ⟨h1, h2⟩ := right_same (by omega) h
    rw [h1, h2]; generalize t % W = x at *; generalize t / W = y at *; omega
  · obtain ⟨h1, h2⟩ := right_next (by omega) (show t % W + 1 = W by omega)
    rw [h1, h2]; generalize t % W = x at *; generalize t / W = y at *; omega
theorem far_west {W t : Nat} (hW : 4 ≤ W) (h0 : 0 < t) : far W t (t - 1) = 1 ↔ 0 < t % W := by
  have hl := Nat.mod_lt t (show 0 < W by omega)
  unfold far
  by_cases h : 0 < t % W
  · obtain ⟨h1, h2⟩ := left_same (by omega) h
    rw [h1, h2]; generalize t % W = x at *; generalize t / W = y at *; omega
  · obtain ⟨h1, h2⟩ := left_next (by omega) (show t % W = 0 by omega) h0
    rw [h2]; generalize t % W = x at *; generalize (t - 1) / W = z at *; generalize t / W = y at *; omega
end Go.Proofs.Ytdbjknljdplinaa.Grid
