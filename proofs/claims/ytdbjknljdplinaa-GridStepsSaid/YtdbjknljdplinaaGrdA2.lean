/- Tiles around one, row by row (plain). -/
import Derived.Test.YtdbjknljdplinaaGrdA
namespace Go.Proofs.Ytdbjknljdplinaa.Grid
set_option linter.unusedVariables false

theorem far_row (W t u : Nat) : (t / W - u / W) + (u / W - t / W) ≤ far W t u := by unfold far; omega
theorem up_rows0 {W t F r : Nat} (hW : 0 < W) (h : r + F ≤ t / W ∨ r = 0) : upto W t (F : Int) (r * W) = [] := by
  have := upto_skip (W := W) (t := t) (f := (F : Int)) (k := 0) (r * W) (Nat.zero_le _) (fun u _ h2 => by
    have h3 : u / W < r := (Nat.div_lt_iff_lt_mul hW).2 h2
    have h4 := far_row W t u
    generalize far W t u = a at *
    generalize t / W = y at *
    generalize u / W = v at *
    omega)
  rw [this, upto_zero]
theorem up_rows1 {W H t F r : Nat} (hW : 0 < W) (hr : r ≤ H) (h : t / W + F < r ∨ r = H) : upto W t (F : Int) (H * W) = upto W t (F : Int) (r * W) := by
  refine upto_skip (H * W) (Nat.mul_le_mul_right W hr) (fun u h1 h2 => ?_)
  have h3 : r ≤ u / W := (Nat.le_div_iff_mul_le hW).2 h1
  have h5 : u / W < H := (Nat.div_lt_iff_lt_mul hW).2 h2
  have h4 := far_row W t u
  generalize far W t u = a at *
  generalize t / W = y at *
  generalize u / W = v at *
  omega
theorem up_col0 {W t F r c L : Nat} (hc : c ≤ W) (h : c + L ≤ t % W ∨ c = 0) (hL : L + ((t / W - r) + (r - t / W)) = F) : upto W t (F : Int) (r * W + c) = upto W t (F : Int) (r * W) := by
  refine upto_skip (r * W + c) (Nat.le_add_right _ _) (fun u h1 h2 => ?_)
  obtain ⟨j, hj⟩ : ∃ j, u = r * W + j := ⟨u - r * W, by omega⟩
  rw [hj, far_rc (by omega)]
  generalize t / W = y at *
  generalize t % W = x at *
  omega
theorem up_col1 {W t F r c L : Nat} (hc : c ≤ W) (h : t % W + L < c ∨ c = W) (hL : L + ((t / W - r) + (r - t / W)) = F) : upto W t (F : Int) ((r + 1) * W) = upto W t (F : Int) (r * W + c) := by
  have e : (r + 1) * W = r * W + W := by rw [Nat.add_mul, Nat.one_mul]
  rw [e]
  refine upto_skip (r * W + W) (Nat.add_le_add_left hc _) (fun u h1 h2 => ?_)
  obtain ⟨j, hj⟩ : ∃ j, u = r * W + j := ⟨u - r * W, by omega⟩
  rw [hj, far_rc (by omega)]
  generalize t / W = y at *
  generalize t % W = x at *
  omega
theorem up_one {W t F r c L : Nat} (hc : c < W) (h1 : c ≤ t % W + L) (h2 : t % W ≤ c + L) (hL : L + ((t / W - r) + (r - t / W)) = F) : upto W t (F : Int) (r * W + (c + 1)) = upto W t (F : Int) (r * W + c) ++ [r * W + c] := by
  rw [← Nat.add_assoc]
  refine upto_yes ?_
  rw [far_rc hc]
  generalize t / W = y at *
  generalize t % W = x at *
  omega
end Go.Proofs.Ytdbjknljdplinaa.Grid
