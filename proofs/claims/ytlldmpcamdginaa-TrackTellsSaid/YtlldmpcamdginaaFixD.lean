/- Contracts of package fix: a step toward a point; the known points. -/
import Derived.Test.YtlldmpcamdginaaFX
namespace Go.Proofs.Ytlldmpcamdginaa.Fix
open Go.ChangeShapes Go.WideShapes Go.ChangeAt Go.RowKit

theorem sqd_same (x y : Int) : sqd x y x y = 0 := by simp [sqd]
theorem root_zero {r : Nat} (h : IsRoot 0 r) : r = 0 := by
  have := h.1
  rcases Nat.eq_zero_or_pos r with h0 | h0
  · exact h0
  · have := Nat.mul_pos h0 h0; omega
end Go.Proofs.Ytlldmpcamdginaa.Fix
