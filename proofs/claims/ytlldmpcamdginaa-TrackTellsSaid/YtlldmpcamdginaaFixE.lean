/- The walk of the law on who arrives. -/
import Derived.Test.YtlldmpcamdginaaFixD
import Derived.Test.YtlldmpcamdginaaFX
import Derived.Test.YtlldmpcamdginaaG1
import Derived.LoopTactic
import Derived.Deep.RegionHeld3
import Derived.Deep.DeepCutAuto
namespace Go.Proofs.Ytlldmpcamdginaa.Fix
open Go.ChangeShapes Go.WideShapes Go.ChangeAt Go.RowKit

/-- What holds at the head of each round: k steps were gone. -/
def ARel (w : World) (B : Nat) (px py qx qy : Int) (r0 : Nat) (th i : Value) (wr : World) : Prop :=
  ∃ (k r : Nat) (x y : Int) (b : Bool), k ≤ r0 / 256 + 2 ∧ th = .bool b ∧ i = .int .i64 (k : Int) ∧
    Blk wr B 61 #[.int .i32 px, .int .i32 py] ∧ Blk wr (B + 1) 61 #[.int .i32 qx, .int .i32 qy] ∧ Blk wr (B + 1 + 1) 61 #[.int .i32 x, .int .i32 y] ∧ Ext w wr ∧
    0 ≤ x ∧ x ≤ 16384 ∧ 0 ≤ y ∧ y ≤ 16384 ∧ IsRoot (sqd x y qx qy) r ∧ (b = false → r + 254 * k ≤ r0) ∧ (b = true → x = qx ∧ y = qy)
theorem near_of {x y : Int} (h1 : 0 ≤ x) (h2 : x ≤ 16384) (h3 : 0 ≤ y) (h4 : y ≤ 16384) : Near x y := ⟨by omega, by omega, by omega, by omega⟩
theorem root_le {x y u v : Int} {r : Nat} (hx : 0 ≤ x) (hx2 : x ≤ 16384) (hy : 0 ≤ y) (hy2 : y ≤ 16384) (hu : 0 ≤ u) (hu2 : u ≤ 16384) (hv : 0 ≤ v) (hv2 : v ≤ 16384) (h : IsRoot (sqd x y u v) r) : r ≤ 23171 := by
  obtain ⟨a1, a2⟩ := sq_bound (d := u - x) (b := 16384) (by omega) (by omega)
  obtain ⟨b1, b2⟩ := sq_bound (d := v - y) (b := 16384) (by omega) (by omega)
  have e := sqd_cast x y u v
  have h1 := h.1
  rcases Nat.lt_or_ge 23171 r with hl | hl
  · have := sq_le _ _ (Nat.succ_le_of_lt hl)
    simp only [Nat.succ_eq_add_one] at this
    omega
  · exact hl
end Go.Proofs.Ytlldmpcamdginaa.Fix
