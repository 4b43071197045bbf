/- The document's answers for fix. -/
import Derived.Test.YtlldmpcamdginaaFixE
import Derived.IntWalk
namespace Go.Proofs.Ytlldmpcamdginaa.Fix
open Go.ChangeShapes Go.WideShapes Go.ChangeAt Go.RowKit
set_option linter.unusedVariables false

abbrev R (x y : Int) : Value := .agg #[.int .i64 x, .int .i64 y]
abbrev I32 (x : Int) : Prop := -2147483648 ≤ x ∧ x ≤ 2147483647
def HRel (n : Nat) (lo hi : Value) : Prop := ∃ a b : Nat, a < b ∧ b ≤ 2147483648 ∧ a * a ≤ n ∧ n < b * b ∧ lo = .int .i64 (a : Int) ∧ hi = .int .i64 (b : Int)
set_option maxHeartbeats 1000000 in
theorem rpart (d a b : Int) (d1 : -2097152 ≤ d) (d2 : d ≤ 2097152) (ha : 0 ≤ a) (ha2 : a ≤ 1048576) (hab : a ≤ b) (hb0 : 1 ≤ b) (hb1 : b ≤ 4194304) (w : World) :
    Calls Try.prog 79 #[.int .i64 d, .int .i64 a, .int .i64 b] w fun e w' => e = .returned (.int .i64 (pt d a b)) ∧ w = w' := by
  have hbz : (b == 0) = false := beq_eq_false_iff_ne.2 (by omega)
  by_cases hd : d < 0
  · have hp := part_neg (d := d) (by omega) ha hab hb0
    obtain ⟨m1, m2⟩ := mul_bound (d := -d) (D := 2097152) (A := 1048576) (a := a) (by omega) (by omega) ha ha2
    have m0 : 0 ≤ -d * a := Int.mul_nonneg (by omega) ha
    have q := part_pos (d := -d) (by omega) ha hab hb0
    rw [q.2.2] at q
    obtain ⟨q1, q2, _⟩ := q
    have e : pt d a b = -(-d * a / b) := hp.2.2
    rw [e]
    clear hp e
    go_enter Try.func79, Try.ntmps79
    go_wp2
    go_ret
    exact ⟨rfl, rfl⟩
  · have hp := part_pos (d := d) (by omega) ha hab hb0
    obtain ⟨m1, m2⟩ := mul_bound (d := d) (D := 2097152) (A := 1048576) (a := a) (by omega) (by omega) ha ha2
    have m0 : 0 ≤ d * a := Int.mul_nonneg (by omega) ha
    have e : pt d a b = d * a / b := hp.2.2
    rw [e]
    clear hp e
    go_enter Try.func79, Try.ntmps79
    go_wp2
    go_ret
    exact ⟨rfl, rfl⟩
end Go.Proofs.Ytlldmpcamdginaa.Fix
