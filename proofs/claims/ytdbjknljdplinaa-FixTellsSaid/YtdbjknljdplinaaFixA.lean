/- Contracts of package fix. -/
import Derived.Test.YtdbjknljdplinaaRows
import Derived.Test.YtdbjknljdplinaaFixPlain
import Derived.Test.YtdbjknljdplinaaBase
import Derived.WalkKit
import Derived.ProofKit
import Derived.OpenShut
import Derived.Outline
import Derived.Lib.Hide
namespace Go.Proofs.Ytdbjknljdplinaa.Fix
open Go.ChangeShapes Go.WideShapes Go.ChangeAt Go.RowKit

def RootPost (n : Nat) (w : World) (e : Ending) (w' : World) : Prop := ∃ r : Nat, IsRoot n r ∧ r < 4294967296 ∧ e = .returned (.int .u64 (r : Int)) ∧ w = w'
def RootRel (n0 : Nat) (n root bit : Value) : Prop :=
  ∃ k r : Nat, Inv n0 k r ∧ n = .int .u64 ((n0 - r * r * 4 ^ k : Nat) : Int) ∧ root = .int .u64 ((r * 4 ^ k : Nat) : Int) ∧ bit = .int .u64 ((4 ^ k / 4 : Nat) : Int)
theorem rel_start {n0 : Nat} (h : n0 < 18446744073709551616) : RootRel n0 (.int .u64 (n0 : Int)) (.int .u64 0) (.int .u64 4611686018427387904) :=
  ⟨32, 0, inv_start h, by simp, by simp, by simp⟩
theorem meas (C : Nat) (h : 1 ≤ C) : (intOf (Value.int IntKind.u64 ((C : Int) / 4))).toNat < (intOf (Value.int IntKind.u64 (C : Int))).toNat := by
  simp only [intOf]; omega
set_option maxHeartbeats 400000 in
theorem root (n0 : Nat) (h : n0 < 18446744073709551616) (w : World) : Calls Try.prog 22 #[.int .u64 (n0 : Int)] w (RootPost n0 w) := by
  have h0 := rel_start h
  go_enter Try.func22, Try.ntmps22
  go_wp2
  go_loop [0, 3, 4] (fun n root bit => RootRel n0 n root bit) (fun _ _ bit => (intOf bit).toNat)
  case atStart => exact h0
  case round =>
    clear h0
    obtain ⟨k, r, hi, rfl, rfl, rfl⟩ := hrel
    have hk := hi.1
    cases k with
    | zero =>
      have Hi := Lib.hid hi; clear hi
      simp only [Nat.pow_zero, Nat.mul_one, Nat.reduceDiv]
      go_wp2
      go_ret
      obtain ⟨h1, h2⟩ := root_end Hi.out
      exact ⟨r, h1, h2, rfl, rfl⟩
    | succ j =>
      rw [bit_succ]
      have hroom := room (r := r) (j := j) (by omega) (by have := hi.2.1; rwa [show 32 - (j + 1) = 31 - j from by omega] at this)
      have hpos := @four_le j
      have hyes := @inv_yes n0 j r hi
      have hno := @inv_no n0 j r hi
      have hle : n0 - r * r * 4 ^ (j + 1) ≤ n0 := Nat.sub_le _ _
      generalize hA : r * 4 ^ (j + 1) = A at *
      generalize hB : n0 - r * r * 4 ^ (j + 1) = B at *
      generalize hC : 4 ^ j = C at *
      have HA := Lib.hid hA; clear hA
      have HB := Lib.hid hB; clear hB
      have HC := Lib.hid hC; clear hC
      have Hy := Lib.hid hyes; clear hyes
      have Hn := Lib.hid hno; clear hno
      have Hi := Lib.hid hi; clear hi
      by_cases ht : A + C ≤ B
      · go_wp2
        go_round
        case rel =>
          obtain ⟨h1, h2, h3⟩ := Hy.out ht
          have hC := HC.out
          exact ⟨j, 2 * r + 1, h1, int_eq (by rw [hC, h3]; omega), int_eq (by rw [hC, h2]; omega), int_eq (by rw [hC]; omega)⟩
        case measure => exact meas C hpos
      · go_wp2
        go_round
        case rel =>
          obtain ⟨h1, h2, h3⟩ := Hn.out ht
          have hC := HC.out
          exact ⟨j, 2 * r, h1, int_eq (by rw [hC, h3]), int_eq (by rw [hC, h2]; omega), int_eq (by rw [hC]; omega)⟩
        case measure => exact meas C hpos
end Go.Proofs.Ytdbjknljdplinaa.Fix
