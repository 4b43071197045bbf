/- Contracts of package lz: three bytes as one number. -/
import Derived.Test.YtodmjkhfckokhaaWireF
import Derived.Test.YtodmjkhfckokhaaLzA
namespace Go.Proofs.Ytodmjkhfckokhaa.Lz
open Go.ChangeShapes Go.WideShapes Go.ChangeAt Go.RowKit
open Go.Proofs.Ytodmjkhfckokhaa.Wire
set_option linter.unusedVariables false

def key (xs : List Nat) (p : Nat) : Nat := (xs.getD p 0 * 256 + xs.getD (p + 1) 0) * 256 + xs.getD (p + 2) 0
theorem key_inj {xs : List Nat} (h : ∀ j, xs.getD j 0 < 256) {p q : Nat} : key xs p = key xs q ↔ xs.getD p 0 = xs.getD q 0 ∧ xs.getD (p + 1) 0 = xs.getD (q + 1) 0 ∧ xs.getD (p + 2) 0 = xs.getD (q + 2) 0 := by
  have h1 := h p; have h2 := h (p + 1); have h3 := h (p + 2); have h4 := h q; have h5 := h (q + 1); have h6 := h (q + 2)
  unfold key; omega
set_option maxHeartbeats 4000000 in
set_option maxRecDepth 100000 in
theorem three_no (A : Option Addr) (N c : Nat) (at_ : Int) (w : World) (hN : N ≤ 1000000) (h1 : -10000 ≤ at_) (h2 : at_ ≤ 1000000) (h : at_ < 0 ∨ (N : Int) < at_ + 3) :
    Calls Try.prog 73 #[.slice A N c, .int .i64 at_] w fun e w' => e = .returned (.tuple #[.int .u32 0, .bool false]) ∧ w = w' := by
  go_enter Try.func73, Try.ntmps73
  by_cases h0 : at_ < 0
  · go_wp2_with fail
    go_ret2
    exact ⟨rfl, rfl⟩
  · have h3 : (N : Int) < at_ + 3 := by omega
    go_wp2_with fail
    go_ret2
    exact ⟨rfl, rfl⟩
set_option maxHeartbeats 4000000 in
set_option maxRecDepth 100000 in
theorem three_yes (A : Option Addr) (N c p : Nat) (xs : List Nat) (w : World) (hB : Bs w A N xs) (hN : N ≤ 1000000) (hp : p + 3 ≤ N) :
    Calls Try.prog 73 #[.slice A N c, .int .i64 (p : Int)] w fun e w' => e = .returned (.tuple #[.int .u32 (key xs p : Nat), .bool true]) ∧ Ext w w' := by
  obtain ⟨b, o, rfl, _, hcell⟩ := hB.2.2 (by omega)
  have q0 := hcell p (by omega)
  have q1 := hcell (p + 1) (by omega)
  have q2 := hcell (p + 2) (by omega)
  have s0 := hB.2.1 p
  have s1 := hB.2.1 (p + 1)
  have s2 := hB.2.1 (p + 2)
  have h0 : ¬ (p : Int) < 0 := by omega
  have h1 : ¬ (N : Int) < (p : Int) + 3 := by omega
  have hk : key xs p = (xs.getD p 0 * 256 + xs.getD (p + 1) 0) * 256 + xs.getD (p + 2) 0 := rfl
  clear hcell hB
  generalize key xs p = K at *
  generalize xs.getD p 0 = a0 at *
  generalize xs.getD (p + 1) 0 = a1 at *
  generalize xs.getD (p + 2) 0 = a2 at *
  have k0 : (0 : Int) ≤ (p : Int) := by omega
  have k1 : (p : Int) < (N : Int) := by omega
  have k2 : (p : Int) + 1 < (N : Int) := by omega
  have k3 : (p : Int) + 2 < (N : Int) := by omega
  go_enter Try.func73, Try.ntmps73
  go_wp2_with fail
  have e1 : IntKind.i64.wrap ((p : Int) + 1) = (p : Int) + 1 := by rw [IntKind.wrap_i64]; omega
  have e2 : IntKind.i64.wrap ((p : Int) + 2) = (p : Int) + 2 := by rw [IntKind.wrap_i64]; omega
  have e3 : IntKind.u32.wrap (a0 : Int) = (a0 : Int) := by rw [IntKind.wrap_u32]; omega
  have e4 : IntKind.u32.wrap (a1 : Int) = (a1 : Int) := by rw [IntKind.wrap_u32]; omega
  have e5 : IntKind.u32.wrap (a2 : Int) = (a2 : Int) := by rw [IntKind.wrap_u32]; omega
  have k4 : (0 : Int) ≤ (p : Int) + 1 := by omega
  have k5 : (0 : Int) ≤ (p : Int) + 2 := by omega
  have k6 : ((p : Int) + 1).toNat = p + 1 := by omega
  have k7 : ((p : Int) + 2).toNat = p + 2 := by omega
  have e6 : IntKind.u32.wrap ((a0 : Int) * 65536) = (a0 : Int) * 256 * 256 := by rw [IntKind.wrap_u32]; omega
  have e7 : IntKind.u32.wrap ((a1 : Int) * 256) = (a1 : Int) * 256 := by rw [IntKind.wrap_u32]; omega
  have e8 : bits BinOp.or IntKind.u32 ((a0 : Int) * 256 * 256) ((a1 : Int) * 256) = ((a0 : Int) * 256 + (a1 : Int)) * 256 := by
    rw [show ((a0 : Int) * 256 * 256) = ((a0 * 65536 : Nat) : Int) from by omega, show ((a1 : Int) * 256) = ((a1 * 256 : Nat) : Int) from by omega, or32, BitVec.toNat_or, BitVec.toNat_ofNat, BitVec.toNat_ofNat, Nat.mod_eq_of_lt (show a0 * 65536 < 2 ^ 32 by omega), Nat.mod_eq_of_lt (show a1 * 256 < 2 ^ 32 by omega)]
    have := Nat.shiftLeft_add_eq_or_of_lt (i := 16) (b := a1 * 256) (by omega) a0
    rw [Nat.shiftLeft_eq] at this
    rw [show a0 * 65536 = a0 * 2 ^ 16 from rfl, ← this]
    omega
  have e9 := be_val (a0 * 256 + a1) a2 (by omega) s2
  rw [show (((a0 * 256 + a1 : Nat) : Int)) = (a0 : Int) * 256 + (a1 : Int) from by omega] at e9
  refine wp_still (by kernel_rfl) (by kernel_rfl) ?_
  repeat still_step
  refine wpStill_nil ?_
  clear e1 e2 e3 e4 e5 e6 e7 e8 e9 k4 k5 k6 k7
  go_wp2_with fail
  go_ret2
  exact ⟨by rw [show ((a0 : Int) * 256 + (a1 : Int)) * 256 + (a2 : Int) = (K : Int) from by omega]; rfl, ext_drew (Ext.rfl' _)⟩
end Go.Proofs.Ytodmjkhfckokhaa.Lz
