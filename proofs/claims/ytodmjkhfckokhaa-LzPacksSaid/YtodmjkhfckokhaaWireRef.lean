/- The document's own bytes of numbers, walked. -/
import Derived.Test.YtodmjkhfckokhaaWireW
import Derived.Deep.RegionWith
namespace Go.Proofs.Ytodmjkhfckokhaa.Wire
open Go.ChangeShapes Go.WideShapes Go.ChangeAt Go.RowKit
set_option linter.unusedVariables false

set_option maxHeartbeats 1000000 in
theorem refFixed (m : Nat) (h : m < 4294967296) (w : World) : Calls Try.prog 18 #[.int .u32 (m : Int)] w fun e w' => e = .returned (.string (strOf (fx m))) ∧ Ext w w' := by
  have e : ((fx m).map fun x => Value.int .u8 (x : Nat)).toArray = #[.int .u8 ((m : Int) / 16777216), .int .u8 ((m : Int) / 65536 % 256), .int .u8 ((m : Int) / 256 % 256), .int .u8 ((m : Int) % 256)] := by simp [fx]
  have hB := bs_new w 5 (0, 0) (fx m) (small_mem (fx_mem h))
  rw [e] at hB
  have hcv := hB.conv (P := Try.prog) 22 5 9 Try.underlying22 Try.underlying5 Try.underlying9 4
  rw [show (fx m).length = 4 from rfl] at hcv
  clear e hB
  generalize strOf (fx m) = S at *
  go_enter Try.func18, Try.ntmps18
  go_wp2_with fail
  go_ret
  exact ⟨rfl, ext_alloc (Ext.rfl' _) _⟩
theorem refZigzag (m : Int) (h1 : -9223372036854775808 ≤ m) (h2 : m ≤ 9223372036854775807) (w : World) : Calls Try.prog 17 #[.int .i64 m] w fun e w' => e = .returned (.int .u64 (zz m : Int)) ∧ w = w' := by
  by_cases h : 0 ≤ m
  · have hz : (zz m : Int) = 2 * m := by unfold zz; rw [if_pos h]; omega
    rw [hz]
    go_enter Try.func17, Try.ntmps17
    go_wp2_with fail
    go_ret
    exact ⟨ret_int (by first | rfl | omega), rfl⟩
  · have hz : (zz m : Int) = -2 * m - 1 := by unfold zz; rw [if_neg h]; omega
    rw [hz]
    go_enter Try.func17, Try.ntmps17
    go_wp2_with fail
    go_ret
    exact ⟨ret_int (by first | rfl | omega), rfl⟩
theorem one_conv (B : Nat) (w : World) (x : Nat) (hx : x < 256) (h : w.cell? ⟨B, 0, none⟩ = some (.int .u8 (x : Int))) : (convert 22 9 (.slice (some ⟨B, 0, none⟩) 1 1)).run Try.prog w = .ok (.string (strOf [x])) w := by
  have hB : Bs w (some ⟨B, 0, none⟩) 1 [x] := ⟨rfl, small_mem (fun c hc => by simp at hc; omega), fun _ => ⟨B, 0, rfl, World.block_lt_of_cell? w _ h, fun j hj => by
    obtain rfl : j = 0 := by omega
    simpa using h⟩⟩
  exact hB.conv (P := Try.prog) 22 5 9 Try.underlying22 Try.underlying5 Try.underlying9 1
set_option maxHeartbeats 4000000 in
set_option maxRecDepth 100000 in
theorem refVarint (n : Nat) : ∀ (h : n < 18446744073709551616) (w : World), Calls Try.prog 16 #[.int .u64 (n : Int)] w fun e w' => e = .returned (.string (strOf (vb n))) ∧ Ext w w' := by
  induction n using Nat.strongRecOn with
  | _ n ih =>
    intro h w
    by_cases hlt : n < 128
    · rw [vb_small hlt]
      have hcv := one_conv w.heap.size (w.alloc (.cells #[.int .u8 (n : Int)] 5)) n (by omega) (by simp)
      generalize strOf [n] = S at *
      clear ih h
      go_enter Try.func16, Try.ntmps16
      go_wp2_with fail
      go_ret
      exact ⟨rfl, ext_alloc (Ext.rfl' _) _⟩
    · have HIH := Lib.hid (fun w => ih (n / 128) (by omega) (by omega) w)
      have HV : Hid (strOf (vb n) = strOf [n % 128 + 128] ++ strOf (vb (n / 128))) := Lib.hid (by rw [vb_more hlt, ← strOf_app]; rfl)
      have hdi : (n : Int) / 128 = ((n / 128 : Nat) : Int) := by omega
      obtain ⟨y, hy⟩ : ∃ y, y = n % 128 + 128 := ⟨_, rfl⟩
      obtain ⟨r, hr⟩ : ∃ r, r = n % 128 := ⟨_, rfl⟩
      have hcv : ∀ (B : Nat) (w' : World), w'.cell? ⟨B, 0, none⟩ = some (.int .u8 (y : Int)) → (convert 22 9 (.slice (some ⟨B, 0, none⟩) 1 1)).run Try.prog w' = .ok (.string (strOf [y])) w' := fun B w' hc => one_conv B w' y (by omega) hc
      have ht : (n : Int).tmod 128 = (r : Int) := by rw [Int.tmod_eq_emod_of_nonneg (by omega)]; omega
      have hw1 : IntKind.u64.wrap ((r : Int) + 128) = (y : Int) := by rw [IntKind.wrap_u64]; omega
      have hw2 : IntKind.u8.wrap (y : Int) = (y : Int) := by rw [IntKind.wrap_u8]; omega
      have hw3 : IntKind.u64.wrap ((n / 128 : Nat) : Int) = ((n / 128 : Nat) : Int) := by rw [IntKind.wrap_u64]; omega
      have HW := Lib.hid (And.intro ht (And.intro hw1 (And.intro hw2 hw3)))
      rw [← hy] at HV
      have hsz : ¬ (9223372036854775807 < (strOf [y]).size + (strOf (vb (n / 128))).size) := by
        rw [strOf_size, strOf_size]
        have := vb_ten (n := n / 128) (by omega)
        simp; omega
      clear ih h hy hr ht hw1 hw2 hw3
      generalize strOf [y] = S1 at *
      generalize n / 128 = q at *
      generalize strOf (vb q) = S2 at *
      rw [HV.out]
      go_enter Try.func16, Try.ntmps16
      go_wp2_with fail
      obtain ⟨ht, hw1, hw2, hw3⟩ := HW.out
      go_region_with (go_at_call 16; refine (HIH.out _).mono ?_; rintro e w8 ⟨rfl, b8⟩; obtain ⟨hcl, hfr⟩ := ecell b8; have hz8 := b8.size; have B8 := Lib.hid b8; clear b8)
      all_goals
        clear hcl hfr hcv
        go_wp2_with fail
        go_ret
        refine ⟨rfl, ?_⟩
        first
        | exact ext_trans (ext_drew (ext_alloc (Ext.rfl' _) _)) B8.out
        | exact ext_alloc (ext_trans (ext_drew (Ext.rfl' _)) B8.out) _
end Go.Proofs.Ytodmjkhfckokhaa.Wire
