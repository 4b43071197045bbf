/- The walk of the law that tells rules, at one kind. -/
import Derived.Test.YtdbjknljdplinaaDoorRulD
import Derived.LoopTactic
import Derived.BigQuiet
import Derived.IntWalk
import Derived.Deep.QuietTactic
import Derived.Deep.RegionHeld3
namespace Go.Proofs.YtdbjknljdplinaaDoor.Rul
open Go.ChangeShapes Go.WideShapes Go.ChangeAt Go.RowKit
set_option linter.unusedVariables false
theorem made_5 (m : Nat) : makesB m 5 = (decide (0 < (m : Int)) && ((m : Int) == 2)) := by
  have e1 : isN 5 = true := by decide
  have e2 : makerN 5 = 2 := by decide
  unfold makesB
  rw [e1, e2, Bool.eq_iff_iff]
  simp [isN]
  omega
/-- The numbers that are held one against the other. -/
def got_5 (i : Nat) : Int := ([40, 0, 0, 0, 0, 40, 12, 3, 0, 2, 0] : List Int).getD i 0
theorem got_cell_5 (w : World) (i : Nat) (hi : i < 10) : (w.alloc (.cells #[.int .i64 40, .int .i64 0, .int .i64 0, .int .i64 0, .int .i64 0, .int .i64 40, .int .i64 12, .int .i64 3, .int .i64 0, .int .i64 2] 3)).cell? ⟨w.heap.size, i, none⟩ = some (.int .i64 (got_5 i)) := by
  have : i = 0 ∨ i = 1 ∨ i = 2 ∨ i = 3 ∨ i = 4 ∨ i = 5 ∨ i = 6 ∨ i = 7 ∨ i = 8 ∨ i = 9 := by omega
  rcases this with rfl | rfl | rfl | rfl | rfl | rfl | rfl | rfl | rfl | rfl <;> go_simp <;> rfl
theorem row_cell_5 (w : World) (i : Nat) (hi : i < 10) : (w.alloc (.cells #[.int .i64 40, .int .i64 0, .int .i64 0, .int .i64 0, .int .i64 0, .int .i64 40, .int .i64 12, .int .i64 3, .int .i64 0, .int .i64 2, .int .i64 0] 3)).cell? ⟨w.heap.size, i, none⟩ = some (.int .i64 (got_5 i)) := by
  have : i = 0 ∨ i = 1 ∨ i = 2 ∨ i = 3 ∨ i = 4 ∨ i = 5 ∨ i = 6 ∨ i = 7 ∨ i = 8 ∨ i = 9 := by omega
  rcases this with rfl | rfl | rfl | rfl | rfl | rfl | rfl | rfl | rfl | rfl <;> go_simp <;> rfl
set_option maxHeartbeats 4000000 in
set_option maxRecDepth 100000 in
theorem tell_5_z (z : Int) (z0 : 0 < z) (z1 : z < 256) (zq : (z == 2) = false) (hc : ∀ W, Tab W → Calls Tryd.prog 7 #[.int .u8 z, .int .u8 5] W fun e w' => e = .returned (.bool false) ∧ Ext W w') (w : World) (h : Tab w) : Calls Tryd.prog 3 #[.int .u8 5, .int .u8 z] w fun e w' => e = .returned (.bool true) ∧ Ext w w' := by
  have H := Lib.hid h; clear h
  have HC := Lib.hid hc; clear hc
  go_enter Tryd.func3, Tryd.ntmps3
  go_wp2_with fail
  refine (of_5 _ H.out).mono ?_
  rintro e w1 ⟨rfl, b1⟩
  go_wp2_with fail
  refine (row_5 _).mono ?_
  rintro e w2 ⟨rfl, rfl⟩
  go_wp2_with fail
  obtain ⟨W, hW⟩ : ∃ W, W = ((w1.alloc (.cells #[.int .i64 40, .int .i64 0, .int .i64 0, .int .i64 0, .int .i64 0, .int .i64 40, .int .i64 12, .int .i64 3, .int .i64 0, .int .u8 2, .bool false] 23)).alloc (.cells #[.int .i64 40, .int .i64 0, .int .i64 0, .int .i64 0, .int .i64 0, .int .i64 40, .int .i64 12, .int .i64 3, .int .i64 0, .int .i64 2, .int .i64 0] 3)).alloc (.cells #[.int .i64 40, .int .i64 0, .int .i64 0, .int .i64 0, .int .i64 0, .int .i64 40, .int .i64 12, .int .i64 3, .int .i64 0, .int .i64 2] 3) := ⟨_, rfl⟩
  rw [← hW]
  have HW := Lib.hid hW; clear hW
  go_loopw [9] (fun i wr => ∃ (k d : Nat), k ≤ 10 ∧ i = .int .i64 (k : Int) ∧ wr = W.drewN d) (fun i _ => 10 - (intOf i).toNat)
  case atStart => exact ⟨0, 0, by omega, rfl, rfl⟩
  case round =>
    obtain ⟨k, d, hk, rfl, rfl⟩ := hrel
    by_cases hlt : k < 10
    · have c1 : W.cell? ⟨w1.heap.size + 1, k, none⟩ = some (.int .i64 (got_5 k)) := by
        rw [HW.out, World.cell?_alloc_lt _ _ _ (by simp)]
        have := row_cell_5 (w1.alloc (.cells #[.int .i64 40, .int .i64 0, .int .i64 0, .int .i64 0, .int .i64 0, .int .i64 40, .int .i64 12, .int .i64 3, .int .i64 0, .int .u8 2, .bool false] 23)) k hlt
        rwa [World.size_alloc] at this
      have c2 : W.cell? ⟨w1.heap.size + 1 + 1, k, none⟩ = some (.int .i64 (got_5 k)) := by
        rw [HW.out]
        have := got_cell_5 ((w1.alloc (.cells #[.int .i64 40, .int .i64 0, .int .i64 0, .int .i64 0, .int .i64 0, .int .i64 40, .int .i64 12, .int .i64 3, .int .i64 0, .int .u8 2, .bool false] 23)).alloc (.cells #[.int .i64 40, .int .i64 0, .int .i64 0, .int .i64 0, .int .i64 0, .int .i64 40, .int .i64 12, .int .i64 3, .int .i64 0, .int .i64 2, .int .i64 0] 3)) k hlt
        rwa [World.size_alloc, World.size_alloc] at this
      have k0 : (0 : Int) ≤ (k : Int) := by omega
      have k1 : (k : Int) < 10 := by omega
      have k2 : (k : Int) < 11 := by omega
      go_wp2_with fail
      go_quiet (fail)
      go_wp2_with fail
      go_roundw
      case rel => exact ⟨k + 1, _, by omega, by go_num, rfl⟩
      case measure => simp [intOf]; omega
    · obtain rfl : k = 10 := by omega
      have x0 : (W.drewN d).cell? ⟨w1.heap.size, 0, none⟩ = some (.int .i64 40) := by rw [HW.out]; go_simp
      have x1 : (W.drewN d).cell? ⟨w1.heap.size, 1, none⟩ = some (.int .i64 0) := by rw [HW.out]; go_simp
      have x2 : (W.drewN d).cell? ⟨w1.heap.size, 2, none⟩ = some (.int .i64 0) := by rw [HW.out]; go_simp
      have x3 : (W.drewN d).cell? ⟨w1.heap.size, 3, none⟩ = some (.int .i64 0) := by rw [HW.out]; go_simp
      have x4 : (W.drewN d).cell? ⟨w1.heap.size, 4, none⟩ = some (.int .i64 0) := by rw [HW.out]; go_simp
      have x5 : (W.drewN d).cell? ⟨w1.heap.size, 5, none⟩ = some (.int .i64 40) := by rw [HW.out]; go_simp
      have x6 : (W.drewN d).cell? ⟨w1.heap.size, 6, none⟩ = some (.int .i64 12) := by rw [HW.out]; go_simp
      have x7 : (W.drewN d).cell? ⟨w1.heap.size, 7, none⟩ = some (.int .i64 3) := by rw [HW.out]; go_simp
      have x8 : (W.drewN d).cell? ⟨w1.heap.size, 8, none⟩ = some (.int .i64 0) := by rw [HW.out]; go_simp
      have x9 : (W.drewN d).cell? ⟨w1.heap.size, 9, none⟩ = some (.int .u8 2) := by rw [HW.out]; go_simp
      have x10 : (W.drewN d).cell? ⟨w1.heap.size, 10, none⟩ = some (.bool false) := by rw [HW.out]; go_simp
      have x11 : (W.drewN d).cell? ⟨w1.heap.size + 1, 1, none⟩ = some (.int .i64 0) := by rw [HW.out]; go_simp
      have x12 : (W.drewN d).cell? ⟨w1.heap.size + 1, 9, none⟩ = some (.int .i64 2) := by rw [HW.out]; go_simp
      have x13 : (W.drewN d).cell? ⟨w1.heap.size + 1, 10, none⟩ = some (.int .i64 0) := by rw [HW.out]; go_simp
      have TR : Tab (W.drewN d) := by rw [HW.out]; exact (H.out.ext b1).ext (ext_drewN (ext_alloc (ext_alloc (ext_alloc (Ext.rfl' _) _) _) _) _)
      have EX : Ext w (W.drewN d).drew := by rw [HW.out]; exact ext_drew (ext_drewN (ext_alloc (ext_alloc (ext_alloc b1 _) _) _) _)
      generalize W.drewN d = wr at *
      have hwz : IntKind.i64.wrap z = z := IntWalk.i64_in _ (by omega)
      go_wp2_with fail
      go_region_held3 (fun w' => w'.cell? ⟨w1.heap.size, 0, none⟩ = some (.int .i64 40) ∧ w'.cell? ⟨w1.heap.size, 1, none⟩ = some (.int .i64 0) ∧ w'.cell? ⟨w1.heap.size, 2, none⟩ = some (.int .i64 0) ∧ w'.cell? ⟨w1.heap.size, 3, none⟩ = some (.int .i64 0) ∧ w'.cell? ⟨w1.heap.size, 4, none⟩ = some (.int .i64 0) ∧ w'.cell? ⟨w1.heap.size, 5, none⟩ = some (.int .i64 40) ∧ w'.cell? ⟨w1.heap.size, 6, none⟩ = some (.int .i64 12) ∧ w'.cell? ⟨w1.heap.size, 7, none⟩ = some (.int .i64 3) ∧ w'.cell? ⟨w1.heap.size, 8, none⟩ = some (.int .i64 0) ∧ w'.cell? ⟨w1.heap.size, 9, none⟩ = some (.int .u8 2) ∧ w'.cell? ⟨w1.heap.size, 10, none⟩ = some (.bool false) ∧ w'.cell? ⟨w1.heap.size + 1, 1, none⟩ = some (.int .i64 0) ∧ w'.cell? ⟨w1.heap.size + 1, 9, none⟩ = some (.int .i64 2) ∧ w'.cell? ⟨w1.heap.size + 1, 10, none⟩ = some (.int .i64 0) ∧ Tab w' ∧ Ext w w')
        (first | exact ⟨x0, x1, x2, x3, x4, x5, x6, x7, x8, x9, x10, x11, x12, x13, TR, EX⟩ | (go_split_ands; refine ⟨?_, ?_, ?_, ?_, ?_, ?_, ?_, ?_, ?_, ?_, ?_, ?_, ?_, ?_, ?_, ?_⟩ <;> first | exact kc b9 (by assumption) | exact Tab.ext (by assumption) b9 | exact ext_trans (by assumption) b9))
        (first | (go_at_call 9; refine (building _ _ _ _ _ _ _ _ _ _ _ _).mono ?_; rintro e w9 ⟨rfl, b9⟩) | (go_at_call 7; refine (HC.out _ ?_).mono ?_; (go_split_ands; assumption); rintro e w9 ⟨rfl, b9⟩) | (go_at_call 8; refine (wakes _ ?_).mono ?_; (go_split_ands; assumption); rintro e w9 ⟨rfl, b9⟩))
      go_wp2_with fail
      go_ret
      refine ⟨rfl, ?_⟩
      go_split_ands
      assumption
end Go.Proofs.YtdbjknljdplinaaDoor.Rul
