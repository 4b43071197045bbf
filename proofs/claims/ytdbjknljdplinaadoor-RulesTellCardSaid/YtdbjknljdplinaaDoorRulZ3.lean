/- The walk of the law that tells rules, at one kind, where no maker is asked of. -/
import Derived.Test.YtdbjknljdplinaaDoorRulT3
namespace Go.Proofs.YtdbjknljdplinaaDoor.Rul
open Go.ChangeShapes Go.WideShapes Go.ChangeAt Go.RowKit
set_option linter.unusedVariables false
set_option maxHeartbeats 4000000 in
set_option maxRecDepth 100000 in
theorem tell_3_0 (w : World) (h : Tab w) : Calls Tryd.prog 3 #[.int .u8 3, .int .u8 0] w fun e w' => e = .returned (.bool true) ∧ Ext w w' := by
  have H := Lib.hid h; clear h
  have HC := Lib.hid (fun W' hW' => makes 0 3 (by omega) (by omega) W' hW')
  rw [show makesB 0 3 = false from by decide] at HC
  go_enter Tryd.func3, Tryd.ntmps3
  go_wp2_with fail
  refine (of_3 _ H.out).mono ?_
  rintro e w1 ⟨rfl, b1⟩
  go_wp2_with fail
  refine (row_3 _).mono ?_
  rintro e w2 ⟨rfl, rfl⟩
  go_wp2_with fail
  obtain ⟨W, hW⟩ : ∃ W, W = ((w1.alloc (.cells #[.int .i64 20, .int .i64 2, .int .i64 1, .int .i64 4, .int .i64 4, .int .i64 20, .int .i64 8, .int .i64 4, .int .i64 0, .int .u8 5, .bool false] 23)).alloc (.cells #[.int .i64 20, .int .i64 2, .int .i64 1, .int .i64 4, .int .i64 4, .int .i64 20, .int .i64 8, .int .i64 4, .int .i64 0, .int .i64 5, .int .i64 0] 3)).alloc (.cells #[.int .i64 20, .int .i64 2, .int .i64 1, .int .i64 4, .int .i64 4, .int .i64 20, .int .i64 8, .int .i64 4, .int .i64 0, .int .i64 5] 3) := ⟨_, rfl⟩
  rw [← hW]
  have HW := Lib.hid hW; clear hW
  go_loopw [9] (fun i wr => ∃ (k d : Nat), k ≤ 10 ∧ i = .int .i64 (k : Int) ∧ wr = W.drewN d) (fun i _ => 10 - (intOf i).toNat)
  case atStart => exact ⟨0, 0, by omega, rfl, rfl⟩
  case round =>
    obtain ⟨k, d, hk, rfl, rfl⟩ := hrel
    by_cases hlt : k < 10
    · have c1 : W.cell? ⟨w1.heap.size + 1, k, none⟩ = some (.int .i64 (got_3 k)) := by
        rw [HW.out, World.cell?_alloc_lt _ _ _ (by simp)]
        have := row_cell_3 (w1.alloc (.cells #[.int .i64 20, .int .i64 2, .int .i64 1, .int .i64 4, .int .i64 4, .int .i64 20, .int .i64 8, .int .i64 4, .int .i64 0, .int .u8 5, .bool false] 23)) k hlt
        rwa [World.size_alloc] at this
      have c2 : W.cell? ⟨w1.heap.size + 1 + 1, k, none⟩ = some (.int .i64 (got_3 k)) := by
        rw [HW.out]
        have := got_cell_3 ((w1.alloc (.cells #[.int .i64 20, .int .i64 2, .int .i64 1, .int .i64 4, .int .i64 4, .int .i64 20, .int .i64 8, .int .i64 4, .int .i64 0, .int .u8 5, .bool false] 23)).alloc (.cells #[.int .i64 20, .int .i64 2, .int .i64 1, .int .i64 4, .int .i64 4, .int .i64 20, .int .i64 8, .int .i64 4, .int .i64 0, .int .i64 5, .int .i64 0] 3)) k hlt
        rwa [World.size_alloc, World.size_alloc] at this
      have k0 : (0 : Int) ≤ (k : Int) := by omega
      have k1 : (k : Int) < 10 := by omega
      have k2 : (k : Int) < 11 := by omega
      go_wp2_with fail
      go_quiet (fail)
      go_wp2_with fail
      go_roundw
      case rel => exact ⟨k + 1, _, by omega, by go_num, rfl⟩
      case measure => simp [intOf]; omega
    · obtain rfl : k = 10 := by omega
      have x0 : (W.drewN d).cell? ⟨w1.heap.size, 0, none⟩ = some (.int .i64 20) := by rw [HW.out]; go_simp
      have x1 : (W.drewN d).cell? ⟨w1.heap.size, 1, none⟩ = some (.int .i64 2) := by rw [HW.out]; go_simp
      have x2 : (W.drewN d).cell? ⟨w1.heap.size, 2, none⟩ = some (.int .i64 1) := by rw [HW.out]; go_simp
      have x3 : (W.drewN d).cell? ⟨w1.heap.size, 3, none⟩ = some (.int .i64 4) := by rw [HW.out]; go_simp
      have x4 : (W.drewN d).cell? ⟨w1.heap.size, 4, none⟩ = some (.int .i64 4) := by rw [HW.out]; go_simp
      have x5 : (W.drewN d).cell? ⟨w1.heap.size, 5, none⟩ = some (.int .i64 20) := by rw [HW.out]; go_simp
      have x6 : (W.drewN d).cell? ⟨w1.heap.size, 6, none⟩ = some (.int .i64 8) := by rw [HW.out]; go_simp
      have x7 : (W.drewN d).cell? ⟨w1.heap.size, 7, none⟩ = some (.int .i64 4) := by rw [HW.out]; go_simp
      have x8 : (W.drewN d).cell? ⟨w1.heap.size, 8, none⟩ = some (.int .i64 0) := by rw [HW.out]; go_simp
      have x9 : (W.drewN d).cell? ⟨w1.heap.size, 9, none⟩ = some (.int .u8 5) := by rw [HW.out]; go_simp
      have x10 : (W.drewN d).cell? ⟨w1.heap.size, 10, none⟩ = some (.bool false) := by rw [HW.out]; go_simp
      have x11 : (W.drewN d).cell? ⟨w1.heap.size + 1, 1, none⟩ = some (.int .i64 2) := by rw [HW.out]; go_simp
      have x12 : (W.drewN d).cell? ⟨w1.heap.size + 1, 9, none⟩ = some (.int .i64 5) := by rw [HW.out]; go_simp
      have x13 : (W.drewN d).cell? ⟨w1.heap.size + 1, 10, none⟩ = some (.int .i64 0) := by rw [HW.out]; go_simp
      have TR : Tab (W.drewN d) := by rw [HW.out]; exact (H.out.ext b1).ext (ext_drewN (ext_alloc (ext_alloc (ext_alloc (Ext.rfl' _) _) _) _) _)
      have EX : Ext w (W.drewN d).drew := by rw [HW.out]; exact ext_drew (ext_drewN (ext_alloc (ext_alloc (ext_alloc b1 _) _) _) _)
      generalize W.drewN d = wr at *
      go_wp2_with fail
      refine wp_region_held_drew (S := fun w' => w'.cell? ⟨w1.heap.size, 0, none⟩ = some (.int .i64 20) ∧ w'.cell? ⟨w1.heap.size, 1, none⟩ = some (.int .i64 2) ∧ w'.cell? ⟨w1.heap.size, 2, none⟩ = some (.int .i64 1) ∧ w'.cell? ⟨w1.heap.size, 3, none⟩ = some (.int .i64 4) ∧ w'.cell? ⟨w1.heap.size, 4, none⟩ = some (.int .i64 4) ∧ w'.cell? ⟨w1.heap.size, 5, none⟩ = some (.int .i64 20) ∧ w'.cell? ⟨w1.heap.size, 6, none⟩ = some (.int .i64 8) ∧ w'.cell? ⟨w1.heap.size, 7, none⟩ = some (.int .i64 4) ∧ w'.cell? ⟨w1.heap.size, 8, none⟩ = some (.int .i64 0) ∧ w'.cell? ⟨w1.heap.size, 9, none⟩ = some (.int .u8 5) ∧ w'.cell? ⟨w1.heap.size, 10, none⟩ = some (.bool false) ∧ w'.cell? ⟨w1.heap.size + 1, 1, none⟩ = some (.int .i64 2) ∧ w'.cell? ⟨w1.heap.size + 1, 9, none⟩ = some (.int .i64 5) ∧ w'.cell? ⟨w1.heap.size + 1, 10, none⟩ = some (.int .i64 0) ∧ Tab w' ∧ Ext w w') (by kernel_rfl) ?_ (fun hHeld => ?_)
      · exact ⟨x0, x1, x2, x3, x4, x5, x6, x7, x8, x9, x10, x11, x12, x13, TR, EX⟩
      refine wpAnyH_take (i := 0) (oi := { dst := some 80, op := Go.Op.move (Go.Operand.tmp 6), type := 4, pos := "law.go:28", after := #[], guard := none }) (v := ?_) rfl (by kernel_rfl) (by kernel_rfl) (by kernel_rfl) (fun _ _ _ h => h) (Or.inl ⟨by rfl, ?_⟩) (by assumption) ?_
      rotate_left
      · (intro w hSw; (try dsimp only at hSw); go_simp; try with_reducible rfl)
      (try simp only [Act.put, List.setIfInBounds_toArray, List.set_cons_zero, List.set_cons_succ])
      refine wpAnyH_take (i := 1) (oi := { dst := some 81, op := Go.Op.move (Go.Operand.tmp 80), type := 4, pos := "law.go:28", after := #[{ on := 0, ground := Go.Ground.data }], guard := none }) (v := ?_) rfl (by kernel_rfl) (by kernel_rfl) (by kernel_rfl) (fun _ _ _ h => h) (Or.inl ⟨by rfl, ?_⟩) (by assumption) ?_
      rotate_left
      · (intro w hSw; (try dsimp only at hSw); go_simp; try with_reducible rfl)
      (try simp only [Act.put, List.setIfInBounds_toArray, List.set_cons_zero, List.set_cons_succ])
      refine wpAnyH_take (i := 2) (oi := { dst := some 82, op := Go.Op.fieldAddr 23 (Go.Operand.tmp 5) 10, type := 0, pos := "law.go:28", after := #[{ on := 1, ground := Go.Ground.guard }], guard := some (1, true) }) (v := ?_) rfl (by kernel_rfl) (by kernel_rfl) (by kernel_rfl) (fun _ _ _ h => h) (Or.inl ⟨by rfl, ?_⟩) (by assumption) ?_
      rotate_left
      · (intro w hSw; (try dsimp only at hSw); go_simp; try with_reducible rfl)
      (try simp only [Act.put, List.setIfInBounds_toArray, List.set_cons_zero, List.set_cons_succ])
      refine wpAnyH_take (i := 3) (oi := { dst := some 83, op := Go.Op.load 4 (Go.Operand.tmp 82), type := 4, pos := "law.go:28", after := #[{ on := 2, ground := Go.Ground.data }, { on := 1, ground := Go.Ground.guard }], guard := some (1, true) }) (v := ?_) rfl (by kernel_rfl) (by kernel_rfl) (by kernel_rfl) (fun _ _ _ h => h) (Or.inl ⟨by rfl, ?_⟩) (by assumption) ?_
      rotate_left
      · (intro w hSw; (try dsimp only at hSw); go_simp; try with_reducible rfl)
      (try simp only [Act.put, List.setIfInBounds_toArray, List.set_cons_zero, List.set_cons_succ])
      refine wpAnyH_take (i := 4) (oi := { dst := some 84, op := Go.Op.move (Go.Operand.tmp 7), type := 26, pos := "law.go:28", after := #[{ on := 1, ground := Go.Ground.guard }], guard := some (1, true) }) (v := ?_) rfl (by kernel_rfl) (by kernel_rfl) (by kernel_rfl) (fun _ _ _ h => h) (Or.inl ⟨by rfl, ?_⟩) (by assumption) ?_
      rotate_left
      · (intro w hSw; (try dsimp only at hSw); go_simp; try with_reducible rfl)
      (try simp only [Act.put, List.setIfInBounds_toArray, List.set_cons_zero, List.set_cons_succ])
      refine wpAnyH_take (i := 5) (oi := { dst := some 85, op := Go.Op.indexAddr 26 (Go.Operand.tmp 84) (Go.Operand.const (Go.Value.int Go.IntKind.i64 10)), type := 0, pos := "law.go:28", after := #[{ on := 4, ground := Go.Ground.data }, { on := 1, ground := Go.Ground.guard }], guard := some (1, true) }) (v := ?_) rfl (by kernel_rfl) (by kernel_rfl) (by kernel_rfl) (fun _ _ _ h => h) (Or.inl ⟨by rfl, ?_⟩) (by assumption) ?_
      rotate_left
      · (intro w hSw; (try dsimp only at hSw); go_simp; try with_reducible rfl)
      (try simp only [Act.put, List.setIfInBounds_toArray, List.set_cons_zero, List.set_cons_succ])
      refine wpAnyH_take (i := 6) (oi := { dst := some 86, op := Go.Op.load 3 (Go.Operand.tmp 85), type := 3, pos := "law.go:28", after := #[{ on := 5, ground := Go.Ground.data }, { on := 1, ground := Go.Ground.guard }], guard := some (1, true) }) (v := ?_) rfl (by kernel_rfl) (by kernel_rfl) (by kernel_rfl) (fun _ _ _ h => h) (Or.inl ⟨by rfl, ?_⟩) (by assumption) ?_
      rotate_left
      · (intro w hSw; (try dsimp only at hSw); go_simp; try with_reducible rfl)
      (try simp only [Act.put, List.setIfInBounds_toArray, List.set_cons_zero, List.set_cons_succ])
      refine wpAnyH_take (i := 7) (oi := { dst := some 87, op := Go.Op.binOp Go.BinOp.eql 3 (Go.Operand.tmp 86) (Go.Operand.const (Go.Value.int Go.IntKind.i64 1)) 3, type := 4, pos := "law.go:28", after := #[{ on := 6, ground := Go.Ground.data }, { on := 1, ground := Go.Ground.guard }], guard := some (1, true) }) (v := ?_) rfl (by kernel_rfl) (by kernel_rfl) (by kernel_rfl) (fun _ _ _ h => h) (Or.inl ⟨by rfl, ?_⟩) (by assumption) ?_
      rotate_left
      · (intro w hSw; (try dsimp only at hSw); go_simp; try with_reducible rfl)
      (try simp only [Act.put, List.setIfInBounds_toArray, List.set_cons_zero, List.set_cons_succ])
      refine wpAnyH_take (i := 8) (oi := { dst := some 88, op := Go.Op.binOp Go.BinOp.eql 4 (Go.Operand.tmp 83) (Go.Operand.tmp 87) 4, type := 4, pos := "law.go:28", after := #[{ on := 3, ground := Go.Ground.data }, { on := 7, ground := Go.Ground.data }, { on := 1, ground := Go.Ground.guard }], guard := some (1, true) }) (v := ?_) rfl (by kernel_rfl) (by kernel_rfl) (by kernel_rfl) (fun _ _ _ h => h) (Or.inl ⟨by rfl, ?_⟩) (by assumption) ?_
      rotate_left
      · (intro w hSw; (try dsimp only at hSw); go_simp; try with_reducible rfl)
      (try simp only [Act.put, List.setIfInBounds_toArray, List.set_cons_zero, List.set_cons_succ])
      refine wpAnyH_take (i := 9) (oi := { dst := some 89, op := Go.Op.pick (Go.Operand.tmp 81) (Go.Operand.tmp 88) (Go.Operand.const (Go.Value.bool false)), type := 4, pos := "law.go:28", after := #[{ on := 1, ground := Go.Ground.data }, { on := 8, ground := Go.Ground.data }], guard := none }) (v := ?_) rfl (by kernel_rfl) (by kernel_rfl) (by kernel_rfl) (fun _ _ _ h => h) (Or.inl ⟨by rfl, ?_⟩) (by assumption) ?_
      rotate_left
      · (intro w hSw; (try dsimp only at hSw); go_simp; try with_reducible rfl)
      (try simp only [Act.put, List.setIfInBounds_toArray, List.set_cons_zero, List.set_cons_succ])
      refine wpAnyH_take (i := 10) (oi := { dst := some 90, op := Go.Op.move (Go.Operand.tmp 89), type := 4, pos := "law.go:28", after := #[{ on := 9, ground := Go.Ground.data }, { on := 1, ground := Go.Ground.chain }], guard := none }) (v := ?_) rfl (by kernel_rfl) (by kernel_rfl) (by kernel_rfl) (fun _ _ _ h => h) (Or.inl ⟨by rfl, ?_⟩) (by assumption) ?_
      rotate_left
      · (intro w hSw; (try dsimp only at hSw); go_simp; try with_reducible rfl)
      (try simp only [Act.put, List.setIfInBounds_toArray, List.set_cons_zero, List.set_cons_succ])
      refine wpAnyH_take (i := 11) (oi := { dst := some 91, op := Go.Op.load 23 (Go.Operand.tmp 5), type := 23, pos := "law.go:28", after := #[{ on := 10, ground := Go.Ground.guard }], guard := some (10, true) }) (v := ?_) rfl (by kernel_rfl) (by kernel_rfl) (by kernel_rfl) (fun _ _ _ h => h) (Or.inl ⟨by rfl, ?_⟩) (by assumption) ?_
      rotate_left
      · (intro w hSw; (try dsimp only at hSw); go_simp; try with_reducible rfl)
      (try simp only [Act.put, List.setIfInBounds_toArray, List.set_cons_zero, List.set_cons_succ])
      refine wpAnyH_take (i := 13) (oi := { dst := some 93, op := Go.Op.move (Go.Operand.tmp 7), type := 26, pos := "law.go:28", after := #[{ on := 10, ground := Go.Ground.guard }], guard := some (10, true) }) (v := ?_) rfl (by kernel_rfl) (by kernel_rfl) (by kernel_rfl) (fun _ _ _ h => h) (Or.inl ⟨by rfl, ?_⟩) (by assumption) ?_
      rotate_left
      · (intro w hSw; (try dsimp only at hSw); go_simp; try with_reducible rfl)
      (try simp only [Act.put, List.setIfInBounds_toArray, List.set_cons_zero, List.set_cons_succ])
      refine wpAnyH_take (i := 14) (oi := { dst := some 94, op := Go.Op.indexAddr 26 (Go.Operand.tmp 93) (Go.Operand.const (Go.Value.int Go.IntKind.i64 1)), type := 0, pos := "law.go:28", after := #[{ on := 13, ground := Go.Ground.data }, { on := 10, ground := Go.Ground.guard }], guard := some (10, true) }) (v := ?_) rfl (by kernel_rfl) (by kernel_rfl) (by kernel_rfl) (fun _ _ _ h => h) (Or.inl ⟨by rfl, ?_⟩) (by assumption) ?_
      rotate_left
      · (intro w hSw; (try dsimp only at hSw); go_simp; try with_reducible rfl)
      (try simp only [Act.put, List.setIfInBounds_toArray, List.set_cons_zero, List.set_cons_succ])
      refine wpAnyH_take (i := 15) (oi := { dst := some 95, op := Go.Op.load 3 (Go.Operand.tmp 94), type := 3, pos := "law.go:28", after := #[{ on := 14, ground := Go.Ground.data }, { on := 10, ground := Go.Ground.guard }], guard := some (10, true) }) (v := ?_) rfl (by kernel_rfl) (by kernel_rfl) (by kernel_rfl) (fun _ _ _ h => h) (Or.inl ⟨by rfl, ?_⟩) (by assumption) ?_
      rotate_left
      · (intro w hSw; (try dsimp only at hSw); go_simp; try with_reducible rfl)
      (try simp only [Act.put, List.setIfInBounds_toArray, List.set_cons_zero, List.set_cons_succ])
      refine wpAnyH_take (i := 16) (oi := { dst := some 96, op := Go.Op.binOp Go.BinOp.eql 3 (Go.Operand.tmp 95) (Go.Operand.const (Go.Value.int Go.IntKind.i64 0)) 3, type := 4, pos := "law.go:28", after := #[{ on := 15, ground := Go.Ground.data }, { on := 10, ground := Go.Ground.guard }], guard := some (10, true) }) (v := ?_) rfl (by kernel_rfl) (by kernel_rfl) (by kernel_rfl) (fun _ _ _ h => h) (Or.inl ⟨by rfl, ?_⟩) (by assumption) ?_
      rotate_left
      · (intro w hSw; (try dsimp only at hSw); go_simp; try with_reducible rfl)
      (try simp only [Act.put, List.setIfInBounds_toArray, List.set_cons_zero, List.set_cons_succ])
      refine wpAnyH_ready (rs := [12]) (by kernel_rfl) (by simp) ?_
      refine AllReadyH.cons (o := { dst := some 92, op := Go.Op.call { callee := Go.Callee.value (Go.Operand.func 9), args := #[Go.Operand.tmp 91], argTypes := #[23] }, type := 4, pos := "law.go:28", after := #[{ on := 11, ground := Go.Ground.data }, { on := 10, ground := Go.Ground.chain }, { on := 10, ground := Go.Ground.guard }], guard := some (10, true) }) rfl (fun K hK => ?_) ?_
      rotate_left
      · exact AllReadyH.nil
      go_simp
      refine (building _ _ _ _ _ _ _ _ _ _ _ _).mono ?_
      rintro e w9 ⟨rfl, b9⟩
      (try go_wp2_with fail)
      refine hK.out _ _ ?_ (fun hHeld9 => ?_)
      · (try dsimp only)
        obtain ⟨q0, q1, q2, q3, q4, q5, q6, q7, q8, q9, q10, q11, q12, q13, tt, ee⟩ := hHeld
        exact ⟨kc b9 q0, kc b9 q1, kc b9 q2, kc b9 q3, kc b9 q4, kc b9 q5, kc b9 q6, kc b9 q7, kc b9 q8, kc b9 q9, kc b9 q10, kc b9 q11, kc b9 q12, kc b9 q13, Tab.ext tt b9, ext_trans ee b9⟩
      clear hK K hHeld
      (try simp only [Act.put, List.setIfInBounds_toArray, List.set_cons_zero, List.set_cons_succ])
      have hHeld := hHeld9; clear hHeld9
      refine wpAnyH_take (i := 17) (oi := { dst := some 97, op := Go.Op.binOp Go.BinOp.eql 4 (Go.Operand.tmp 92) (Go.Operand.tmp 96) 4, type := 4, pos := "law.go:28", after := #[{ on := 12, ground := Go.Ground.data }, { on := 16, ground := Go.Ground.data }, { on := 10, ground := Go.Ground.guard }], guard := some (10, true) }) (v := ?_) rfl (by kernel_rfl) (by kernel_rfl) (by kernel_rfl) (fun _ _ _ h => h) (Or.inl ⟨by rfl, ?_⟩) (by assumption) ?_
      rotate_left
      · (intro w hSw; (try dsimp only at hSw); go_simp; try with_reducible rfl)
      (try simp only [Act.put, List.setIfInBounds_toArray, List.set_cons_zero, List.set_cons_succ])
      refine wpAnyH_take (i := 18) (oi := { dst := some 98, op := Go.Op.pick (Go.Operand.tmp 90) (Go.Operand.tmp 97) (Go.Operand.const (Go.Value.bool false)), type := 4, pos := "law.go:28", after := #[{ on := 10, ground := Go.Ground.data }, { on := 17, ground := Go.Ground.data }], guard := none }) (v := ?_) rfl (by kernel_rfl) (by kernel_rfl) (by kernel_rfl) (fun _ _ _ h => h) (Or.inl ⟨by rfl, ?_⟩) (by assumption) ?_
      rotate_left
      · (intro w hSw; (try dsimp only at hSw); go_simp; try with_reducible rfl)
      (try simp only [Act.put, List.setIfInBounds_toArray, List.set_cons_zero, List.set_cons_succ])
      refine wpAnyH_take (i := 19) (oi := { dst := some 99, op := Go.Op.move (Go.Operand.tmp 98), type := 4, pos := "law.go:28", after := #[{ on := 18, ground := Go.Ground.data }, { on := 12, ground := Go.Ground.chain }], guard := none }) (v := ?_) rfl (by kernel_rfl) (by kernel_rfl) (by kernel_rfl) (fun _ _ _ h => h) (Or.inl ⟨by rfl, ?_⟩) (by assumption) ?_
      rotate_left
      · (intro w hSw; (try dsimp only at hSw); go_simp; try with_reducible rfl)
      (try simp only [Act.put, List.setIfInBounds_toArray, List.set_cons_zero, List.set_cons_succ])
      refine wpAnyH_take (i := 20) (oi := { dst := some 100, op := Go.Op.move (Go.Operand.tmp 1), type := 5, pos := "law.go:28", after := #[{ on := 19, ground := Go.Ground.guard }], guard := some (19, true) }) (v := ?_) rfl (by kernel_rfl) (by kernel_rfl) (by kernel_rfl) (fun _ _ _ h => h) (Or.inl ⟨by rfl, ?_⟩) (by assumption) ?_
      rotate_left
      · (intro w hSw; (try dsimp only at hSw); go_simp; try with_reducible rfl)
      (try simp only [Act.put, List.setIfInBounds_toArray, List.set_cons_zero, List.set_cons_succ])
      refine wpAnyH_take (i := 21) (oi := { dst := some 101, op := Go.Op.move (Go.Operand.tmp 0), type := 5, pos := "law.go:28", after := #[{ on := 19, ground := Go.Ground.guard }], guard := some (19, true) }) (v := ?_) rfl (by kernel_rfl) (by kernel_rfl) (by kernel_rfl) (fun _ _ _ h => h) (Or.inl ⟨by rfl, ?_⟩) (by assumption) ?_
      rotate_left
      · (intro w hSw; (try dsimp only at hSw); go_simp; try with_reducible rfl)
      (try simp only [Act.put, List.setIfInBounds_toArray, List.set_cons_zero, List.set_cons_succ])
      refine wpAnyH_take (i := 23) (oi := { dst := some 103, op := Go.Op.move (Go.Operand.tmp 1), type := 5, pos := "law.go:28", after := #[{ on := 19, ground := Go.Ground.guard }], guard := some (19, true) }) (v := ?_) rfl (by kernel_rfl) (by kernel_rfl) (by kernel_rfl) (fun _ _ _ h => h) (Or.inl ⟨by rfl, ?_⟩) (by assumption) ?_
      rotate_left
      · (intro w hSw; (try dsimp only at hSw); go_simp; try with_reducible rfl)
      (try simp only [Act.put, List.setIfInBounds_toArray, List.set_cons_zero, List.set_cons_succ])
      refine wpAnyH_take (i := 24) (oi := { dst := some 104, op := Go.Op.binOp Go.BinOp.gtr 5 (Go.Operand.tmp 103) (Go.Operand.const (Go.Value.int Go.IntKind.u8 0)) 5, type := 4, pos := "law.go:28", after := #[{ on := 23, ground := Go.Ground.data }, { on := 19, ground := Go.Ground.guard }], guard := some (19, true) }) (v := ?_) rfl (by kernel_rfl) (by kernel_rfl) (by kernel_rfl) (fun _ _ _ h => h) (Or.inl ⟨by rfl, ?_⟩) (by assumption) ?_
      rotate_left
      · (intro w hSw; (try dsimp only at hSw); go_simp; try with_reducible rfl)
      (try simp only [Act.put, List.setIfInBounds_toArray, List.set_cons_zero, List.set_cons_succ])
      refine wpAnyH_ready (rs := [22]) (by kernel_rfl) (by simp) ?_
      refine AllReadyH.cons (o := { dst := some 102, op := Go.Op.call { callee := Go.Callee.value (Go.Operand.func 7), args := #[Go.Operand.tmp 100, Go.Operand.tmp 101], argTypes := #[5, 5] }, type := 4, pos := "law.go:28", after := #[{ on := 20, ground := Go.Ground.data }, { on := 21, ground := Go.Ground.data }, { on := 19, ground := Go.Ground.chain }, { on := 19, ground := Go.Ground.guard }], guard := some (19, true) }) rfl (fun K hK => ?_) ?_
      rotate_left
      · exact AllReadyH.nil
      go_simp
      refine (HC.out _ ?_).mono ?_
      · (go_split_ands; assumption)
      rintro e w9 ⟨rfl, b9⟩
      (try go_wp2_with fail)
      refine hK.out _ _ ?_ (fun hHeld9 => ?_)
      · (try dsimp only)
        obtain ⟨q0, q1, q2, q3, q4, q5, q6, q7, q8, q9, q10, q11, q12, q13, tt, ee⟩ := hHeld
        exact ⟨kc b9 q0, kc b9 q1, kc b9 q2, kc b9 q3, kc b9 q4, kc b9 q5, kc b9 q6, kc b9 q7, kc b9 q8, kc b9 q9, kc b9 q10, kc b9 q11, kc b9 q12, kc b9 q13, Tab.ext tt b9, ext_trans ee b9⟩
      clear hK K hHeld
      (try simp only [Act.put, List.setIfInBounds_toArray, List.set_cons_zero, List.set_cons_succ])
      have hHeld := hHeld9; clear hHeld9
      refine wpAnyH_take (i := 25) (oi := { dst := some 105, op := Go.Op.move (Go.Operand.tmp 104), type := 4, pos := "law.go:28", after := #[{ on := 24, ground := Go.Ground.data }, { on := 22, ground := Go.Ground.chain }, { on := 19, ground := Go.Ground.guard }], guard := some (19, true) }) (v := ?_) rfl (by kernel_rfl) (by kernel_rfl) (by kernel_rfl) (fun _ _ _ h => h) (Or.inl ⟨by rfl, ?_⟩) (by assumption) ?_
      rotate_left
      · (intro w hSw; (try dsimp only at hSw); go_simp; try with_reducible rfl)
      (try simp only [Act.put, List.setIfInBounds_toArray, List.set_cons_zero, List.set_cons_succ])
      refine wpAnyH_take (i := 26) (oi := { dst := some 106, op := Go.Op.move (Go.Operand.tmp 1), type := 5, pos := "law.go:28", after := #[{ on := 25, ground := Go.Ground.guard }], guard := some (25, true) }) (v := undef) rfl (by kernel_rfl) (by kernel_rfl) (by kernel_rfl) (fun _ _ _ h => h) (Or.inr ⟨by rfl, rfl⟩) (by assumption) ?_
      (try simp only [Act.put, List.setIfInBounds_toArray, List.set_cons_zero, List.set_cons_succ])
      refine wpAnyH_take (i := 27) (oi := { dst := some 107, op := Go.Op.convert 5 3 (Go.Operand.tmp 106), type := 3, pos := "law.go:28", after := #[{ on := 26, ground := Go.Ground.data }, { on := 25, ground := Go.Ground.guard }], guard := some (25, true) }) (v := undef) rfl (by kernel_rfl) (by kernel_rfl) (by kernel_rfl) (fun _ _ _ h => h) (Or.inr ⟨by rfl, rfl⟩) (by assumption) ?_
      (try simp only [Act.put, List.setIfInBounds_toArray, List.set_cons_zero, List.set_cons_succ])
      refine wpAnyH_take (i := 28) (oi := { dst := some 108, op := Go.Op.move (Go.Operand.tmp 7), type := 26, pos := "law.go:28", after := #[{ on := 25, ground := Go.Ground.guard }], guard := some (25, true) }) (v := undef) rfl (by kernel_rfl) (by kernel_rfl) (by kernel_rfl) (fun _ _ _ h => h) (Or.inr ⟨by rfl, rfl⟩) (by assumption) ?_
      (try simp only [Act.put, List.setIfInBounds_toArray, List.set_cons_zero, List.set_cons_succ])
      refine wpAnyH_take (i := 29) (oi := { dst := some 109, op := Go.Op.indexAddr 26 (Go.Operand.tmp 108) (Go.Operand.const (Go.Value.int Go.IntKind.i64 9)), type := 0, pos := "law.go:28", after := #[{ on := 28, ground := Go.Ground.data }, { on := 25, ground := Go.Ground.guard }], guard := some (25, true) }) (v := undef) rfl (by kernel_rfl) (by kernel_rfl) (by kernel_rfl) (fun _ _ _ h => h) (Or.inr ⟨by rfl, rfl⟩) (by assumption) ?_
      (try simp only [Act.put, List.setIfInBounds_toArray, List.set_cons_zero, List.set_cons_succ])
      refine wpAnyH_take (i := 30) (oi := { dst := some 110, op := Go.Op.load 3 (Go.Operand.tmp 109), type := 3, pos := "law.go:28", after := #[{ on := 29, ground := Go.Ground.data }, { on := 25, ground := Go.Ground.guard }], guard := some (25, true) }) (v := undef) rfl (by kernel_rfl) (by kernel_rfl) (by kernel_rfl) (fun _ _ _ h => h) (Or.inr ⟨by rfl, rfl⟩) (by assumption) ?_
      (try simp only [Act.put, List.setIfInBounds_toArray, List.set_cons_zero, List.set_cons_succ])
      refine wpAnyH_take (i := 31) (oi := { dst := some 111, op := Go.Op.binOp Go.BinOp.eql 3 (Go.Operand.tmp 107) (Go.Operand.tmp 110) 3, type := 4, pos := "law.go:28", after := #[{ on := 27, ground := Go.Ground.data }, { on := 30, ground := Go.Ground.data }, { on := 25, ground := Go.Ground.guard }], guard := some (25, true) }) (v := undef) rfl (by kernel_rfl) (by kernel_rfl) (by kernel_rfl) (fun _ _ _ h => h) (Or.inr ⟨by rfl, rfl⟩) (by assumption) ?_
      (try simp only [Act.put, List.setIfInBounds_toArray, List.set_cons_zero, List.set_cons_succ])
      refine wpAnyH_take (i := 32) (oi := { dst := some 112, op := Go.Op.pick (Go.Operand.tmp 105) (Go.Operand.tmp 111) (Go.Operand.const (Go.Value.bool false)), type := 4, pos := "law.go:28", after := #[{ on := 25, ground := Go.Ground.data }, { on := 31, ground := Go.Ground.data }, { on := 19, ground := Go.Ground.guard }], guard := some (19, true) }) (v := ?_) rfl (by kernel_rfl) (by kernel_rfl) (by kernel_rfl) (fun _ _ _ h => h) (Or.inl ⟨by rfl, ?_⟩) (by assumption) ?_
      rotate_left
      · (intro w hSw; (try dsimp only at hSw); go_simp; try with_reducible rfl)
      (try simp only [Act.put, List.setIfInBounds_toArray, List.set_cons_zero, List.set_cons_succ])
      refine wpAnyH_take (i := 33) (oi := { dst := some 113, op := Go.Op.binOp Go.BinOp.eql 4 (Go.Operand.tmp 102) (Go.Operand.tmp 112) 4, type := 4, pos := "law.go:28", after := #[{ on := 22, ground := Go.Ground.data }, { on := 32, ground := Go.Ground.data }, { on := 19, ground := Go.Ground.guard }], guard := some (19, true) }) (v := ?_) rfl (by kernel_rfl) (by kernel_rfl) (by kernel_rfl) (fun _ _ _ h => h) (Or.inl ⟨by rfl, ?_⟩) (by assumption) ?_
      rotate_left
      · (intro w hSw; (try dsimp only at hSw); go_simp; try with_reducible rfl)
      (try simp only [Act.put, List.setIfInBounds_toArray, List.set_cons_zero, List.set_cons_succ])
      refine wpAnyH_take (i := 34) (oi := { dst := some 114, op := Go.Op.pick (Go.Operand.tmp 99) (Go.Operand.tmp 113) (Go.Operand.const (Go.Value.bool false)), type := 4, pos := "law.go:28", after := #[{ on := 19, ground := Go.Ground.data }, { on := 33, ground := Go.Ground.data }], guard := none }) (v := ?_) rfl (by kernel_rfl) (by kernel_rfl) (by kernel_rfl) (fun _ _ _ h => h) (Or.inl ⟨by rfl, ?_⟩) (by assumption) ?_
      rotate_left
      · (intro w hSw; (try dsimp only at hSw); go_simp; try with_reducible rfl)
      (try simp only [Act.put, List.setIfInBounds_toArray, List.set_cons_zero, List.set_cons_succ])
      refine wpAnyH_take (i := 35) (oi := { dst := some 115, op := Go.Op.move (Go.Operand.tmp 114), type := 4, pos := "law.go:28", after := #[{ on := 34, ground := Go.Ground.data }, { on := 25, ground := Go.Ground.chain }], guard := none }) (v := ?_) rfl (by kernel_rfl) (by kernel_rfl) (by kernel_rfl) (fun _ _ _ h => h) (Or.inl ⟨by rfl, ?_⟩) (by assumption) ?_
      rotate_left
      · (intro w hSw; (try dsimp only at hSw); go_simp; try with_reducible rfl)
      (try simp only [Act.put, List.setIfInBounds_toArray, List.set_cons_zero, List.set_cons_succ])
      refine wpAnyH_ready (rs := [36]) (by kernel_rfl) (by simp) ?_
      refine AllReadyH.cons (o := { dst := some 116, op := Go.Op.call { callee := Go.Callee.value (Go.Operand.func 8), args := #[], argTypes := #[] }, type := 4, pos := "law.go:28", after := #[{ on := 35, ground := Go.Ground.chain }, { on := 35, ground := Go.Ground.guard }], guard := some (35, true) }) rfl (fun K hK => ?_) ?_
      rotate_left
      · exact AllReadyH.nil
      go_simp
      refine (wakes _ ?_).mono ?_
      · (go_split_ands; assumption)
      rintro e w9 ⟨rfl, b9⟩
      (try go_wp2_with fail)
      refine hK.out _ _ ?_ (fun hHeld9 => ?_)
      · (try dsimp only)
        obtain ⟨q0, q1, q2, q3, q4, q5, q6, q7, q8, q9, q10, q11, q12, q13, tt, ee⟩ := hHeld
        exact ⟨kc b9 q0, kc b9 q1, kc b9 q2, kc b9 q3, kc b9 q4, kc b9 q5, kc b9 q6, kc b9 q7, kc b9 q8, kc b9 q9, kc b9 q10, kc b9 q11, kc b9 q12, kc b9 q13, Tab.ext tt b9, ext_trans ee b9⟩
      clear hK K hHeld
      (try simp only [Act.put, List.setIfInBounds_toArray, List.set_cons_zero, List.set_cons_succ])
      have hHeld := hHeld9; clear hHeld9
      refine wpAnyH_take (i := 37) (oi := { dst := some 117, op := Go.Op.pick (Go.Operand.tmp 115) (Go.Operand.tmp 116) (Go.Operand.const (Go.Value.bool false)), type := 4, pos := "law.go:28", after := #[{ on := 35, ground := Go.Ground.data }, { on := 36, ground := Go.Ground.data }], guard := none }) (v := ?_) rfl (by kernel_rfl) (by kernel_rfl) (by kernel_rfl) (fun _ _ _ h => h) (Or.inl ⟨by rfl, ?_⟩) (by assumption) ?_
      rotate_left
      · (intro w hSw; (try dsimp only at hSw); go_simp; try with_reducible rfl)
      (try simp only [Act.put, List.setIfInBounds_toArray, List.set_cons_zero, List.set_cons_succ])
      refine wpAnyH_take (i := 38) (oi := { dst := some 4, op := Go.Op.assign (Go.Operand.tmp 117), type := 4, pos := "law.go:28", after := #[{ on := 37, ground := Go.Ground.data }, { on := 36, ground := Go.Ground.chain }, { on := 0, ground := Go.Ground.phase }, { on := 1, ground := Go.Ground.phase }, { on := 2, ground := Go.Ground.phase }, { on := 3, ground := Go.Ground.phase }, { on := 4, ground := Go.Ground.phase }, { on := 5, ground := Go.Ground.phase }, { on := 6, ground := Go.Ground.phase }, { on := 7, ground := Go.Ground.phase }, { on := 8, ground := Go.Ground.phase }, { on := 9, ground := Go.Ground.phase }, { on := 10, ground := Go.Ground.phase }, { on := 11, ground := Go.Ground.phase }, { on := 12, ground := Go.Ground.phase }, { on := 13, ground := Go.Ground.phase }, { on := 14, ground := Go.Ground.phase }, { on := 15, ground := Go.Ground.phase }, { on := 16, ground := Go.Ground.phase }, { on := 17, ground := Go.Ground.phase }, { on := 18, ground := Go.Ground.phase }, { on := 19, ground := Go.Ground.phase }, { on := 20, ground := Go.Ground.phase }, { on := 21, ground := Go.Ground.phase }, { on := 22, ground := Go.Ground.phase }, { on := 23, ground := Go.Ground.phase }, { on := 24, ground := Go.Ground.phase }, { on := 25, ground := Go.Ground.phase }, { on := 26, ground := Go.Ground.phase }, { on := 27, ground := Go.Ground.phase }, { on := 28, ground := Go.Ground.phase }, { on := 29, ground := Go.Ground.phase }, { on := 30, ground := Go.Ground.phase }, { on := 31, ground := Go.Ground.phase }, { on := 32, ground := Go.Ground.phase }, { on := 33, ground := Go.Ground.phase }, { on := 34, ground := Go.Ground.phase }, { on := 35, ground := Go.Ground.phase }, { on := 36, ground := Go.Ground.phase }, { on := 37, ground := Go.Ground.phase }], guard := none }) (v := ?_) rfl (by kernel_rfl) (by kernel_rfl) (by kernel_rfl) (fun _ _ _ h => h) (Or.inl ⟨by rfl, ?_⟩) (by assumption) ?_
      rotate_left
      · (intro w hSw; (try dsimp only at hSw); go_simp; try with_reducible rfl)
      (try simp only [Act.put, List.setIfInBounds_toArray, List.set_cons_zero, List.set_cons_succ])
      refine wpAnyH_done (by kernel_rfl) ?_ _
      go_wp2_with fail
      go_ret
      refine ⟨rfl, ?_⟩
      go_split_ands
      assumption
set_option maxHeartbeats 4000000 in
set_option maxRecDepth 100000 in
theorem tell_3_5 (w : World) (h : Tab w) : Calls Tryd.prog 3 #[.int .u8 3, .int .u8 5] w fun e w' => e = .returned (.bool true) ∧ Ext w w' := by
  have H := Lib.hid h; clear h
  have HC := Lib.hid (fun W' hW' => makes 5 3 (by omega) (by omega) W' hW')
  rw [show makesB 5 3 = true from by decide] at HC
  go_enter Tryd.func3, Tryd.ntmps3
  go_wp2_with fail
  refine (of_3 _ H.out).mono ?_
  rintro e w1 ⟨rfl, b1⟩
  go_wp2_with fail
  refine (row_3 _).mono ?_
  rintro e w2 ⟨rfl, rfl⟩
  go_wp2_with fail
  obtain ⟨W, hW⟩ : ∃ W, W = ((w1.alloc (.cells #[.int .i64 20, .int .i64 2, .int .i64 1, .int .i64 4, .int .i64 4, .int .i64 20, .int .i64 8, .int .i64 4, .int .i64 0, .int .u8 5, .bool false] 23)).alloc (.cells #[.int .i64 20, .int .i64 2, .int .i64 1, .int .i64 4, .int .i64 4, .int .i64 20, .int .i64 8, .int .i64 4, .int .i64 0, .int .i64 5, .int .i64 0] 3)).alloc (.cells #[.int .i64 20, .int .i64 2, .int .i64 1, .int .i64 4, .int .i64 4, .int .i64 20, .int .i64 8, .int .i64 4, .int .i64 0, .int .i64 5] 3) := ⟨_, rfl⟩
  rw [← hW]
  have HW := Lib.hid hW; clear hW
  go_loopw [9] (fun i wr => ∃ (k d : Nat), k ≤ 10 ∧ i = .int .i64 (k : Int) ∧ wr = W.drewN d) (fun i _ => 10 - (intOf i).toNat)
  case atStart => exact ⟨0, 0, by omega, rfl, rfl⟩
  case round =>
    obtain ⟨k, d, hk, rfl, rfl⟩ := hrel
    by_cases hlt : k < 10
    · have c1 : W.cell? ⟨w1.heap.size + 1, k, none⟩ = some (.int .i64 (got_3 k)) := by
        rw [HW.out, World.cell?_alloc_lt _ _ _ (by simp)]
        have := row_cell_3 (w1.alloc (.cells #[.int .i64 20, .int .i64 2, .int .i64 1, .int .i64 4, .int .i64 4, .int .i64 20, .int .i64 8, .int .i64 4, .int .i64 0, .int .u8 5, .bool false] 23)) k hlt
        rwa [World.size_alloc] at this
      have c2 : W.cell? ⟨w1.heap.size + 1 + 1, k, none⟩ = some (.int .i64 (got_3 k)) := by
        rw [HW.out]
        have := got_cell_3 ((w1.alloc (.cells #[.int .i64 20, .int .i64 2, .int .i64 1, .int .i64 4, .int .i64 4, .int .i64 20, .int .i64 8, .int .i64 4, .int .i64 0, .int .u8 5, .bool false] 23)).alloc (.cells #[.int .i64 20, .int .i64 2, .int .i64 1, .int .i64 4, .int .i64 4, .int .i64 20, .int .i64 8, .int .i64 4, .int .i64 0, .int .i64 5, .int .i64 0] 3)) k hlt
        rwa [World.size_alloc, World.size_alloc] at this
      have k0 : (0 : Int) ≤ (k : Int) := by omega
      have k1 : (k : Int) < 10 := by omega
      have k2 : (k : Int) < 11 := by omega
      go_wp2_with fail
      go_quiet (fail)
      go_wp2_with fail
      go_roundw
      case rel => exact ⟨k + 1, _, by omega, by go_num, rfl⟩
      case measure => simp [intOf]; omega
    · obtain rfl : k = 10 := by omega
      have x0 : (W.drewN d).cell? ⟨w1.heap.size, 0, none⟩ = some (.int .i64 20) := by rw [HW.out]; go_simp
      have x1 : (W.drewN d).cell? ⟨w1.heap.size, 1, none⟩ = some (.int .i64 2) := by rw [HW.out]; go_simp
      have x2 : (W.drewN d).cell? ⟨w1.heap.size, 2, none⟩ = some (.int .i64 1) := by rw [HW.out]; go_simp
      have x3 : (W.drewN d).cell? ⟨w1.heap.size, 3, none⟩ = some (.int .i64 4) := by rw [HW.out]; go_simp
      have x4 : (W.drewN d).cell? ⟨w1.heap.size, 4, none⟩ = some (.int .i64 4) := by rw [HW.out]; go_simp
      have x5 : (W.drewN d).cell? ⟨w1.heap.size, 5, none⟩ = some (.int .i64 20) := by rw [HW.out]; go_simp
      have x6 : (W.drewN d).cell? ⟨w1.heap.size, 6, none⟩ = some (.int .i64 8) := by rw [HW.out]; go_simp
      have x7 : (W.drewN d).cell? ⟨w1.heap.size, 7, none⟩ = some (.int .i64 4) := by rw [HW.out]; go_simp
      have x8 : (W.drewN d).cell? ⟨w1.heap.size, 8, none⟩ = some (.int .i64 0) := by rw [HW.out]; go_simp
      have x9 : (W.drewN d).cell? ⟨w1.heap.size, 9, none⟩ = some (.int .u8 5) := by rw [HW.out]; go_simp
      have x10 : (W.drewN d).cell? ⟨w1.heap.size, 10, none⟩ = some (.bool false) := by rw [HW.out]; go_simp
      have x11 : (W.drewN d).cell? ⟨w1.heap.size + 1, 1, none⟩ = some (.int .i64 2) := by rw [HW.out]; go_simp
      have x12 : (W.drewN d).cell? ⟨w1.heap.size + 1, 9, none⟩ = some (.int .i64 5) := by rw [HW.out]; go_simp
      have x13 : (W.drewN d).cell? ⟨w1.heap.size + 1, 10, none⟩ = some (.int .i64 0) := by rw [HW.out]; go_simp
      have TR : Tab (W.drewN d) := by rw [HW.out]; exact (H.out.ext b1).ext (ext_drewN (ext_alloc (ext_alloc (ext_alloc (Ext.rfl' _) _) _) _) _)
      have EX : Ext w (W.drewN d).drew := by rw [HW.out]; exact ext_drew (ext_drewN (ext_alloc (ext_alloc (ext_alloc b1 _) _) _) _)
      generalize W.drewN d = wr at *
      go_wp2_with fail
      go_region_held3 (fun w' => w'.cell? ⟨w1.heap.size, 0, none⟩ = some (.int .i64 20) ∧ w'.cell? ⟨w1.heap.size, 1, none⟩ = some (.int .i64 2) ∧ w'.cell? ⟨w1.heap.size, 2, none⟩ = some (.int .i64 1) ∧ w'.cell? ⟨w1.heap.size, 3, none⟩ = some (.int .i64 4) ∧ w'.cell? ⟨w1.heap.size, 4, none⟩ = some (.int .i64 4) ∧ w'.cell? ⟨w1.heap.size, 5, none⟩ = some (.int .i64 20) ∧ w'.cell? ⟨w1.heap.size, 6, none⟩ = some (.int .i64 8) ∧ w'.cell? ⟨w1.heap.size, 7, none⟩ = some (.int .i64 4) ∧ w'.cell? ⟨w1.heap.size, 8, none⟩ = some (.int .i64 0) ∧ w'.cell? ⟨w1.heap.size, 9, none⟩ = some (.int .u8 5) ∧ w'.cell? ⟨w1.heap.size, 10, none⟩ = some (.bool false) ∧ w'.cell? ⟨w1.heap.size + 1, 1, none⟩ = some (.int .i64 2) ∧ w'.cell? ⟨w1.heap.size + 1, 9, none⟩ = some (.int .i64 5) ∧ w'.cell? ⟨w1.heap.size + 1, 10, none⟩ = some (.int .i64 0) ∧ Tab w' ∧ Ext w w')
        (first | exact ⟨x0, x1, x2, x3, x4, x5, x6, x7, x8, x9, x10, x11, x12, x13, TR, EX⟩ | (go_split_ands; refine ⟨?_, ?_, ?_, ?_, ?_, ?_, ?_, ?_, ?_, ?_, ?_, ?_, ?_, ?_, ?_, ?_⟩ <;> first | exact kc b9 (by assumption) | exact Tab.ext (by assumption) b9 | exact ext_trans (by assumption) b9))
        (first | (go_at_call 9; refine (building _ _ _ _ _ _ _ _ _ _ _ _).mono ?_; rintro e w9 ⟨rfl, b9⟩) | (go_at_call 7; refine (HC.out _ ?_).mono ?_; (go_split_ands; assumption); rintro e w9 ⟨rfl, b9⟩) | (go_at_call 8; refine (wakes _ ?_).mono ?_; (go_split_ands; assumption); rintro e w9 ⟨rfl, b9⟩))
      go_wp2_with fail
      go_ret
      refine ⟨rfl, ?_⟩
      go_split_ands
      assumption
end Go.Proofs.YtdbjknljdplinaaDoor.Rul
