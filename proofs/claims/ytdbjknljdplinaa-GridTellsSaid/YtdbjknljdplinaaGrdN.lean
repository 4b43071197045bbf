/- GridTells: a tile that is not on the map. -/
import Derived.Test.YtdbjknljdplinaaGrdL
namespace Go.Proofs.Ytdbjknljdplinaa.Grid
open Go.ChangeShapes Go.WideShapes Go.ChangeAt Go.RowKit Go.Shelf
set_option linter.unusedVariables false

set_option maxHeartbeats 16000000 in
set_option maxRecDepth 100000 in
theorem tells_off (W H P : Nat) (x u f : Int) (T : ByteArray) (w : World) (hW : 4 ≤ W) (hW2 : W ≤ 64) (hH : 4 ≤ H) (hH2 : H ≤ 64) (hP : P = W * H) (hT : T.size = P) (hall : ∀ i, (hi : i < T.size) → T[i].toNat ≤ 2) (hx : x < 0 ∨ (P : Int) ≤ x) :
    Calls Try.prog 8 #[.int .i64 (W : Int), .int .i64 (H : Int), .string T, .int .i64 x, .int .i64 u, .int .i64 f] w fun e w' => e = .returned (.bool true) ∧ Ext w w' := by
  have hP2 : P ≤ 4096 := by rw [hP]; exact Nat.mul_le_mul hW2 hH2
  have hok : okm (W : Int) (H : Int) T := ⟨by omega, by omega, by omega, by omega, by rw [hT, hP]; exact Int.natCast_mul W H, hall⟩
  have HNEW : Hid (∀ w, Calls Try.prog 32 #[.int .i64 (W : Int), .int .i64 (H : Int), .string T] w fun e w' => e = .returned (.tuple #[.agg #[.int .i64 (W : Int), .int .i64 (H : Int), .string T], .int .i64 0]) ∧ Ext w w') := Lib.hid (fun w => (new_any (W : Int) (H : Int) T w (by omega) (by omega) (by omega) (by omega) (by omega)).mono (fun e w' h => ⟨by rw [h.1]; unfold newR; rw [if_pos hok]; rfl, h.2⟩))
  have HMAY : Hid (∀ w, Calls Try.prog 33 #[.int .i64 (W : Int), .int .i64 (H : Int), .string T] w fun e w' => e = .returned (.bool true) ∧ w = w') := Lib.hid (fun w => (may_any (W : Int) (H : Int) T w (by omega) (by omega) (by omega) (by omega) (by omega)).mono (fun e w' h => ⟨by rw [h.1, decide_eq_true hok], h.2⟩))
  have HLEN : Hid (∀ w, Calls Try.prog 34 #[.agg #[.int .i64 (W : Int), .int .i64 (H : Int), .string T]] w fun e w' => e = .returned (.int .i64 (P : Int)) ∧ Ext w w') := Lib.hid (fun w => by have h := len_map W H T w (by omega); rwa [hT] at h)
  have hxT : x < 0 ∨ (T.size : Int) ≤ x := by omega
  have HIS := Lib.hid (fun w => is_no W H x T w hW (by omega) hxT)
  have HRIS := Lib.hid (fun w => ris_no W H P x T w hP (by omega) hx)
  have HWALK := Lib.hid (fun w => walk_no W H x T w hW (by omega) hxT)
  have HON := Lib.hid (fun w => on_no W H x T w hW (by omega) hxT)
  have HRON := Lib.hid (fun w => ron_no W H P x T w hP (by omega) hx)
  have HSIZE := Lib.hid (fun w => size_map W H T w)
  have HXY := Lib.hid (fun w => xy_no W H x T w hW (by omega) hxT)
  have HNEXT := Lib.hid (fun w => next_no W H x T w hW (by omega) hxT)
  have HARD := Lib.hid (fun w => around_no W H x f T w hW (by omega) hxT)
  have HFAR := Lib.hid (fun w => far_no W H x u T w hW (by omega) (.inl hxT))
  have HRFAR := Lib.hid (fun w => rfar_no W H P x u T w hP (by omega) (.inl hx))
  clear hx hxT
  have hP1 : (W : Int) * (H : Int) = (P : Int) := by rw [hP]; exact (Int.natCast_mul W H).symm
  have hPw : IntKind.i64.wrap (P : Int) = (P : Int) := by rw [IntKind.wrap_i64]; omega
  have hTs : ¬ (5000 : Int) < (T.size : Int) := by omega
  have HPW := Lib.hid (And.intro hP1 hPw)
  clear hok hall hP1 hPw
  have HTS := Lib.hid (And.intro hT hP)
  clear hT hP
  go_enter Try.func8, Try.ntmps8
  go_wp2_with fail
  refine (HNEW.out _).mono ?_
  rintro e w1 ⟨rfl, b1⟩
  have HE1 := Lib.hid b1
  clear b1
  go_wp2_with fail
  refine (HMAY.out _).mono ?_
  rintro e w2 ⟨rfl, rfl⟩
  go_wp2_with fail
  have KM1 := Lib.hid (Blk.new w1 52 #[.int .i64 (W : Int), .int .i64 (H : Int), .string T])
  obtain ⟨w2, hw2⟩ : ∃ W2, W2 = (w1.alloc (.cells #[.int .i64 (W : Int), .int .i64 (H : Int), .string T] 52)).alloc (.cells #[.int .i64 (W : Int), .int .i64 (H : Int), .string T] 60) := ⟨_, rfl⟩
  have KR2 := Lib.hid (Blk.new1 w1 (.cells #[.int .i64 (W : Int), .int .i64 (H : Int), .string T] 52) 60 #[.int .i64 (W : Int), .int .i64 (H : Int), .string T])
  have KM2 := Lib.hid (KM1.out.alloc (.cells #[.int .i64 (W : Int), .int .i64 (H : Int), .string T] 60))
  have HE2 := Lib.hid (ext_alloc (ext_alloc HE1.out (.cells #[.int .i64 (W : Int), .int .i64 (H : Int), .string T] 52)) (.cells #[.int .i64 (W : Int), .int .i64 (H : Int), .string T] 60))
  rw [← hw2] at KR2 KM2 HE2 ⊢
  clear hw2 KM1
  obtain ⟨m0, m1, m2⟩ := map_cells KM2.out
  refine (HSIZE.out _).mono ?_
  rintro e w3 ⟨rfl, b3⟩
  have KM3 := Lib.hid (KM2.out.ext b3); have KR3 := Lib.hid (KR2.out.ext b3); have HE3 := Lib.hid (ext_trans HE2.out b3)
  clear b3 m0 m1 m2
  obtain ⟨m0, m1, m2⟩ := map_cells KM3.out
  go_wp2_with fail
  refine (HXY.out _).mono ?_
  rintro e w5 ⟨rfl, b5⟩
  have KM := Lib.hid (KM3.out.ext b5); have KR := Lib.hid (KR3.out.ext b5); have HE := Lib.hid (ext_trans HE3.out b5)
  clear b5 m0 m1 m2
  go_wp2_with fail
  have HX0 := Lib.hid (show SE w5 w5.drew from ext_drew (Ext.rfl' w5))
  go_cut [130] (fun v wx => v = .bool false ∧ SE w5 wx)
  case first =>
    obtain ⟨hP1, hPw⟩ := HPW.out
    refine wp_region_held_drew (S := SE w5) hmx HX0.out (fun _ => ?_)
    (refine wpAnyH_take (i := 0) (oi := { dst := some 72, op := Go.Op.move (Go.Operand.tmp 14), type := 53, pos := "law.go:43", after := #[], guard := none }) (v := ?_) rfl (by kernel_rfl) (by kernel_rfl) (by kernel_rfl) (fun _ _ _ h => h) (Or.inl ⟨by rfl, ?_⟩) HX0.out ?_); rotate_left
    · (intro w' hSw; obtain ⟨m0, m1, m2⟩ := map_cells (KM.out.ext hSw); obtain ⟨r0, r1, r2⟩ := map_cells (KR.out.ext hSw); go_simp; try with_reducible rfl)
    (try simp only [Act.put, List.setIfInBounds_toArray, List.set_cons_zero, List.set_cons_succ])
    (refine wpAnyH_take (i := 1) (oi := { dst := some 73, op := Go.Op.binOp Go.BinOp.neq 53 (Go.Operand.tmp 72) (Go.Operand.const (Go.Value.int Go.IntKind.i64 0)) 53, type := 4, pos := "law.go:43", after := #[{ on := 0, ground := Go.Ground.data }], guard := none }) (v := ?_) rfl (by kernel_rfl) (by kernel_rfl) (by kernel_rfl) (fun _ _ _ h => h) (Or.inl ⟨by rfl, ?_⟩) HX0.out ?_); rotate_left
    · (intro w' hSw; obtain ⟨m0, m1, m2⟩ := map_cells (KM.out.ext hSw); obtain ⟨r0, r1, r2⟩ := map_cells (KR.out.ext hSw); go_simp; try with_reducible rfl)
    (try simp only [Act.put, List.setIfInBounds_toArray, List.set_cons_zero, List.set_cons_succ])
    (refine wpAnyH_take (i := 2) (oi := { dst := some 74, op := Go.Op.move (Go.Operand.tmp 73), type := 4, pos := "law.go:43", after := #[{ on := 1, ground := Go.Ground.data }], guard := none }) (v := ?_) rfl (by kernel_rfl) (by kernel_rfl) (by kernel_rfl) (fun _ _ _ h => h) (Or.inl ⟨by rfl, ?_⟩) HX0.out ?_); rotate_left
    · (intro w' hSw; obtain ⟨m0, m1, m2⟩ := map_cells (KM.out.ext hSw); obtain ⟨r0, r1, r2⟩ := map_cells (KR.out.ext hSw); go_simp; try with_reducible rfl)
    (try simp only [Act.put, List.setIfInBounds_toArray, List.set_cons_zero, List.set_cons_succ])
    (refine wpAnyH_take (i := 3) (oi := { dst := some 75, op := Go.Op.move (Go.Operand.tmp 16), type := 3, pos := "law.go:43", after := #[{ on := 2, ground := Go.Ground.guard }], guard := some (2, false) }) (v := ?_) rfl (by kernel_rfl) (by kernel_rfl) (by kernel_rfl) (fun _ _ _ h => h) (Or.inl ⟨by rfl, ?_⟩) HX0.out ?_); rotate_left
    · (intro w' hSw; obtain ⟨m0, m1, m2⟩ := map_cells (KM.out.ext hSw); obtain ⟨r0, r1, r2⟩ := map_cells (KR.out.ext hSw); go_simp; try with_reducible rfl)
    (try simp only [Act.put, List.setIfInBounds_toArray, List.set_cons_zero, List.set_cons_succ])
    (refine wpAnyH_take (i := 4) (oi := { dst := some 76, op := Go.Op.move (Go.Operand.tmp 0), type := 3, pos := "law.go:43", after := #[{ on := 2, ground := Go.Ground.guard }], guard := some (2, false) }) (v := ?_) rfl (by kernel_rfl) (by kernel_rfl) (by kernel_rfl) (fun _ _ _ h => h) (Or.inl ⟨by rfl, ?_⟩) HX0.out ?_); rotate_left
    · (intro w' hSw; obtain ⟨m0, m1, m2⟩ := map_cells (KM.out.ext hSw); obtain ⟨r0, r1, r2⟩ := map_cells (KR.out.ext hSw); go_simp; try with_reducible rfl)
    (try simp only [Act.put, List.setIfInBounds_toArray, List.set_cons_zero, List.set_cons_succ])
    (refine wpAnyH_take (i := 5) (oi := { dst := some 77, op := Go.Op.binOp Go.BinOp.neq 3 (Go.Operand.tmp 75) (Go.Operand.tmp 76) 3, type := 4, pos := "law.go:43", after := #[{ on := 3, ground := Go.Ground.data }, { on := 4, ground := Go.Ground.data }, { on := 2, ground := Go.Ground.guard }], guard := some (2, false) }) (v := ?_) rfl (by kernel_rfl) (by kernel_rfl) (by kernel_rfl) (fun _ _ _ h => h) (Or.inl ⟨by rfl, ?_⟩) HX0.out ?_); rotate_left
    · (intro w' hSw; obtain ⟨m0, m1, m2⟩ := map_cells (KM.out.ext hSw); obtain ⟨r0, r1, r2⟩ := map_cells (KR.out.ext hSw); go_simp; try with_reducible rfl)
    (try simp only [Act.put, List.setIfInBounds_toArray, List.set_cons_zero, List.set_cons_succ])
    (refine wpAnyH_take (i := 6) (oi := { dst := some 78, op := Go.Op.pick (Go.Operand.tmp 74) (Go.Operand.const (Go.Value.bool true)) (Go.Operand.tmp 77), type := 4, pos := "law.go:43", after := #[{ on := 2, ground := Go.Ground.data }, { on := 5, ground := Go.Ground.data }], guard := none }) (v := ?_) rfl (by kernel_rfl) (by kernel_rfl) (by kernel_rfl) (fun _ _ _ h => h) (Or.inl ⟨by rfl, ?_⟩) HX0.out ?_); rotate_left
    · (intro w' hSw; obtain ⟨m0, m1, m2⟩ := map_cells (KM.out.ext hSw); obtain ⟨r0, r1, r2⟩ := map_cells (KR.out.ext hSw); go_simp; try with_reducible rfl)
    (try simp only [Act.put, List.setIfInBounds_toArray, List.set_cons_zero, List.set_cons_succ])
    (refine wpAnyH_take (i := 7) (oi := { dst := some 79, op := Go.Op.move (Go.Operand.tmp 78), type := 4, pos := "law.go:43", after := #[{ on := 6, ground := Go.Ground.data }, { on := 2, ground := Go.Ground.chain }], guard := none }) (v := ?_) rfl (by kernel_rfl) (by kernel_rfl) (by kernel_rfl) (fun _ _ _ h => h) (Or.inl ⟨by rfl, ?_⟩) HX0.out ?_); rotate_left
    · (intro w' hSw; obtain ⟨m0, m1, m2⟩ := map_cells (KM.out.ext hSw); obtain ⟨r0, r1, r2⟩ := map_cells (KR.out.ext hSw); go_simp; try with_reducible rfl)
    (try simp only [Act.put, List.setIfInBounds_toArray, List.set_cons_zero, List.set_cons_succ])
    (refine wpAnyH_take (i := 8) (oi := { dst := some 80, op := Go.Op.move (Go.Operand.tmp 17), type := 3, pos := "law.go:43", after := #[{ on := 7, ground := Go.Ground.guard }], guard := some (7, false) }) (v := ?_) rfl (by kernel_rfl) (by kernel_rfl) (by kernel_rfl) (fun _ _ _ h => h) (Or.inl ⟨by rfl, ?_⟩) HX0.out ?_); rotate_left
    · (intro w' hSw; obtain ⟨m0, m1, m2⟩ := map_cells (KM.out.ext hSw); obtain ⟨r0, r1, r2⟩ := map_cells (KR.out.ext hSw); go_simp; try with_reducible rfl)
    (try simp only [Act.put, List.setIfInBounds_toArray, List.set_cons_zero, List.set_cons_succ])
    (refine wpAnyH_take (i := 9) (oi := { dst := some 81, op := Go.Op.move (Go.Operand.tmp 1), type := 3, pos := "law.go:43", after := #[{ on := 7, ground := Go.Ground.guard }], guard := some (7, false) }) (v := ?_) rfl (by kernel_rfl) (by kernel_rfl) (by kernel_rfl) (fun _ _ _ h => h) (Or.inl ⟨by rfl, ?_⟩) HX0.out ?_); rotate_left
    · (intro w' hSw; obtain ⟨m0, m1, m2⟩ := map_cells (KM.out.ext hSw); obtain ⟨r0, r1, r2⟩ := map_cells (KR.out.ext hSw); go_simp; try with_reducible rfl)
    (try simp only [Act.put, List.setIfInBounds_toArray, List.set_cons_zero, List.set_cons_succ])
    (refine wpAnyH_take (i := 10) (oi := { dst := some 82, op := Go.Op.binOp Go.BinOp.neq 3 (Go.Operand.tmp 80) (Go.Operand.tmp 81) 3, type := 4, pos := "law.go:43", after := #[{ on := 8, ground := Go.Ground.data }, { on := 9, ground := Go.Ground.data }, { on := 7, ground := Go.Ground.guard }], guard := some (7, false) }) (v := ?_) rfl (by kernel_rfl) (by kernel_rfl) (by kernel_rfl) (fun _ _ _ h => h) (Or.inl ⟨by rfl, ?_⟩) HX0.out ?_); rotate_left
    · (intro w' hSw; obtain ⟨m0, m1, m2⟩ := map_cells (KM.out.ext hSw); obtain ⟨r0, r1, r2⟩ := map_cells (KR.out.ext hSw); go_simp; try with_reducible rfl)
    (try simp only [Act.put, List.setIfInBounds_toArray, List.set_cons_zero, List.set_cons_succ])
    (refine wpAnyH_take (i := 11) (oi := { dst := some 83, op := Go.Op.pick (Go.Operand.tmp 79) (Go.Operand.const (Go.Value.bool true)) (Go.Operand.tmp 82), type := 4, pos := "law.go:43", after := #[{ on := 7, ground := Go.Ground.data }, { on := 10, ground := Go.Ground.data }], guard := none }) (v := ?_) rfl (by kernel_rfl) (by kernel_rfl) (by kernel_rfl) (fun _ _ _ h => h) (Or.inl ⟨by rfl, ?_⟩) HX0.out ?_); rotate_left
    · (intro w' hSw; obtain ⟨m0, m1, m2⟩ := map_cells (KM.out.ext hSw); obtain ⟨r0, r1, r2⟩ := map_cells (KR.out.ext hSw); go_simp; try with_reducible rfl)
    (try simp only [Act.put, List.setIfInBounds_toArray, List.set_cons_zero, List.set_cons_succ])
    (refine wpAnyH_take (i := 12) (oi := { dst := some 84, op := Go.Op.move (Go.Operand.tmp 83), type := 4, pos := "law.go:43", after := #[{ on := 11, ground := Go.Ground.data }, { on := 7, ground := Go.Ground.chain }], guard := none }) (v := ?_) rfl (by kernel_rfl) (by kernel_rfl) (by kernel_rfl) (fun _ _ _ h => h) (Or.inl ⟨by rfl, ?_⟩) HX0.out ?_); rotate_left
    · (intro w' hSw; obtain ⟨m0, m1, m2⟩ := map_cells (KM.out.ext hSw); obtain ⟨r0, r1, r2⟩ := map_cells (KR.out.ext hSw); go_simp; try with_reducible rfl)
    (try simp only [Act.put, List.setIfInBounds_toArray, List.set_cons_zero, List.set_cons_succ])
    (refine wpAnyH_take (i := 13) (oi := { dst := some 85, op := Go.Op.load 52 (Go.Operand.tmp 13), type := 52, pos := "law.go:43", after := #[{ on := 12, ground := Go.Ground.guard }], guard := some (12, false) }) (v := ?_) rfl (by kernel_rfl) (by kernel_rfl) (by kernel_rfl) (fun _ _ _ h => h) (Or.inl ⟨by rfl, ?_⟩) HX0.out ?_); rotate_left
    · (intro w' hSw; obtain ⟨m0, m1, m2⟩ := map_cells (KM.out.ext hSw); obtain ⟨r0, r1, r2⟩ := map_cells (KR.out.ext hSw); go_simp; try with_reducible rfl)
    (try simp only [Act.put, List.setIfInBounds_toArray, List.set_cons_zero, List.set_cons_succ])
    (refine wpAnyH_take (i := 15) (oi := { dst := some 87, op := Go.Op.move (Go.Operand.tmp 0), type := 3, pos := "law.go:43", after := #[{ on := 12, ground := Go.Ground.guard }], guard := some (12, false) }) (v := ?_) rfl (by kernel_rfl) (by kernel_rfl) (by kernel_rfl) (fun _ _ _ h => h) (Or.inl ⟨by rfl, ?_⟩) HX0.out ?_); rotate_left
    · (intro w' hSw; obtain ⟨m0, m1, m2⟩ := map_cells (KM.out.ext hSw); obtain ⟨r0, r1, r2⟩ := map_cells (KR.out.ext hSw); go_simp; try with_reducible rfl)
    (try simp only [Act.put, List.setIfInBounds_toArray, List.set_cons_zero, List.set_cons_succ])
    (refine wpAnyH_take (i := 16) (oi := { dst := some 88, op := Go.Op.move (Go.Operand.tmp 1), type := 3, pos := "law.go:43", after := #[{ on := 12, ground := Go.Ground.guard }], guard := some (12, false) }) (v := ?_) rfl (by kernel_rfl) (by kernel_rfl) (by kernel_rfl) (fun _ _ _ h => h) (Or.inl ⟨by rfl, ?_⟩) HX0.out ?_); rotate_left
    · (intro w' hSw; obtain ⟨m0, m1, m2⟩ := map_cells (KM.out.ext hSw); obtain ⟨r0, r1, r2⟩ := map_cells (KR.out.ext hSw); go_simp; try with_reducible rfl)
    (try simp only [Act.put, List.setIfInBounds_toArray, List.set_cons_zero, List.set_cons_succ])
    (refine wpAnyH_take (i := 17) (oi := { dst := some 89, op := Go.Op.binOp Go.BinOp.mul 3 (Go.Operand.tmp 87) (Go.Operand.tmp 88) 3, type := 3, pos := "law.go:43", after := #[{ on := 15, ground := Go.Ground.data }, { on := 16, ground := Go.Ground.data }, { on := 12, ground := Go.Ground.guard }], guard := some (12, false) }) (v := ?_) rfl (by kernel_rfl) (by kernel_rfl) (by kernel_rfl) (fun _ _ _ h => h) (Or.inl ⟨by rfl, ?_⟩) HX0.out ?_); rotate_left
    · (intro w' hSw; obtain ⟨m0, m1, m2⟩ := map_cells (KM.out.ext hSw); obtain ⟨r0, r1, r2⟩ := map_cells (KR.out.ext hSw); go_simp; try with_reducible rfl)
    (try simp only [Act.put, List.setIfInBounds_toArray, List.set_cons_zero, List.set_cons_succ])
    refine wpAnyH_ready (rs := [14]) (by kernel_rfl) (by simp) ?_
    refine AllReadyH.cons (o := { dst := some 86, op := Go.Op.call { callee := Go.Callee.value (Go.Operand.func 34), args := #[Go.Operand.tmp 85], argTypes := #[52] }, type := 3, pos := "law.go:43", after := #[{ on := 13, ground := Go.Ground.data }, { on := 12, ground := Go.Ground.chain }, { on := 12, ground := Go.Ground.guard }], guard := some (12, false) }) rfl (fun K hK => ?_) AllReadyH.nil
    go_simp
    refine (HLEN.out _).mono ?_
    rintro e x1 ⟨rfl, b9⟩
    have HXx1 := Lib.hid (show SE w5 x1 from ext_trans HX0.out b9)
    clear b9
    (try go_wp2_with fail)
    refine hK.out _ _ HXx1.out (fun _ => ?_)
    clear hK K
    (try simp only [Act.put, List.setIfInBounds_toArray, List.set_cons_zero, List.set_cons_succ])
    (refine wpAnyH_take (i := 18) (oi := { dst := some 90, op := Go.Op.binOp Go.BinOp.neq 3 (Go.Operand.tmp 86) (Go.Operand.tmp 89) 3, type := 4, pos := "law.go:43", after := #[{ on := 14, ground := Go.Ground.data }, { on := 17, ground := Go.Ground.data }, { on := 12, ground := Go.Ground.guard }], guard := some (12, false) }) (v := ?_) rfl (by kernel_rfl) (by kernel_rfl) (by kernel_rfl) (fun _ _ _ h => h) (Or.inl ⟨by rfl, ?_⟩) HXx1.out ?_); rotate_left
    · (intro w' hSw; obtain ⟨m0, m1, m2⟩ := map_cells (KM.out.ext hSw); obtain ⟨r0, r1, r2⟩ := map_cells (KR.out.ext hSw); go_simp; try with_reducible rfl)
    (try simp only [Act.put, List.setIfInBounds_toArray, List.set_cons_zero, List.set_cons_succ])
    (refine wpAnyH_take (i := 19) (oi := { dst := some 91, op := Go.Op.pick (Go.Operand.tmp 84) (Go.Operand.const (Go.Value.bool true)) (Go.Operand.tmp 90), type := 4, pos := "law.go:43", after := #[{ on := 12, ground := Go.Ground.data }, { on := 18, ground := Go.Ground.data }], guard := none }) (v := ?_) rfl (by kernel_rfl) (by kernel_rfl) (by kernel_rfl) (fun _ _ _ h => h) (Or.inl ⟨by rfl, ?_⟩) HXx1.out ?_); rotate_left
    · (intro w' hSw; obtain ⟨m0, m1, m2⟩ := map_cells (KM.out.ext hSw); obtain ⟨r0, r1, r2⟩ := map_cells (KR.out.ext hSw); go_simp; try with_reducible rfl)
    (try simp only [Act.put, List.setIfInBounds_toArray, List.set_cons_zero, List.set_cons_succ])
    (refine wpAnyH_take (i := 20) (oi := { dst := some 92, op := Go.Op.move (Go.Operand.tmp 91), type := 4, pos := "law.go:43", after := #[{ on := 19, ground := Go.Ground.data }, { on := 14, ground := Go.Ground.chain }], guard := none }) (v := ?_) rfl (by kernel_rfl) (by kernel_rfl) (by kernel_rfl) (fun _ _ _ h => h) (Or.inl ⟨by rfl, ?_⟩) HXx1.out ?_); rotate_left
    · (intro w' hSw; obtain ⟨m0, m1, m2⟩ := map_cells (KM.out.ext hSw); obtain ⟨r0, r1, r2⟩ := map_cells (KR.out.ext hSw); go_simp; try with_reducible rfl)
    (try simp only [Act.put, List.setIfInBounds_toArray, List.set_cons_zero, List.set_cons_succ])
    (refine wpAnyH_take (i := 21) (oi := { dst := some 93, op := Go.Op.load 52 (Go.Operand.tmp 13), type := 52, pos := "law.go:43", after := #[{ on := 20, ground := Go.Ground.guard }], guard := some (20, false) }) (v := ?_) rfl (by kernel_rfl) (by kernel_rfl) (by kernel_rfl) (fun _ _ _ h => h) (Or.inl ⟨by rfl, ?_⟩) HXx1.out ?_); rotate_left
    · (intro w' hSw; obtain ⟨m0, m1, m2⟩ := map_cells (KM.out.ext hSw); obtain ⟨r0, r1, r2⟩ := map_cells (KR.out.ext hSw); go_simp; try with_reducible rfl)
    (try simp only [Act.put, List.setIfInBounds_toArray, List.set_cons_zero, List.set_cons_succ])
    (refine wpAnyH_take (i := 22) (oi := { dst := some 94, op := Go.Op.move (Go.Operand.tmp 3), type := 3, pos := "law.go:43", after := #[{ on := 20, ground := Go.Ground.guard }], guard := some (20, false) }) (v := ?_) rfl (by kernel_rfl) (by kernel_rfl) (by kernel_rfl) (fun _ _ _ h => h) (Or.inl ⟨by rfl, ?_⟩) HXx1.out ?_); rotate_left
    · (intro w' hSw; obtain ⟨m0, m1, m2⟩ := map_cells (KM.out.ext hSw); obtain ⟨r0, r1, r2⟩ := map_cells (KR.out.ext hSw); go_simp; try with_reducible rfl)
    (try simp only [Act.put, List.setIfInBounds_toArray, List.set_cons_zero, List.set_cons_succ])
    (refine wpAnyH_take (i := 24) (oi := { dst := some 96, op := Go.Op.load 60 (Go.Operand.tmp 15), type := 60, pos := "law.go:43", after := #[{ on := 20, ground := Go.Ground.guard }], guard := some (20, false) }) (v := ?_) rfl (by kernel_rfl) (by kernel_rfl) (by kernel_rfl) (fun _ _ _ h => h) (Or.inl ⟨by rfl, ?_⟩) HXx1.out ?_); rotate_left
    · (intro w' hSw; obtain ⟨m0, m1, m2⟩ := map_cells (KM.out.ext hSw); obtain ⟨r0, r1, r2⟩ := map_cells (KR.out.ext hSw); go_simp; try with_reducible rfl)
    (try simp only [Act.put, List.setIfInBounds_toArray, List.set_cons_zero, List.set_cons_succ])
    (refine wpAnyH_take (i := 25) (oi := { dst := some 97, op := Go.Op.move (Go.Operand.tmp 3), type := 3, pos := "law.go:43", after := #[{ on := 20, ground := Go.Ground.guard }], guard := some (20, false) }) (v := ?_) rfl (by kernel_rfl) (by kernel_rfl) (by kernel_rfl) (fun _ _ _ h => h) (Or.inl ⟨by rfl, ?_⟩) HXx1.out ?_); rotate_left
    · (intro w' hSw; obtain ⟨m0, m1, m2⟩ := map_cells (KM.out.ext hSw); obtain ⟨r0, r1, r2⟩ := map_cells (KR.out.ext hSw); go_simp; try with_reducible rfl)
    (try simp only [Act.put, List.setIfInBounds_toArray, List.set_cons_zero, List.set_cons_succ])
    refine wpAnyH_ready (rs := [23]) (by kernel_rfl) (by simp) ?_
    refine AllReadyH.cons (o := { dst := some 95, op := Go.Op.call { callee := Go.Callee.value (Go.Operand.func 38), args := #[Go.Operand.tmp 93, Go.Operand.tmp 94], argTypes := #[52, 3] }, type := 5, pos := "law.go:43", after := #[{ on := 21, ground := Go.Ground.data }, { on := 22, ground := Go.Ground.data }, { on := 20, ground := Go.Ground.chain }, { on := 20, ground := Go.Ground.guard }], guard := some (20, false) }) rfl (fun K hK => ?_) AllReadyH.nil
    go_simp
    refine (HIS.out _).mono ?_
    rintro e x2 ⟨rfl, b9⟩
    have HXx2 := Lib.hid (show SE w5 x2 from ext_trans HXx1.out b9)
    clear b9
    (try go_wp2_with fail)
    refine hK.out _ _ HXx2.out (fun _ => ?_)
    clear hK K
    (try simp only [Act.put, List.setIfInBounds_toArray, List.set_cons_zero, List.set_cons_succ])
    refine wpAnyH_ready (rs := [26]) (by kernel_rfl) (by simp) ?_
    refine AllReadyH.cons (o := { dst := some 98, op := Go.Op.call { callee := Go.Callee.value (Go.Operand.func 39), args := #[Go.Operand.tmp 96, Go.Operand.tmp 97], argTypes := #[60, 3] }, type := 5, pos := "law.go:43", after := #[{ on := 24, ground := Go.Ground.data }, { on := 25, ground := Go.Ground.data }, { on := 23, ground := Go.Ground.chain }, { on := 20, ground := Go.Ground.guard }], guard := some (20, false) }) rfl (fun K hK => ?_) AllReadyH.nil
    go_simp
    refine (HRIS.out _).mono ?_
    rintro e x3 ⟨rfl, b9⟩
    have HXx3 := Lib.hid (show SE w5 x3 from ext_trans HXx2.out b9)
    clear b9
    (try go_wp2_with fail)
    refine hK.out _ _ HXx3.out (fun _ => ?_)
    clear hK K
    (try simp only [Act.put, List.setIfInBounds_toArray, List.set_cons_zero, List.set_cons_succ])
    (refine wpAnyH_take (i := 27) (oi := { dst := some 99, op := Go.Op.binOp Go.BinOp.neq 5 (Go.Operand.tmp 95) (Go.Operand.tmp 98) 5, type := 4, pos := "law.go:43", after := #[{ on := 23, ground := Go.Ground.data }, { on := 26, ground := Go.Ground.data }, { on := 20, ground := Go.Ground.guard }], guard := some (20, false) }) (v := ?_) rfl (by kernel_rfl) (by kernel_rfl) (by kernel_rfl) (fun _ _ _ h => h) (Or.inl ⟨by rfl, ?_⟩) HXx3.out ?_); rotate_left
    · (intro w' hSw; obtain ⟨m0, m1, m2⟩ := map_cells (KM.out.ext hSw); obtain ⟨r0, r1, r2⟩ := map_cells (KR.out.ext hSw); go_simp; try with_reducible rfl)
    (try simp only [Act.put, List.setIfInBounds_toArray, List.set_cons_zero, List.set_cons_succ])
    (refine wpAnyH_take (i := 28) (oi := { dst := some 100, op := Go.Op.pick (Go.Operand.tmp 92) (Go.Operand.const (Go.Value.bool true)) (Go.Operand.tmp 99), type := 4, pos := "law.go:43", after := #[{ on := 20, ground := Go.Ground.data }, { on := 27, ground := Go.Ground.data }], guard := none }) (v := ?_) rfl (by kernel_rfl) (by kernel_rfl) (by kernel_rfl) (fun _ _ _ h => h) (Or.inl ⟨by rfl, ?_⟩) HXx3.out ?_); rotate_left
    · (intro w' hSw; obtain ⟨m0, m1, m2⟩ := map_cells (KM.out.ext hSw); obtain ⟨r0, r1, r2⟩ := map_cells (KR.out.ext hSw); go_simp; try with_reducible rfl)
    (try simp only [Act.put, List.setIfInBounds_toArray, List.set_cons_zero, List.set_cons_succ])
    (refine wpAnyH_take (i := 29) (oi := { dst := some 101, op := Go.Op.move (Go.Operand.tmp 100), type := 4, pos := "law.go:43", after := #[{ on := 28, ground := Go.Ground.data }, { on := 26, ground := Go.Ground.chain }], guard := none }) (v := ?_) rfl (by kernel_rfl) (by kernel_rfl) (by kernel_rfl) (fun _ _ _ h => h) (Or.inl ⟨by rfl, ?_⟩) HXx3.out ?_); rotate_left
    · (intro w' hSw; obtain ⟨m0, m1, m2⟩ := map_cells (KM.out.ext hSw); obtain ⟨r0, r1, r2⟩ := map_cells (KR.out.ext hSw); go_simp; try with_reducible rfl)
    (try simp only [Act.put, List.setIfInBounds_toArray, List.set_cons_zero, List.set_cons_succ])
    (refine wpAnyH_take (i := 30) (oi := { dst := some 102, op := Go.Op.load 52 (Go.Operand.tmp 13), type := 52, pos := "law.go:43", after := #[{ on := 29, ground := Go.Ground.guard }], guard := some (29, false) }) (v := ?_) rfl (by kernel_rfl) (by kernel_rfl) (by kernel_rfl) (fun _ _ _ h => h) (Or.inl ⟨by rfl, ?_⟩) HXx3.out ?_); rotate_left
    · (intro w' hSw; obtain ⟨m0, m1, m2⟩ := map_cells (KM.out.ext hSw); obtain ⟨r0, r1, r2⟩ := map_cells (KR.out.ext hSw); go_simp; try with_reducible rfl)
    (try simp only [Act.put, List.setIfInBounds_toArray, List.set_cons_zero, List.set_cons_succ])
    (refine wpAnyH_take (i := 31) (oi := { dst := some 103, op := Go.Op.move (Go.Operand.tmp 3), type := 3, pos := "law.go:43", after := #[{ on := 29, ground := Go.Ground.guard }], guard := some (29, false) }) (v := ?_) rfl (by kernel_rfl) (by kernel_rfl) (by kernel_rfl) (fun _ _ _ h => h) (Or.inl ⟨by rfl, ?_⟩) HXx3.out ?_); rotate_left
    · (intro w' hSw; obtain ⟨m0, m1, m2⟩ := map_cells (KM.out.ext hSw); obtain ⟨r0, r1, r2⟩ := map_cells (KR.out.ext hSw); go_simp; try with_reducible rfl)
    (try simp only [Act.put, List.setIfInBounds_toArray, List.set_cons_zero, List.set_cons_succ])
    (refine wpAnyH_take (i := 33) (oi := { dst := some 105, op := Go.Op.load 60 (Go.Operand.tmp 15), type := 60, pos := "law.go:43", after := #[{ on := 29, ground := Go.Ground.guard }], guard := some (29, false) }) (v := ?_) rfl (by kernel_rfl) (by kernel_rfl) (by kernel_rfl) (fun _ _ _ h => h) (Or.inl ⟨by rfl, ?_⟩) HXx3.out ?_); rotate_left
    · (intro w' hSw; obtain ⟨m0, m1, m2⟩ := map_cells (KM.out.ext hSw); obtain ⟨r0, r1, r2⟩ := map_cells (KR.out.ext hSw); go_simp; try with_reducible rfl)
    (try simp only [Act.put, List.setIfInBounds_toArray, List.set_cons_zero, List.set_cons_succ])
    (refine wpAnyH_take (i := 34) (oi := { dst := some 106, op := Go.Op.move (Go.Operand.tmp 3), type := 3, pos := "law.go:43", after := #[{ on := 29, ground := Go.Ground.guard }], guard := some (29, false) }) (v := ?_) rfl (by kernel_rfl) (by kernel_rfl) (by kernel_rfl) (fun _ _ _ h => h) (Or.inl ⟨by rfl, ?_⟩) HXx3.out ?_); rotate_left
    · (intro w' hSw; obtain ⟨m0, m1, m2⟩ := map_cells (KM.out.ext hSw); obtain ⟨r0, r1, r2⟩ := map_cells (KR.out.ext hSw); go_simp; try with_reducible rfl)
    (try simp only [Act.put, List.setIfInBounds_toArray, List.set_cons_zero, List.set_cons_succ])
    refine wpAnyH_ready (rs := [32]) (by kernel_rfl) (by simp) ?_
    refine AllReadyH.cons (o := { dst := some 104, op := Go.Op.call { callee := Go.Callee.value (Go.Operand.func 35), args := #[Go.Operand.tmp 102, Go.Operand.tmp 103], argTypes := #[52, 3] }, type := 4, pos := "law.go:43", after := #[{ on := 30, ground := Go.Ground.data }, { on := 31, ground := Go.Ground.data }, { on := 29, ground := Go.Ground.chain }, { on := 29, ground := Go.Ground.guard }], guard := some (29, false) }) rfl (fun K hK => ?_) AllReadyH.nil
    go_simp
    refine (HON.out _).mono ?_
    rintro e x4 ⟨rfl, b9⟩
    have HXx4 := Lib.hid (show SE w5 x4 from ext_trans HXx3.out b9)
    clear b9
    (try go_wp2_with fail)
    refine hK.out _ _ HXx4.out (fun _ => ?_)
    clear hK K
    (try simp only [Act.put, List.setIfInBounds_toArray, List.set_cons_zero, List.set_cons_succ])
    refine wpAnyH_ready (rs := [35]) (by kernel_rfl) (by simp) ?_
    refine AllReadyH.cons (o := { dst := some 107, op := Go.Op.call { callee := Go.Callee.value (Go.Operand.func 40), args := #[Go.Operand.tmp 105, Go.Operand.tmp 106], argTypes := #[60, 3] }, type := 4, pos := "law.go:43", after := #[{ on := 33, ground := Go.Ground.data }, { on := 34, ground := Go.Ground.data }, { on := 32, ground := Go.Ground.chain }, { on := 29, ground := Go.Ground.guard }], guard := some (29, false) }) rfl (fun K hK => ?_) AllReadyH.nil
    go_simp
    refine (HRON.out _).mono ?_
    rintro e x5 ⟨rfl, b9⟩
    have HXx5 := Lib.hid (show SE w5 x5 from ext_trans HXx4.out b9)
    clear b9
    (try go_wp2_with fail)
    refine hK.out _ _ HXx5.out (fun _ => ?_)
    clear hK K
    (try simp only [Act.put, List.setIfInBounds_toArray, List.set_cons_zero, List.set_cons_succ])
    (refine wpAnyH_take (i := 36) (oi := { dst := some 108, op := Go.Op.binOp Go.BinOp.neq 4 (Go.Operand.tmp 104) (Go.Operand.tmp 107) 4, type := 4, pos := "law.go:43", after := #[{ on := 32, ground := Go.Ground.data }, { on := 35, ground := Go.Ground.data }, { on := 29, ground := Go.Ground.guard }], guard := some (29, false) }) (v := ?_) rfl (by kernel_rfl) (by kernel_rfl) (by kernel_rfl) (fun _ _ _ h => h) (Or.inl ⟨by rfl, ?_⟩) HXx5.out ?_); rotate_left
    · (intro w' hSw; obtain ⟨m0, m1, m2⟩ := map_cells (KM.out.ext hSw); obtain ⟨r0, r1, r2⟩ := map_cells (KR.out.ext hSw); go_simp; try with_reducible rfl)
    (try simp only [Act.put, List.setIfInBounds_toArray, List.set_cons_zero, List.set_cons_succ])
    (refine wpAnyH_take (i := 37) (oi := { dst := some 109, op := Go.Op.pick (Go.Operand.tmp 101) (Go.Operand.const (Go.Value.bool true)) (Go.Operand.tmp 108), type := 4, pos := "law.go:43", after := #[{ on := 29, ground := Go.Ground.data }, { on := 36, ground := Go.Ground.data }], guard := none }) (v := ?_) rfl (by kernel_rfl) (by kernel_rfl) (by kernel_rfl) (fun _ _ _ h => h) (Or.inl ⟨by rfl, ?_⟩) HXx5.out ?_); rotate_left
    · (intro w' hSw; obtain ⟨m0, m1, m2⟩ := map_cells (KM.out.ext hSw); obtain ⟨r0, r1, r2⟩ := map_cells (KR.out.ext hSw); go_simp; try with_reducible rfl)
    (try simp only [Act.put, List.setIfInBounds_toArray, List.set_cons_zero, List.set_cons_succ])
    (refine wpAnyH_take (i := 38) (oi := { dst := some 110, op := Go.Op.move (Go.Operand.tmp 109), type := 4, pos := "law.go:43", after := #[{ on := 37, ground := Go.Ground.data }, { on := 35, ground := Go.Ground.chain }], guard := none }) (v := ?_) rfl (by kernel_rfl) (by kernel_rfl) (by kernel_rfl) (fun _ _ _ h => h) (Or.inl ⟨by rfl, ?_⟩) HXx5.out ?_); rotate_left
    · (intro w' hSw; obtain ⟨m0, m1, m2⟩ := map_cells (KM.out.ext hSw); obtain ⟨r0, r1, r2⟩ := map_cells (KR.out.ext hSw); go_simp; try with_reducible rfl)
    (try simp only [Act.put, List.setIfInBounds_toArray, List.set_cons_zero, List.set_cons_succ])
    (refine wpAnyH_take (i := 39) (oi := { dst := some 111, op := Go.Op.load 52 (Go.Operand.tmp 13), type := 52, pos := "law.go:43", after := #[{ on := 38, ground := Go.Ground.guard }], guard := some (38, false) }) (v := ?_) rfl (by kernel_rfl) (by kernel_rfl) (by kernel_rfl) (fun _ _ _ h => h) (Or.inl ⟨by rfl, ?_⟩) HXx5.out ?_); rotate_left
    · (intro w' hSw; obtain ⟨m0, m1, m2⟩ := map_cells (KM.out.ext hSw); obtain ⟨r0, r1, r2⟩ := map_cells (KR.out.ext hSw); go_simp; try with_reducible rfl)
    (try simp only [Act.put, List.setIfInBounds_toArray, List.set_cons_zero, List.set_cons_succ])
    (refine wpAnyH_take (i := 40) (oi := { dst := some 112, op := Go.Op.move (Go.Operand.tmp 3), type := 3, pos := "law.go:43", after := #[{ on := 38, ground := Go.Ground.guard }], guard := some (38, false) }) (v := ?_) rfl (by kernel_rfl) (by kernel_rfl) (by kernel_rfl) (fun _ _ _ h => h) (Or.inl ⟨by rfl, ?_⟩) HXx5.out ?_); rotate_left
    · (intro w' hSw; obtain ⟨m0, m1, m2⟩ := map_cells (KM.out.ext hSw); obtain ⟨r0, r1, r2⟩ := map_cells (KR.out.ext hSw); go_simp; try with_reducible rfl)
    (try simp only [Act.put, List.setIfInBounds_toArray, List.set_cons_zero, List.set_cons_succ])
    (refine wpAnyH_take (i := 42) (oi := { dst := some 114, op := Go.Op.load 60 (Go.Operand.tmp 15), type := 60, pos := "law.go:43", after := #[{ on := 38, ground := Go.Ground.guard }], guard := some (38, false) }) (v := ?_) rfl (by kernel_rfl) (by kernel_rfl) (by kernel_rfl) (fun _ _ _ h => h) (Or.inl ⟨by rfl, ?_⟩) HXx5.out ?_); rotate_left
    · (intro w' hSw; obtain ⟨m0, m1, m2⟩ := map_cells (KM.out.ext hSw); obtain ⟨r0, r1, r2⟩ := map_cells (KR.out.ext hSw); go_simp; try with_reducible rfl)
    (try simp only [Act.put, List.setIfInBounds_toArray, List.set_cons_zero, List.set_cons_succ])
    (refine wpAnyH_take (i := 43) (oi := { dst := some 115, op := Go.Op.move (Go.Operand.tmp 3), type := 3, pos := "law.go:43", after := #[{ on := 38, ground := Go.Ground.guard }], guard := some (38, false) }) (v := ?_) rfl (by kernel_rfl) (by kernel_rfl) (by kernel_rfl) (fun _ _ _ h => h) (Or.inl ⟨by rfl, ?_⟩) HXx5.out ?_); rotate_left
    · (intro w' hSw; obtain ⟨m0, m1, m2⟩ := map_cells (KM.out.ext hSw); obtain ⟨r0, r1, r2⟩ := map_cells (KR.out.ext hSw); go_simp; try with_reducible rfl)
    (try simp only [Act.put, List.setIfInBounds_toArray, List.set_cons_zero, List.set_cons_succ])
    refine wpAnyH_ready (rs := [41]) (by kernel_rfl) (by simp) ?_
    refine AllReadyH.cons (o := { dst := some 113, op := Go.Op.call { callee := Go.Callee.value (Go.Operand.func 41), args := #[Go.Operand.tmp 111, Go.Operand.tmp 112], argTypes := #[52, 3] }, type := 4, pos := "law.go:43", after := #[{ on := 39, ground := Go.Ground.data }, { on := 40, ground := Go.Ground.data }, { on := 38, ground := Go.Ground.chain }, { on := 38, ground := Go.Ground.guard }], guard := some (38, false) }) rfl (fun K hK => ?_) AllReadyH.nil
    go_simp
    refine (HWALK.out _).mono ?_
    rintro e x6 ⟨rfl, b9⟩
    have HXx6 := Lib.hid (show SE w5 x6 from ext_trans HXx5.out b9)
    clear b9
    (try go_wp2_with fail)
    refine hK.out _ _ HXx6.out (fun _ => ?_)
    clear hK K
    (try simp only [Act.put, List.setIfInBounds_toArray, List.set_cons_zero, List.set_cons_succ])
    refine wpAnyH_ready (rs := [44]) (by kernel_rfl) (by simp) ?_
    refine AllReadyH.cons (o := { dst := some 116, op := Go.Op.call { callee := Go.Callee.value (Go.Operand.func 39), args := #[Go.Operand.tmp 114, Go.Operand.tmp 115], argTypes := #[60, 3] }, type := 5, pos := "law.go:43", after := #[{ on := 42, ground := Go.Ground.data }, { on := 43, ground := Go.Ground.data }, { on := 41, ground := Go.Ground.chain }, { on := 38, ground := Go.Ground.guard }], guard := some (38, false) }) rfl (fun K hK => ?_) AllReadyH.nil
    go_simp
    refine (HRIS.out _).mono ?_
    rintro e x7 ⟨rfl, b9⟩
    have HXx7 := Lib.hid (show SE w5 x7 from ext_trans HXx6.out b9)
    clear b9
    (try go_wp2_with fail)
    refine hK.out _ _ HXx7.out (fun _ => ?_)
    clear hK K
    (try simp only [Act.put, List.setIfInBounds_toArray, List.set_cons_zero, List.set_cons_succ])
    (refine wpAnyH_take (i := 45) (oi := { dst := some 117, op := Go.Op.binOp Go.BinOp.eql 5 (Go.Operand.tmp 116) (Go.Operand.const (Go.Value.int Go.IntKind.u8 0)) 5, type := 4, pos := "law.go:43", after := #[{ on := 44, ground := Go.Ground.data }, { on := 38, ground := Go.Ground.guard }], guard := some (38, false) }) (v := ?_) rfl (by kernel_rfl) (by kernel_rfl) (by kernel_rfl) (fun _ _ _ h => h) (Or.inl ⟨by rfl, ?_⟩) HXx7.out ?_); rotate_left
    · (intro w' hSw; obtain ⟨m0, m1, m2⟩ := map_cells (KM.out.ext hSw); obtain ⟨r0, r1, r2⟩ := map_cells (KR.out.ext hSw); go_simp; try with_reducible rfl)
    (try simp only [Act.put, List.setIfInBounds_toArray, List.set_cons_zero, List.set_cons_succ])
    (refine wpAnyH_take (i := 46) (oi := { dst := some 118, op := Go.Op.binOp Go.BinOp.neq 4 (Go.Operand.tmp 113) (Go.Operand.tmp 117) 4, type := 4, pos := "law.go:43", after := #[{ on := 41, ground := Go.Ground.data }, { on := 45, ground := Go.Ground.data }, { on := 38, ground := Go.Ground.guard }], guard := some (38, false) }) (v := ?_) rfl (by kernel_rfl) (by kernel_rfl) (by kernel_rfl) (fun _ _ _ h => h) (Or.inl ⟨by rfl, ?_⟩) HXx7.out ?_); rotate_left
    · (intro w' hSw; obtain ⟨m0, m1, m2⟩ := map_cells (KM.out.ext hSw); obtain ⟨r0, r1, r2⟩ := map_cells (KR.out.ext hSw); go_simp; try with_reducible rfl)
    (try simp only [Act.put, List.setIfInBounds_toArray, List.set_cons_zero, List.set_cons_succ])
    (refine wpAnyH_take (i := 47) (oi := { dst := some 119, op := Go.Op.pick (Go.Operand.tmp 110) (Go.Operand.const (Go.Value.bool true)) (Go.Operand.tmp 118), type := 4, pos := "law.go:43", after := #[{ on := 38, ground := Go.Ground.data }, { on := 46, ground := Go.Ground.data }], guard := none }) (v := ?_) rfl (by kernel_rfl) (by kernel_rfl) (by kernel_rfl) (fun _ _ _ h => h) (Or.inl ⟨by rfl, ?_⟩) HXx7.out ?_); rotate_left
    · (intro w' hSw; obtain ⟨m0, m1, m2⟩ := map_cells (KM.out.ext hSw); obtain ⟨r0, r1, r2⟩ := map_cells (KR.out.ext hSw); go_simp; try with_reducible rfl)
    (try simp only [Act.put, List.setIfInBounds_toArray, List.set_cons_zero, List.set_cons_succ])
    (refine wpAnyH_take (i := 48) (oi := { dst := some 120, op := Go.Op.move (Go.Operand.tmp 119), type := 4, pos := "law.go:43", after := #[{ on := 47, ground := Go.Ground.data }, { on := 44, ground := Go.Ground.chain }], guard := none }) (v := ?_) rfl (by kernel_rfl) (by kernel_rfl) (by kernel_rfl) (fun _ _ _ h => h) (Or.inl ⟨by rfl, ?_⟩) HXx7.out ?_); rotate_left
    · (intro w' hSw; obtain ⟨m0, m1, m2⟩ := map_cells (KM.out.ext hSw); obtain ⟨r0, r1, r2⟩ := map_cells (KR.out.ext hSw); go_simp; try with_reducible rfl)
    (try simp only [Act.put, List.setIfInBounds_toArray, List.set_cons_zero, List.set_cons_succ])
    (refine wpAnyH_take (i := 49) (oi := { dst := some 121, op := Go.Op.load 52 (Go.Operand.tmp 13), type := 52, pos := "law.go:43", after := #[{ on := 48, ground := Go.Ground.guard }], guard := some (48, false) }) (v := ?_) rfl (by kernel_rfl) (by kernel_rfl) (by kernel_rfl) (fun _ _ _ h => h) (Or.inl ⟨by rfl, ?_⟩) HXx7.out ?_); rotate_left
    · (intro w' hSw; obtain ⟨m0, m1, m2⟩ := map_cells (KM.out.ext hSw); obtain ⟨r0, r1, r2⟩ := map_cells (KR.out.ext hSw); go_simp; try with_reducible rfl)
    (try simp only [Act.put, List.setIfInBounds_toArray, List.set_cons_zero, List.set_cons_succ])
    (refine wpAnyH_take (i := 50) (oi := { dst := some 122, op := Go.Op.move (Go.Operand.tmp 3), type := 3, pos := "law.go:43", after := #[{ on := 48, ground := Go.Ground.guard }], guard := some (48, false) }) (v := ?_) rfl (by kernel_rfl) (by kernel_rfl) (by kernel_rfl) (fun _ _ _ h => h) (Or.inl ⟨by rfl, ?_⟩) HXx7.out ?_); rotate_left
    · (intro w' hSw; obtain ⟨m0, m1, m2⟩ := map_cells (KM.out.ext hSw); obtain ⟨r0, r1, r2⟩ := map_cells (KR.out.ext hSw); go_simp; try with_reducible rfl)
    (try simp only [Act.put, List.setIfInBounds_toArray, List.set_cons_zero, List.set_cons_succ])
    (refine wpAnyH_take (i := 51) (oi := { dst := some 123, op := Go.Op.move (Go.Operand.tmp 4), type := 3, pos := "law.go:43", after := #[{ on := 48, ground := Go.Ground.guard }], guard := some (48, false) }) (v := ?_) rfl (by kernel_rfl) (by kernel_rfl) (by kernel_rfl) (fun _ _ _ h => h) (Or.inl ⟨by rfl, ?_⟩) HXx7.out ?_); rotate_left
    · (intro w' hSw; obtain ⟨m0, m1, m2⟩ := map_cells (KM.out.ext hSw); obtain ⟨r0, r1, r2⟩ := map_cells (KR.out.ext hSw); go_simp; try with_reducible rfl)
    (try simp only [Act.put, List.setIfInBounds_toArray, List.set_cons_zero, List.set_cons_succ])
    (refine wpAnyH_take (i := 53) (oi := { dst := some 125, op := Go.Op.load 60 (Go.Operand.tmp 15), type := 60, pos := "law.go:43", after := #[{ on := 48, ground := Go.Ground.guard }], guard := some (48, false) }) (v := ?_) rfl (by kernel_rfl) (by kernel_rfl) (by kernel_rfl) (fun _ _ _ h => h) (Or.inl ⟨by rfl, ?_⟩) HXx7.out ?_); rotate_left
    · (intro w' hSw; obtain ⟨m0, m1, m2⟩ := map_cells (KM.out.ext hSw); obtain ⟨r0, r1, r2⟩ := map_cells (KR.out.ext hSw); go_simp; try with_reducible rfl)
    (try simp only [Act.put, List.setIfInBounds_toArray, List.set_cons_zero, List.set_cons_succ])
    (refine wpAnyH_take (i := 54) (oi := { dst := some 126, op := Go.Op.move (Go.Operand.tmp 3), type := 3, pos := "law.go:43", after := #[{ on := 48, ground := Go.Ground.guard }], guard := some (48, false) }) (v := ?_) rfl (by kernel_rfl) (by kernel_rfl) (by kernel_rfl) (fun _ _ _ h => h) (Or.inl ⟨by rfl, ?_⟩) HXx7.out ?_); rotate_left
    · (intro w' hSw; obtain ⟨m0, m1, m2⟩ := map_cells (KM.out.ext hSw); obtain ⟨r0, r1, r2⟩ := map_cells (KR.out.ext hSw); go_simp; try with_reducible rfl)
    (try simp only [Act.put, List.setIfInBounds_toArray, List.set_cons_zero, List.set_cons_succ])
    (refine wpAnyH_take (i := 55) (oi := { dst := some 127, op := Go.Op.move (Go.Operand.tmp 4), type := 3, pos := "law.go:43", after := #[{ on := 48, ground := Go.Ground.guard }], guard := some (48, false) }) (v := ?_) rfl (by kernel_rfl) (by kernel_rfl) (by kernel_rfl) (fun _ _ _ h => h) (Or.inl ⟨by rfl, ?_⟩) HXx7.out ?_); rotate_left
    · (intro w' hSw; obtain ⟨m0, m1, m2⟩ := map_cells (KM.out.ext hSw); obtain ⟨r0, r1, r2⟩ := map_cells (KR.out.ext hSw); go_simp; try with_reducible rfl)
    (try simp only [Act.put, List.setIfInBounds_toArray, List.set_cons_zero, List.set_cons_succ])
    refine wpAnyH_ready (rs := [52]) (by kernel_rfl) (by simp) ?_
    refine AllReadyH.cons (o := { dst := some 124, op := Go.Op.call { callee := Go.Callee.value (Go.Operand.func 42), args := #[Go.Operand.tmp 121, Go.Operand.tmp 122, Go.Operand.tmp 123], argTypes := #[52, 3, 3] }, type := 3, pos := "law.go:43", after := #[{ on := 49, ground := Go.Ground.data }, { on := 50, ground := Go.Ground.data }, { on := 51, ground := Go.Ground.data }, { on := 48, ground := Go.Ground.chain }, { on := 48, ground := Go.Ground.guard }], guard := some (48, false) }) rfl (fun K hK => ?_) AllReadyH.nil
    go_simp
    refine (HFAR.out _).mono ?_
    rintro e x8 ⟨rfl, b9⟩
    have HXx8 := Lib.hid (show SE w5 x8 from ext_trans HXx7.out b9)
    clear b9
    (try go_wp2_with fail)
    refine hK.out _ _ HXx8.out (fun _ => ?_)
    clear hK K
    (try simp only [Act.put, List.setIfInBounds_toArray, List.set_cons_zero, List.set_cons_succ])
    refine wpAnyH_ready (rs := [56]) (by kernel_rfl) (by simp) ?_
    refine AllReadyH.cons (o := { dst := some 128, op := Go.Op.call { callee := Go.Callee.value (Go.Operand.func 43), args := #[Go.Operand.tmp 125, Go.Operand.tmp 126, Go.Operand.tmp 127], argTypes := #[60, 3, 3] }, type := 3, pos := "law.go:43", after := #[{ on := 53, ground := Go.Ground.data }, { on := 54, ground := Go.Ground.data }, { on := 55, ground := Go.Ground.data }, { on := 52, ground := Go.Ground.chain }, { on := 48, ground := Go.Ground.guard }], guard := some (48, false) }) rfl (fun K hK => ?_) AllReadyH.nil
    go_simp
    refine (HRFAR.out _).mono ?_
    rintro e x9 ⟨rfl, b9⟩
    have HXx9 := Lib.hid (show SE w5 x9 from ext_trans HXx8.out b9)
    clear b9
    (try go_wp2_with fail)
    refine hK.out _ _ HXx9.out (fun _ => ?_)
    clear hK K
    (try simp only [Act.put, List.setIfInBounds_toArray, List.set_cons_zero, List.set_cons_succ])
    (refine wpAnyH_take (i := 57) (oi := { dst := some 129, op := Go.Op.binOp Go.BinOp.neq 3 (Go.Operand.tmp 124) (Go.Operand.tmp 128) 3, type := 4, pos := "law.go:43", after := #[{ on := 52, ground := Go.Ground.data }, { on := 56, ground := Go.Ground.data }, { on := 48, ground := Go.Ground.guard }], guard := some (48, false) }) (v := ?_) rfl (by kernel_rfl) (by kernel_rfl) (by kernel_rfl) (fun _ _ _ h => h) (Or.inl ⟨by rfl, ?_⟩) HXx9.out ?_); rotate_left
    · (intro w' hSw; obtain ⟨m0, m1, m2⟩ := map_cells (KM.out.ext hSw); obtain ⟨r0, r1, r2⟩ := map_cells (KR.out.ext hSw); go_simp; try with_reducible rfl)
    (try simp only [Act.put, List.setIfInBounds_toArray, List.set_cons_zero, List.set_cons_succ])
    (refine wpAnyH_take (i := 58) (oi := { dst := some 130, op := Go.Op.pick (Go.Operand.tmp 120) (Go.Operand.const (Go.Value.bool true)) (Go.Operand.tmp 129), type := 4, pos := "law.go:43", after := #[{ on := 48, ground := Go.Ground.data }, { on := 57, ground := Go.Ground.data }], guard := none }) (v := ?_) rfl (by kernel_rfl) (by kernel_rfl) (by kernel_rfl) (fun _ _ _ h => h) (Or.inl ⟨by rfl, ?_⟩) HXx9.out ?_); rotate_left
    · (intro w' hSw; obtain ⟨m0, m1, m2⟩ := map_cells (KM.out.ext hSw); obtain ⟨r0, r1, r2⟩ := map_cells (KR.out.ext hSw); go_simp; try with_reducible rfl)
    (try simp only [Act.put, List.setIfInBounds_toArray, List.set_cons_zero, List.set_cons_succ])
    refine wpAnyH_done (by kernel_rfl) ?_ _
    go_wp2_with fail
    go_meet
    exact ⟨rfl, HXx9.out⟩
  case rest =>
  obtain ⟨rfl, he⟩ := hcut
  obtain ⟨w6, hw6⟩ : ∃ W6, W6 = wc := ⟨_, rfl⟩
  rw [← hw6] at he ⊢
  clear hw6
  have KM6 := Lib.hid (KM.out.ext he); have KR6 := Lib.hid (KR.out.ext he); have HE6 := Lib.hid (ext_trans HE.out he)
  clear he HX0
  obtain ⟨m0, m1, m2⟩ := map_cells KM6.out
  obtain ⟨r0, r1, r2⟩ := map_cells KR6.out
  go_wp2_with fail
  refine (HRON.out _).mono ?_
  rintro e w7 ⟨rfl, b7⟩
  have KM7 := Lib.hid (KM6.out.ext b7); have KR7 := Lib.hid (KR6.out.ext b7); have HE7 := Lib.hid (ext_trans HE6.out b7)
  clear b7 m0 m1 m2 r0 r1 r2
  obtain ⟨m0, m1, m2⟩ := map_cells KM7.out
  obtain ⟨r0, r1, r2⟩ := map_cells KR7.out
  go_wp2_with fail
  refine (HRON.out _).mono ?_
  rintro e w8 ⟨rfl, b8⟩
  have KM8 := Lib.hid (KM7.out.ext b8); have KR8 := Lib.hid (KR7.out.ext b8); have HE8 := Lib.hid (ext_trans HE7.out b8)
  clear b8 m0 m1 m2 r0 r1 r2
  obtain ⟨m0, m1, m2⟩ := map_cells KM8.out
  obtain ⟨r0, r1, r2⟩ := map_cells KR8.out
  go_wp2_with fail
  refine (HRON.out _).mono ?_
  rintro e w9 ⟨rfl, b9⟩
  have KM9 := Lib.hid (KM8.out.ext b9); have KR9 := Lib.hid (KR8.out.ext b9); have HE9 := Lib.hid (ext_trans HE8.out b9)
  clear b9 m0 m1 m2 r0 r1 r2
  obtain ⟨m0, m1, m2⟩ := map_cells KM9.out
  obtain ⟨r0, r1, r2⟩ := map_cells KR9.out
  go_wp2_with fail
  refine (HNEXT.out _).mono ?_
  rintro e w10 ⟨rfl, b10⟩
  have KM10 := Lib.hid (KM9.out.ext b10); have KR10 := Lib.hid (KR9.out.ext b10); have HE10 := Lib.hid (ext_trans HE9.out b10)
  clear b10 m0 m1 m2 r0 r1 r2
  obtain ⟨m0, m1, m2⟩ := map_cells KM10.out
  go_wp2_with fail
  refine (HARD.out _).mono ?_
  rintro e w11 ⟨v1, rfl, hR1, b11⟩
  have KM11 := Lib.hid (KM10.out.ext b11); have KR11 := Lib.hid (KR10.out.ext b11); have HE11 := Lib.hid (ext_trans HE10.out b11)
  obtain ⟨A1, c1, rfl, _⟩ := own_shape hR1
  clear b11 hR1 m0 m1 m2
  go_wp2_with fail
  have HY0 := Lib.hid (show SE w11 w11.drew from ext_drew (Ext.rfl' w11))
  refine wp_region_held_drew (S := SE w11) hmx HY0.out (fun _ => ?_)
  (refine wpAnyH_take (i := 0) (oi := { dst := some 181, op := Go.Op.load 60 (Go.Operand.tmp 15), type := 60, pos := "law.go:52", after := #[], guard := none }) (v := ?_) rfl (by kernel_rfl) (by kernel_rfl) (by kernel_rfl) (fun _ _ _ h => h) (Or.inl ⟨by rfl, ?_⟩) HY0.out ?_); rotate_left
  · (intro w' hSw; obtain ⟨m0, m1, m2⟩ := map_cells (KM11.out.ext hSw); obtain ⟨r0, r1, r2⟩ := map_cells (KR11.out.ext hSw); go_simp; try with_reducible rfl)
  (try simp only [Act.put, List.setIfInBounds_toArray, List.set_cons_zero, List.set_cons_succ])
  (refine wpAnyH_take (i := 1) (oi := { dst := some 182, op := Go.Op.move (Go.Operand.tmp 3), type := 3, pos := "law.go:52", after := #[], guard := none }) (v := ?_) rfl (by kernel_rfl) (by kernel_rfl) (by kernel_rfl) (fun _ _ _ h => h) (Or.inl ⟨by rfl, ?_⟩) HY0.out ?_); rotate_left
  · (intro w' hSw; obtain ⟨m0, m1, m2⟩ := map_cells (KM11.out.ext hSw); obtain ⟨r0, r1, r2⟩ := map_cells (KR11.out.ext hSw); go_simp; try with_reducible rfl)
  (try simp only [Act.put, List.setIfInBounds_toArray, List.set_cons_zero, List.set_cons_succ])
  refine wpAnyH_ready (rs := [2]) (by kernel_rfl) (by simp) ?_
  refine AllReadyH.cons (o := { dst := some 183, op := Go.Op.call { callee := Go.Callee.value (Go.Operand.func 40), args := #[Go.Operand.tmp 181, Go.Operand.tmp 182], argTypes := #[60, 3] }, type := 4, pos := "law.go:52", after := #[{ on := 0, ground := Go.Ground.data }, { on := 1, ground := Go.Ground.data }], guard := none }) rfl (fun K hK => ?_) AllReadyH.nil
  go_simp
  refine (HRON.out _).mono ?_
  rintro e y1 ⟨rfl, b9⟩
  have HXy1 := Lib.hid (show SE w11 y1 from ext_trans HY0.out b9)
  clear b9
  (try go_wp2_with fail)
  refine hK.out _ _ HXy1.out (fun _ => ?_)
  clear hK K
  (try simp only [Act.put, List.setIfInBounds_toArray, List.set_cons_zero, List.set_cons_succ])
  (refine wpAnyH_take (i := 3) (oi := { dst := some 184, op := Go.Op.unOp Go.UnOp.not 4 (Go.Operand.tmp 183), type := 4, pos := "law.go:52", after := #[{ on := 2, ground := Go.Ground.data }], guard := none }) (v := ?_) rfl (by kernel_rfl) (by kernel_rfl) (by kernel_rfl) (fun _ _ _ h => h) (Or.inl ⟨by rfl, ?_⟩) HXy1.out ?_); rotate_left
  · (intro w' hSw; obtain ⟨m0, m1, m2⟩ := map_cells (KM11.out.ext hSw); obtain ⟨r0, r1, r2⟩ := map_cells (KR11.out.ext hSw); go_simp; try with_reducible rfl)
  (try simp only [Act.put, List.setIfInBounds_toArray, List.set_cons_zero, List.set_cons_succ])
  (refine wpAnyH_take (i := 4) (oi := { dst := some 185, op := Go.Op.move (Go.Operand.tmp 184), type := 4, pos := "law.go:52", after := #[{ on := 3, ground := Go.Ground.data }, { on := 2, ground := Go.Ground.chain }], guard := none }) (v := ?_) rfl (by kernel_rfl) (by kernel_rfl) (by kernel_rfl) (fun _ _ _ h => h) (Or.inl ⟨by rfl, ?_⟩) HXy1.out ?_); rotate_left
  · (intro w' hSw; obtain ⟨m0, m1, m2⟩ := map_cells (KM11.out.ext hSw); obtain ⟨r0, r1, r2⟩ := map_cells (KR11.out.ext hSw); go_simp; try with_reducible rfl)
  (try simp only [Act.put, List.setIfInBounds_toArray, List.set_cons_zero, List.set_cons_succ])
  refine wpAnyH_take (i := 5) (oi := { dst := some 186, op := Go.Op.load 52 (Go.Operand.tmp 13), type := 52, pos := "law.go:52", after := #[{ on := 4, ground := Go.Ground.guard }], guard := some (4, false) }) (v := undef) rfl (by kernel_rfl) (by kernel_rfl) (by kernel_rfl) (fun _ _ _ h => h) (Or.inr ⟨by rfl, rfl⟩) HXy1.out ?_
  (try simp only [Act.put, List.setIfInBounds_toArray, List.set_cons_zero, List.set_cons_succ])
  refine wpAnyH_take (i := 6) (oi := { dst := some 187, op := Go.Op.move (Go.Operand.tmp 3), type := 3, pos := "law.go:52", after := #[{ on := 4, ground := Go.Ground.guard }], guard := some (4, false) }) (v := undef) rfl (by kernel_rfl) (by kernel_rfl) (by kernel_rfl) (fun _ _ _ h => h) (Or.inr ⟨by rfl, rfl⟩) HXy1.out ?_
  (try simp only [Act.put, List.setIfInBounds_toArray, List.set_cons_zero, List.set_cons_succ])
  refine wpAnyH_take (i := 7) (oi := { dst := some 188, op := Go.Op.call { callee := Go.Callee.value (Go.Operand.func 44), args := #[Go.Operand.tmp 186, Go.Operand.tmp 187], argTypes := #[52, 3] }, type := 66, pos := "law.go:52", after := #[{ on := 5, ground := Go.Ground.data }, { on := 6, ground := Go.Ground.data }, { on := 4, ground := Go.Ground.chain }, { on := 4, ground := Go.Ground.guard }], guard := some (4, false) }) (v := undef) rfl (by kernel_rfl) (by kernel_rfl) (by kernel_rfl) (fun _ _ _ h => h) (Or.inr ⟨by rfl, rfl⟩) HXy1.out ?_
  (try simp only [Act.put, List.setIfInBounds_toArray, List.set_cons_zero, List.set_cons_succ])
  refine wpAnyH_take (i := 8) (oi := { dst := some 189, op := Go.Op.load 60 (Go.Operand.tmp 15), type := 60, pos := "law.go:52", after := #[{ on := 4, ground := Go.Ground.guard }], guard := some (4, false) }) (v := undef) rfl (by kernel_rfl) (by kernel_rfl) (by kernel_rfl) (fun _ _ _ h => h) (Or.inr ⟨by rfl, rfl⟩) HXy1.out ?_
  (try simp only [Act.put, List.setIfInBounds_toArray, List.set_cons_zero, List.set_cons_succ])
  refine wpAnyH_take (i := 9) (oi := { dst := some 190, op := Go.Op.move (Go.Operand.tmp 3), type := 3, pos := "law.go:52", after := #[{ on := 4, ground := Go.Ground.guard }], guard := some (4, false) }) (v := undef) rfl (by kernel_rfl) (by kernel_rfl) (by kernel_rfl) (fun _ _ _ h => h) (Or.inr ⟨by rfl, rfl⟩) HXy1.out ?_
  (try simp only [Act.put, List.setIfInBounds_toArray, List.set_cons_zero, List.set_cons_succ])
  refine wpAnyH_take (i := 10) (oi := { dst := some 191, op := Go.Op.call { callee := Go.Callee.value (Go.Operand.func 47), args := #[Go.Operand.tmp 189, Go.Operand.tmp 190], argTypes := #[60, 3] }, type := 66, pos := "law.go:52", after := #[{ on := 8, ground := Go.Ground.data }, { on := 9, ground := Go.Ground.data }, { on := 7, ground := Go.Ground.chain }, { on := 4, ground := Go.Ground.guard }], guard := some (4, false) }) (v := undef) rfl (by kernel_rfl) (by kernel_rfl) (by kernel_rfl) (fun _ _ _ h => h) (Or.inr ⟨by rfl, rfl⟩) HXy1.out ?_
  (try simp only [Act.put, List.setIfInBounds_toArray, List.set_cons_zero, List.set_cons_succ])
  refine wpAnyH_take (i := 11) (oi := { dst := some 192, op := Go.Op.call { callee := Go.Callee.value (Go.Operand.func 46), args := #[Go.Operand.tmp 188, Go.Operand.tmp 191], argTypes := #[66, 66] }, type := 4, pos := "law.go:52", after := #[{ on := 7, ground := Go.Ground.data }, { on := 10, ground := Go.Ground.data }, { on := 10, ground := Go.Ground.chain }, { on := 4, ground := Go.Ground.guard }], guard := some (4, false) }) (v := undef) rfl (by kernel_rfl) (by kernel_rfl) (by kernel_rfl) (fun _ _ _ h => h) (Or.inr ⟨by rfl, rfl⟩) HXy1.out ?_
  (try simp only [Act.put, List.setIfInBounds_toArray, List.set_cons_zero, List.set_cons_succ])
  refine wpAnyH_take (i := 12) (oi := { dst := some 193, op := Go.Op.move (Go.Operand.tmp 192), type := 4, pos := "law.go:52", after := #[{ on := 11, ground := Go.Ground.data }, { on := 11, ground := Go.Ground.chain }, { on := 4, ground := Go.Ground.guard }], guard := some (4, false) }) (v := undef) rfl (by kernel_rfl) (by kernel_rfl) (by kernel_rfl) (fun _ _ _ h => h) (Or.inr ⟨by rfl, rfl⟩) HXy1.out ?_
  (try simp only [Act.put, List.setIfInBounds_toArray, List.set_cons_zero, List.set_cons_succ])
  refine wpAnyH_take (i := 13) (oi := { dst := some 194, op := Go.Op.load 52 (Go.Operand.tmp 13), type := 52, pos := "law.go:52", after := #[{ on := 12, ground := Go.Ground.guard }], guard := some (12, true) }) (v := undef) rfl (by kernel_rfl) (by kernel_rfl) (by kernel_rfl) (fun _ _ _ h => h) (Or.inr ⟨by rfl, rfl⟩) HXy1.out ?_
  (try simp only [Act.put, List.setIfInBounds_toArray, List.set_cons_zero, List.set_cons_succ])
  refine wpAnyH_take (i := 14) (oi := { dst := some 195, op := Go.Op.move (Go.Operand.tmp 3), type := 3, pos := "law.go:52", after := #[{ on := 12, ground := Go.Ground.guard }], guard := some (12, true) }) (v := undef) rfl (by kernel_rfl) (by kernel_rfl) (by kernel_rfl) (fun _ _ _ h => h) (Or.inr ⟨by rfl, rfl⟩) HXy1.out ?_
  (try simp only [Act.put, List.setIfInBounds_toArray, List.set_cons_zero, List.set_cons_succ])
  refine wpAnyH_take (i := 15) (oi := { dst := some 196, op := Go.Op.move (Go.Operand.tmp 5), type := 3, pos := "law.go:52", after := #[{ on := 12, ground := Go.Ground.guard }], guard := some (12, true) }) (v := undef) rfl (by kernel_rfl) (by kernel_rfl) (by kernel_rfl) (fun _ _ _ h => h) (Or.inr ⟨by rfl, rfl⟩) HXy1.out ?_
  (try simp only [Act.put, List.setIfInBounds_toArray, List.set_cons_zero, List.set_cons_succ])
  refine wpAnyH_take (i := 16) (oi := { dst := some 197, op := Go.Op.call { callee := Go.Callee.value (Go.Operand.func 45), args := #[Go.Operand.tmp 194, Go.Operand.tmp 195, Go.Operand.tmp 196], argTypes := #[52, 3, 3] }, type := 66, pos := "law.go:52", after := #[{ on := 13, ground := Go.Ground.data }, { on := 14, ground := Go.Ground.data }, { on := 15, ground := Go.Ground.data }, { on := 12, ground := Go.Ground.chain }, { on := 12, ground := Go.Ground.guard }], guard := some (12, true) }) (v := undef) rfl (by kernel_rfl) (by kernel_rfl) (by kernel_rfl) (fun _ _ _ h => h) (Or.inr ⟨by rfl, rfl⟩) HXy1.out ?_
  (try simp only [Act.put, List.setIfInBounds_toArray, List.set_cons_zero, List.set_cons_succ])
  refine wpAnyH_take (i := 17) (oi := { dst := some 198, op := Go.Op.load 60 (Go.Operand.tmp 15), type := 60, pos := "law.go:52", after := #[{ on := 12, ground := Go.Ground.guard }], guard := some (12, true) }) (v := undef) rfl (by kernel_rfl) (by kernel_rfl) (by kernel_rfl) (fun _ _ _ h => h) (Or.inr ⟨by rfl, rfl⟩) HXy1.out ?_
  (try simp only [Act.put, List.setIfInBounds_toArray, List.set_cons_zero, List.set_cons_succ])
  refine wpAnyH_take (i := 18) (oi := { dst := some 199, op := Go.Op.move (Go.Operand.tmp 3), type := 3, pos := "law.go:52", after := #[{ on := 12, ground := Go.Ground.guard }], guard := some (12, true) }) (v := undef) rfl (by kernel_rfl) (by kernel_rfl) (by kernel_rfl) (fun _ _ _ h => h) (Or.inr ⟨by rfl, rfl⟩) HXy1.out ?_
  (try simp only [Act.put, List.setIfInBounds_toArray, List.set_cons_zero, List.set_cons_succ])
  refine wpAnyH_take (i := 19) (oi := { dst := some 200, op := Go.Op.move (Go.Operand.tmp 5), type := 3, pos := "law.go:52", after := #[{ on := 12, ground := Go.Ground.guard }], guard := some (12, true) }) (v := undef) rfl (by kernel_rfl) (by kernel_rfl) (by kernel_rfl) (fun _ _ _ h => h) (Or.inr ⟨by rfl, rfl⟩) HXy1.out ?_
  (try simp only [Act.put, List.setIfInBounds_toArray, List.set_cons_zero, List.set_cons_succ])
  refine wpAnyH_take (i := 20) (oi := { dst := some 201, op := Go.Op.call { callee := Go.Callee.value (Go.Operand.func 48), args := #[Go.Operand.tmp 198, Go.Operand.tmp 199, Go.Operand.tmp 200], argTypes := #[60, 3, 3] }, type := 66, pos := "law.go:52", after := #[{ on := 17, ground := Go.Ground.data }, { on := 18, ground := Go.Ground.data }, { on := 19, ground := Go.Ground.data }, { on := 16, ground := Go.Ground.chain }, { on := 12, ground := Go.Ground.guard }], guard := some (12, true) }) (v := undef) rfl (by kernel_rfl) (by kernel_rfl) (by kernel_rfl) (fun _ _ _ h => h) (Or.inr ⟨by rfl, rfl⟩) HXy1.out ?_
  (try simp only [Act.put, List.setIfInBounds_toArray, List.set_cons_zero, List.set_cons_succ])
  refine wpAnyH_take (i := 21) (oi := { dst := some 202, op := Go.Op.call { callee := Go.Callee.value (Go.Operand.func 46), args := #[Go.Operand.tmp 197, Go.Operand.tmp 201], argTypes := #[66, 66] }, type := 4, pos := "law.go:52", after := #[{ on := 16, ground := Go.Ground.data }, { on := 20, ground := Go.Ground.data }, { on := 20, ground := Go.Ground.chain }, { on := 12, ground := Go.Ground.guard }], guard := some (12, true) }) (v := undef) rfl (by kernel_rfl) (by kernel_rfl) (by kernel_rfl) (fun _ _ _ h => h) (Or.inr ⟨by rfl, rfl⟩) HXy1.out ?_
  (try simp only [Act.put, List.setIfInBounds_toArray, List.set_cons_zero, List.set_cons_succ])
  refine wpAnyH_take (i := 22) (oi := { dst := some 203, op := Go.Op.pick (Go.Operand.tmp 193) (Go.Operand.tmp 202) (Go.Operand.const (Go.Value.bool false)), type := 4, pos := "law.go:52", after := #[{ on := 12, ground := Go.Ground.data }, { on := 21, ground := Go.Ground.data }, { on := 4, ground := Go.Ground.guard }], guard := some (4, false) }) (v := undef) rfl (by kernel_rfl) (by kernel_rfl) (by kernel_rfl) (fun _ _ _ h => h) (Or.inr ⟨by rfl, rfl⟩) HXy1.out ?_
  (try simp only [Act.put, List.setIfInBounds_toArray, List.set_cons_zero, List.set_cons_succ])
  (refine wpAnyH_take (i := 23) (oi := { dst := some 204, op := Go.Op.pick (Go.Operand.tmp 185) (Go.Operand.const (Go.Value.bool true)) (Go.Operand.tmp 203), type := 4, pos := "law.go:52", after := #[{ on := 4, ground := Go.Ground.data }, { on := 22, ground := Go.Ground.data }], guard := none }) (v := ?_) rfl (by kernel_rfl) (by kernel_rfl) (by kernel_rfl) (fun _ _ _ h => h) (Or.inl ⟨by rfl, ?_⟩) HXy1.out ?_); rotate_left
  · (intro w' hSw; obtain ⟨m0, m1, m2⟩ := map_cells (KM11.out.ext hSw); obtain ⟨r0, r1, r2⟩ := map_cells (KR11.out.ext hSw); go_simp; try with_reducible rfl)
  (try simp only [Act.put, List.setIfInBounds_toArray, List.set_cons_zero, List.set_cons_succ])
  (refine wpAnyH_take (i := 24) (oi := { dst := some 205, op := Go.Op.move (Go.Operand.tmp 204), type := 4, pos := "law.go:52", after := #[{ on := 23, ground := Go.Ground.data }, { on := 21, ground := Go.Ground.chain }], guard := none }) (v := ?_) rfl (by kernel_rfl) (by kernel_rfl) (by kernel_rfl) (fun _ _ _ h => h) (Or.inl ⟨by rfl, ?_⟩) HXy1.out ?_); rotate_left
  · (intro w' hSw; obtain ⟨m0, m1, m2⟩ := map_cells (KM11.out.ext hSw); obtain ⟨r0, r1, r2⟩ := map_cells (KR11.out.ext hSw); go_simp; try with_reducible rfl)
  (try simp only [Act.put, List.setIfInBounds_toArray, List.set_cons_zero, List.set_cons_succ])
  refine wpAnyH_ready (rs := [25]) (by kernel_rfl) (by simp) ?_
  refine AllReadyH.cons (o := { dst := some 206, op := Go.Op.call { callee := Go.Callee.value (Go.Operand.func 31), args := #[], argTypes := #[] }, type := 4, pos := "law.go:52", after := #[{ on := 24, ground := Go.Ground.chain }, { on := 24, ground := Go.Ground.guard }], guard := some (24, true) }) rfl (fun K hK => ?_) AllReadyH.nil
  go_simp
  refine (wakes _).mono ?_
  rintro e y2 ⟨rfl, b9⟩
  have HXy2 := Lib.hid (show SE w11 y2 from ext_trans HXy1.out b9)
  clear b9
  (try go_wp2_with fail)
  refine hK.out _ _ HXy2.out (fun _ => ?_)
  clear hK K
  (try simp only [Act.put, List.setIfInBounds_toArray, List.set_cons_zero, List.set_cons_succ])
  (refine wpAnyH_take (i := 26) (oi := { dst := some 207, op := Go.Op.pick (Go.Operand.tmp 205) (Go.Operand.tmp 206) (Go.Operand.const (Go.Value.bool false)), type := 4, pos := "law.go:52", after := #[{ on := 24, ground := Go.Ground.data }, { on := 25, ground := Go.Ground.data }], guard := none }) (v := ?_) rfl (by kernel_rfl) (by kernel_rfl) (by kernel_rfl) (fun _ _ _ h => h) (Or.inl ⟨by rfl, ?_⟩) HXy2.out ?_); rotate_left
  · (intro w' hSw; obtain ⟨m0, m1, m2⟩ := map_cells (KM11.out.ext hSw); obtain ⟨r0, r1, r2⟩ := map_cells (KR11.out.ext hSw); go_simp; try with_reducible rfl)
  (try simp only [Act.put, List.setIfInBounds_toArray, List.set_cons_zero, List.set_cons_succ])
  (refine wpAnyH_take (i := 27) (oi := { dst := some 12, op := Go.Op.assign (Go.Operand.tmp 207), type := 4, pos := "law.go:52", after := #[{ on := 26, ground := Go.Ground.data }, { on := 25, ground := Go.Ground.chain }, { on := 0, ground := Go.Ground.phase }, { on := 1, ground := Go.Ground.phase }, { on := 2, ground := Go.Ground.phase }, { on := 3, ground := Go.Ground.phase }, { on := 4, ground := Go.Ground.phase }, { on := 5, ground := Go.Ground.phase }, { on := 6, ground := Go.Ground.phase }, { on := 7, ground := Go.Ground.phase }, { on := 8, ground := Go.Ground.phase }, { on := 9, ground := Go.Ground.phase }, { on := 10, ground := Go.Ground.phase }, { on := 11, ground := Go.Ground.phase }, { on := 12, ground := Go.Ground.phase }, { on := 13, ground := Go.Ground.phase }, { on := 14, ground := Go.Ground.phase }, { on := 15, ground := Go.Ground.phase }, { on := 16, ground := Go.Ground.phase }, { on := 17, ground := Go.Ground.phase }, { on := 18, ground := Go.Ground.phase }, { on := 19, ground := Go.Ground.phase }, { on := 20, ground := Go.Ground.phase }, { on := 21, ground := Go.Ground.phase }, { on := 22, ground := Go.Ground.phase }, { on := 23, ground := Go.Ground.phase }, { on := 24, ground := Go.Ground.phase }, { on := 25, ground := Go.Ground.phase }, { on := 26, ground := Go.Ground.phase }], guard := none }) (v := ?_) rfl (by kernel_rfl) (by kernel_rfl) (by kernel_rfl) (fun _ _ _ h => h) (Or.inl ⟨by rfl, ?_⟩) HXy2.out ?_); rotate_left
  · (intro w' hSw; obtain ⟨m0, m1, m2⟩ := map_cells (KM11.out.ext hSw); obtain ⟨r0, r1, r2⟩ := map_cells (KR11.out.ext hSw); go_simp; try with_reducible rfl)
  (try simp only [Act.put, List.setIfInBounds_toArray, List.set_cons_zero, List.set_cons_succ])
  refine wpAnyH_done (by kernel_rfl) ?_ _
  go_wp2_with fail
  go_ret
  exact ⟨rfl, ext_trans HE11.out HXy2.out⟩
end Go.Proofs.Ytdbjknljdplinaa.Grid
