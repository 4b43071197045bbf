/- Any bytes, put: the law's own region, walked. -/
import Derived.Test.YtckjmabacibojaaDoorGJ
namespace Go.Proofs.YtckjmabacibojaaDoor.Chk
open Go.ChangeShapes Go.WideShapes Go.ChangeAt Go.RowKit
open Go.Proofs.YtckjmabacibojaaDoor.Wire
set_option linter.unusedVariables false

set_option maxHeartbeats 8000000 in
set_option maxRecDepth 100000 in
theorem puts (A A2 : Option Addr) (n c n2 c2 kind : Nat) (xs ys : List Nat) (w : World) (hT : Crc.Tab w) (hk : kind < 256) (hB : Bs w A n xs) (hnil : A = none → n = 0 ∧ c = 0) (hn : n ≤ c) (hc : c ≤ 9223372036854775807) (hN : n ≤ 2000)
    (hB2 : Bs w A2 n2 ys) (hn2 : n2 ≤ c2) (hc2 : c2 ≤ 9223372036854775807) (hN2 : n2 ≤ 2000) :
    Calls Tryd.prog 3 #[.slice A n c, .slice A2 n2 c2, .int .u8 (kind : Int)] w fun e w' => e = .returned (.bool true) ∧ Ext w w' := by
  have HP := Lib.hid (fun W hT hB hB2 => put A A2 n c n2 c2 kind xs ys W hT hk hB hnil hn hc (by omega) hB2 hn2 hc2 (by omega))
  have hyl : ys.length = n2 := hB2.1
  have hxl : xs.length = n := hB.1
  have hcl := chunk_short kind (xs := ys) (by omega)
  have HZS : Hid (∀ j, (xs ++ chunk kind ys).getD j 0 < 256) := Lib.hid (small_app hB.2.1 (small_mem (chunk_small hk hB2.2.1)))
  obtain ⟨S0, hS0⟩ : ∃ S, S = strOf xs := ⟨_, rfl⟩
  obtain ⟨S1, hS1⟩ : ∃ S, S = strOf (chunk kind ys) := ⟨_, rfl⟩
  obtain ⟨S2, hS2⟩ : ∃ S, S = strOf ys := ⟨_, rfl⟩
  have HR : Hid (∀ W, Calls Tryd.prog 8 #[.int .u8 (kind : Int), .string S2] W fun e w' => e = .returned (.string S1) ∧ Ext W w') := Lib.hid (fun W => by
    have h := refPutC kind hk S2 W (by rw [hS2, strOf_size]; omega)
    rw [hS2, nats_strOf hB2.2.1, ← hS1, ← hS2] at h
    exact h)
  have hq : ¬ 9223372036854775807 < S0.size + S1.size := by rw [hS0, hS1, strOf_size, strOf_size]; omega
  have HSS : Hid (strOf (xs ++ chunk kind ys) = S0 ++ S1) := Lib.hid (by rw [strOf_app, hS0, hS1])
  have HS0 := Lib.hid hS0; have HS2 := Lib.hid hS2
  have HT := Lib.hid hT; have HB := Lib.hid hB; have HB2 := Lib.hid hB2
  have hcv0 : (convert 22 9 (.slice A n c)).run Tryd.prog w = .ok (.string S0) w := by rw [hS0]; exact Com.conv8 hB c
  clear hT hB hB2 hS0 hS1 hS2 hnil hcl
  go_enter Tryd.func3, Tryd.ntmps3
  go_wp2_with fail
  refine (HP.out _ HT.out HB.out HB2.out).mono ?_
  rintro e w1 ⟨A1, c1, rfl, hO, hE⟩
  obtain ⟨Z, hZ⟩ : ∃ Z, Z = xs ++ chunk kind ys := ⟨_, rfl⟩
  rw [← hZ] at hO HZS HSS ⊢
  have hBZ := Wire.Own.bs hO HZS.out
  generalize Z.length = nz at *
  have HE := Lib.hid hE
  have HCA : Hid (∀ w', Ext w1 w' → (convert 22 9 (.slice A1 nz c1)).run Tryd.prog w' = .ok (.string (S0 ++ S1)) w') := Lib.hid (fun w' h => by rw [← HSS.out]; exact Com.conv8 (hBZ.ext h) c1)
  have HCB : Hid (∀ w', Ext w1 w' → (convert 22 9 (.slice A2 n2 c2)).run Tryd.prog w' = .ok (.string S2) w') := Lib.hid (fun w' h => by rw [HS2.out]; exact Com.conv8 (HB2.out.ext (ext_trans HE.out h)) c2)
  have HCC : Hid (∀ w', Ext w1 w' → (convert 22 9 (.slice A n c)).run Tryd.prog w' = .ok (.string S0) w') := Lib.hid (fun w' h => by rw [HS0.out]; exact Com.conv8 (HB.out.ext (ext_trans HE.out h)) c)
  clear hO hE hBZ hcv0 hZ
  go_upto_region 5 with fail
  have HX := Lib.hid (show SE w1 w1.drew from ext_drew (Ext.rfl' w1))
  refine wp_region_held_drew (S := SE w1) hmxF HX.out (fun _ => ?_)
  generalize w1.drew = WA at *
  (refine wpAnyH_take (i := 0) (oi := { dst := some 24, op := Go.Op.move (Go.Operand.tmp 8), type := 22, pos := "law.go:30", after := #[], guard := none }) (v := ?_) rfl (by kernel_rfl) (by kernel_rfl) (by kernel_rfl) (fun _ _ _ h => h) (Or.inl ⟨by rfl, ?_⟩) HX.out ?_); rotate_left
  · (intro w' hSw; have q1 := HCA.out w' hSw; have q2 := HCB.out w' hSw; have q3 := HCC.out w' hSw; go_simp; try with_reducible rfl)
  (try simp only [Act.put, List.setIfInBounds_toArray, List.set_cons_zero, List.set_cons_succ])
  (refine wpAnyH_take (i := 1) (oi := { dst := some 25, op := Go.Op.convert 22 9 (Go.Operand.tmp 24), type := 9, pos := "law.go:30", after := #[{ on := 0, ground := Go.Ground.data }], guard := none }) (v := ?_) rfl (by kernel_rfl) (by kernel_rfl) (by kernel_rfl) (fun _ _ _ h => h) (Or.inl ⟨by rfl, ?_⟩) HX.out ?_); rotate_left
  · (intro w' hSw; have q1 := HCA.out w' hSw; have q2 := HCB.out w' hSw; have q3 := HCC.out w' hSw; go_simp; try with_reducible rfl)
  (try simp only [Act.put, List.setIfInBounds_toArray, List.set_cons_zero, List.set_cons_succ])
  (refine wpAnyH_take (i := 2) (oi := { dst := some 26, op := Go.Op.move (Go.Operand.tmp 7), type := 9, pos := "law.go:30", after := #[], guard := none }) (v := ?_) rfl (by kernel_rfl) (by kernel_rfl) (by kernel_rfl) (fun _ _ _ h => h) (Or.inl ⟨by rfl, ?_⟩) HX.out ?_); rotate_left
  · (intro w' hSw; have q1 := HCA.out w' hSw; have q2 := HCB.out w' hSw; have q3 := HCC.out w' hSw; go_simp; try with_reducible rfl)
  (try simp only [Act.put, List.setIfInBounds_toArray, List.set_cons_zero, List.set_cons_succ])
  (refine wpAnyH_take (i := 3) (oi := { dst := some 27, op := Go.Op.move (Go.Operand.tmp 2), type := 5, pos := "law.go:30", after := #[], guard := none }) (v := ?_) rfl (by kernel_rfl) (by kernel_rfl) (by kernel_rfl) (fun _ _ _ h => h) (Or.inl ⟨by rfl, ?_⟩) HX.out ?_); rotate_left
  · (intro w' hSw; have q1 := HCA.out w' hSw; have q2 := HCB.out w' hSw; have q3 := HCC.out w' hSw; go_simp; try with_reducible rfl)
  (try simp only [Act.put, List.setIfInBounds_toArray, List.set_cons_zero, List.set_cons_succ])
  (refine wpAnyH_take (i := 4) (oi := { dst := some 28, op := Go.Op.move (Go.Operand.tmp 1), type := 22, pos := "law.go:30", after := #[], guard := none }) (v := ?_) rfl (by kernel_rfl) (by kernel_rfl) (by kernel_rfl) (fun _ _ _ h => h) (Or.inl ⟨by rfl, ?_⟩) HX.out ?_); rotate_left
  · (intro w' hSw; have q1 := HCA.out w' hSw; have q2 := HCB.out w' hSw; have q3 := HCC.out w' hSw; go_simp; try with_reducible rfl)
  (try simp only [Act.put, List.setIfInBounds_toArray, List.set_cons_zero, List.set_cons_succ])
  (refine wpAnyH_take (i := 5) (oi := { dst := some 29, op := Go.Op.convert 22 9 (Go.Operand.tmp 28), type := 9, pos := "law.go:30", after := #[{ on := 4, ground := Go.Ground.data }], guard := none }) (v := ?_) rfl (by kernel_rfl) (by kernel_rfl) (by kernel_rfl) (fun _ _ _ h => h) (Or.inl ⟨by rfl, ?_⟩) HX.out ?_); rotate_left
  · (intro w' hSw; have q1 := HCA.out w' hSw; have q2 := HCB.out w' hSw; have q3 := HCC.out w' hSw; go_simp; try with_reducible rfl)
  (try simp only [Act.put, List.setIfInBounds_toArray, List.set_cons_zero, List.set_cons_succ])
  refine wpAnyH_ready (rs := [6]) (by kernel_rfl) (by simp) ?_
  refine AllReadyH.cons (o := { dst := some 30, op := Go.Op.call { callee := Go.Callee.value (Go.Operand.func 8), args := #[Go.Operand.tmp 27, Go.Operand.tmp 29], argTypes := #[5, 9] }, type := 9, pos := "law.go:30", after := #[{ on := 3, ground := Go.Ground.data }, { on := 5, ground := Go.Ground.data }], guard := none }) (by kernel_rfl) (fun K hK => ?_) AllReadyH.nil
  go_simp
  refine (HR.out _).mono ?_
  rintro e WA ⟨rfl, hE⟩
  have HX := Lib.hid (show SE w1 WA from ext_trans HX.out hE)
  clear hE
  (try go_wp2_with fail)
  refine hK.out _ _ HX.out (fun _ => ?_)
  clear hK K
  (try simp only [Act.put, List.setIfInBounds_toArray, List.set_cons_zero, List.set_cons_succ])
  (refine wpAnyH_take (i := 7) (oi := { dst := some 31, op := Go.Op.binOp Go.BinOp.add 9 (Go.Operand.tmp 26) (Go.Operand.tmp 30) 9, type := 9, pos := "law.go:30", after := #[{ on := 2, ground := Go.Ground.data }, { on := 6, ground := Go.Ground.data }], guard := none }) (v := ?_) rfl (by kernel_rfl) (by kernel_rfl) (by kernel_rfl) (fun _ _ _ h => h) (Or.inl ⟨by rfl, ?_⟩) HX.out ?_); rotate_left
  · (intro w' hSw; have q1 := HCA.out w' hSw; have q2 := HCB.out w' hSw; have q3 := HCC.out w' hSw; go_simp; try with_reducible rfl)
  (try simp only [Act.put, List.setIfInBounds_toArray, List.set_cons_zero, List.set_cons_succ])
  (refine wpAnyH_take (i := 8) (oi := { dst := some 32, op := Go.Op.binOp Go.BinOp.eql 9 (Go.Operand.tmp 25) (Go.Operand.tmp 31) 9, type := 4, pos := "law.go:30", after := #[{ on := 1, ground := Go.Ground.data }, { on := 7, ground := Go.Ground.data }], guard := none }) (v := ?_) rfl (by kernel_rfl) (by kernel_rfl) (by kernel_rfl) (fun _ _ _ h => h) (Or.inl ⟨by rfl, ?_⟩) HX.out ?_); rotate_left
  · (intro w' hSw; have q1 := HCA.out w' hSw; have q2 := HCB.out w' hSw; have q3 := HCC.out w' hSw; go_simp; try with_reducible rfl)
  (try simp only [Act.put, List.setIfInBounds_toArray, List.set_cons_zero, List.set_cons_succ])
  (refine wpAnyH_take (i := 9) (oi := { dst := some 33, op := Go.Op.move (Go.Operand.tmp 32), type := 4, pos := "law.go:30", after := #[{ on := 8, ground := Go.Ground.data }, { on := 6, ground := Go.Ground.chain }], guard := none }) (v := ?_) rfl (by kernel_rfl) (by kernel_rfl) (by kernel_rfl) (fun _ _ _ h => h) (Or.inl ⟨by rfl, ?_⟩) HX.out ?_); rotate_left
  · (intro w' hSw; have q1 := HCA.out w' hSw; have q2 := HCB.out w' hSw; have q3 := HCC.out w' hSw; go_simp; try with_reducible rfl)
  (try simp only [Act.put, List.setIfInBounds_toArray, List.set_cons_zero, List.set_cons_succ])
  (refine wpAnyH_take (i := 10) (oi := { dst := some 34, op := Go.Op.move (Go.Operand.tmp 0), type := 22, pos := "law.go:30", after := #[{ on := 9, ground := Go.Ground.guard }], guard := some (9, true) }) (v := ?_) rfl (by kernel_rfl) (by kernel_rfl) (by kernel_rfl) (fun _ _ _ h => h) (Or.inl ⟨by rfl, ?_⟩) HX.out ?_); rotate_left
  · (intro w' hSw; have q1 := HCA.out w' hSw; have q2 := HCB.out w' hSw; have q3 := HCC.out w' hSw; go_simp; try with_reducible rfl)
  (try simp only [Act.put, List.setIfInBounds_toArray, List.set_cons_zero, List.set_cons_succ])
  (refine wpAnyH_take (i := 11) (oi := { dst := some 35, op := Go.Op.convert 22 9 (Go.Operand.tmp 34), type := 9, pos := "law.go:30", after := #[{ on := 10, ground := Go.Ground.data }, { on := 9, ground := Go.Ground.guard }], guard := some (9, true) }) (v := ?_) rfl (by kernel_rfl) (by kernel_rfl) (by kernel_rfl) (fun _ _ _ h => h) (Or.inl ⟨by rfl, ?_⟩) HX.out ?_); rotate_left
  · (intro w' hSw; have q1 := HCA.out w' hSw; have q2 := HCB.out w' hSw; have q3 := HCC.out w' hSw; go_simp; try with_reducible rfl)
  (try simp only [Act.put, List.setIfInBounds_toArray, List.set_cons_zero, List.set_cons_succ])
  (refine wpAnyH_take (i := 12) (oi := { dst := some 36, op := Go.Op.move (Go.Operand.tmp 7), type := 9, pos := "law.go:30", after := #[{ on := 9, ground := Go.Ground.guard }], guard := some (9, true) }) (v := ?_) rfl (by kernel_rfl) (by kernel_rfl) (by kernel_rfl) (fun _ _ _ h => h) (Or.inl ⟨by rfl, ?_⟩) HX.out ?_); rotate_left
  · (intro w' hSw; have q1 := HCA.out w' hSw; have q2 := HCB.out w' hSw; have q3 := HCC.out w' hSw; go_simp; try with_reducible rfl)
  (try simp only [Act.put, List.setIfInBounds_toArray, List.set_cons_zero, List.set_cons_succ])
  (refine wpAnyH_take (i := 13) (oi := { dst := some 37, op := Go.Op.binOp Go.BinOp.eql 9 (Go.Operand.tmp 35) (Go.Operand.tmp 36) 9, type := 4, pos := "law.go:30", after := #[{ on := 11, ground := Go.Ground.data }, { on := 12, ground := Go.Ground.data }, { on := 9, ground := Go.Ground.guard }], guard := some (9, true) }) (v := ?_) rfl (by kernel_rfl) (by kernel_rfl) (by kernel_rfl) (fun _ _ _ h => h) (Or.inl ⟨by rfl, ?_⟩) HX.out ?_); rotate_left
  · (intro w' hSw; have q1 := HCA.out w' hSw; have q2 := HCB.out w' hSw; have q3 := HCC.out w' hSw; go_simp; try with_reducible rfl)
  (try simp only [Act.put, List.setIfInBounds_toArray, List.set_cons_zero, List.set_cons_succ])
  (refine wpAnyH_take (i := 14) (oi := { dst := some 38, op := Go.Op.pick (Go.Operand.tmp 33) (Go.Operand.tmp 37) (Go.Operand.const (Go.Value.bool false)), type := 4, pos := "law.go:30", after := #[{ on := 9, ground := Go.Ground.data }, { on := 13, ground := Go.Ground.data }], guard := none }) (v := ?_) rfl (by kernel_rfl) (by kernel_rfl) (by kernel_rfl) (fun _ _ _ h => h) (Or.inl ⟨by rfl, ?_⟩) HX.out ?_); rotate_left
  · (intro w' hSw; have q1 := HCA.out w' hSw; have q2 := HCB.out w' hSw; have q3 := HCC.out w' hSw; go_simp; try with_reducible rfl)
  (try simp only [Act.put, List.setIfInBounds_toArray, List.set_cons_zero, List.set_cons_succ])
  (refine wpAnyH_take (i := 15) (oi := { dst := some 39, op := Go.Op.move (Go.Operand.tmp 38), type := 4, pos := "law.go:30", after := #[{ on := 14, ground := Go.Ground.data }, { on := 9, ground := Go.Ground.chain }], guard := none }) (v := ?_) rfl (by kernel_rfl) (by kernel_rfl) (by kernel_rfl) (fun _ _ _ h => h) (Or.inl ⟨by rfl, ?_⟩) HX.out ?_); rotate_left
  · (intro w' hSw; have q1 := HCA.out w' hSw; have q2 := HCB.out w' hSw; have q3 := HCC.out w' hSw; go_simp; try with_reducible rfl)
  (try simp only [Act.put, List.setIfInBounds_toArray, List.set_cons_zero, List.set_cons_succ])
  refine wpAnyH_ready (rs := [16]) (by kernel_rfl) (by simp) ?_
  refine AllReadyH.cons (o := { dst := some 40, op := Go.Op.call { callee := Go.Callee.value (Go.Operand.func 6), args := #[], argTypes := #[] }, type := 4, pos := "law.go:30", after := #[{ on := 15, ground := Go.Ground.chain }, { on := 15, ground := Go.Ground.guard }], guard := some (15, true) }) (by kernel_rfl) (fun K hK => ?_) AllReadyH.nil
  go_simp
  refine (wakes _ (HT.out.ext (ext_trans HE.out HX.out))).mono ?_
  rintro e WA ⟨rfl, hE⟩
  have HX := Lib.hid (show SE w1 WA from ext_trans HX.out hE)
  clear hE
  (try go_wp2_with fail)
  refine hK.out _ _ HX.out (fun _ => ?_)
  clear hK K
  (try simp only [Act.put, List.setIfInBounds_toArray, List.set_cons_zero, List.set_cons_succ])
  (refine wpAnyH_take (i := 17) (oi := { dst := some 41, op := Go.Op.pick (Go.Operand.tmp 39) (Go.Operand.tmp 40) (Go.Operand.const (Go.Value.bool false)), type := 4, pos := "law.go:30", after := #[{ on := 15, ground := Go.Ground.data }, { on := 16, ground := Go.Ground.data }], guard := none }) (v := ?_) rfl (by kernel_rfl) (by kernel_rfl) (by kernel_rfl) (fun _ _ _ h => h) (Or.inl ⟨by rfl, ?_⟩) HX.out ?_); rotate_left
  · (intro w' hSw; have q1 := HCA.out w' hSw; have q2 := HCB.out w' hSw; have q3 := HCC.out w' hSw; go_simp; try with_reducible rfl)
  (try simp only [Act.put, List.setIfInBounds_toArray, List.set_cons_zero, List.set_cons_succ])
  (refine wpAnyH_take (i := 18) (oi := { dst := some 6, op := Go.Op.assign (Go.Operand.tmp 41), type := 4, pos := "law.go:30", after := #[{ on := 17, ground := Go.Ground.data }, { on := 16, ground := Go.Ground.chain }, { on := 0, ground := Go.Ground.phase }, { on := 1, ground := Go.Ground.phase }, { on := 2, ground := Go.Ground.phase }, { on := 3, ground := Go.Ground.phase }, { on := 4, ground := Go.Ground.phase }, { on := 5, ground := Go.Ground.phase }, { on := 6, ground := Go.Ground.phase }, { on := 7, ground := Go.Ground.phase }, { on := 8, ground := Go.Ground.phase }, { on := 9, ground := Go.Ground.phase }, { on := 10, ground := Go.Ground.phase }, { on := 11, ground := Go.Ground.phase }, { on := 12, ground := Go.Ground.phase }, { on := 13, ground := Go.Ground.phase }, { on := 14, ground := Go.Ground.phase }, { on := 15, ground := Go.Ground.phase }, { on := 16, ground := Go.Ground.phase }, { on := 17, ground := Go.Ground.phase }], guard := none }) (v := ?_) rfl (by kernel_rfl) (by kernel_rfl) (by kernel_rfl) (fun _ _ _ h => h) (Or.inl ⟨by rfl, ?_⟩) HX.out ?_); rotate_left
  · (intro w' hSw; have q1 := HCA.out w' hSw; have q2 := HCB.out w' hSw; have q3 := HCC.out w' hSw; go_simp; try with_reducible rfl)
  (try simp only [Act.put, List.setIfInBounds_toArray, List.set_cons_zero, List.set_cons_succ])
  refine wpAnyH_done (by kernel_rfl) ?_ _
  go_wp2_with fail
  go_ret
  exact ⟨rfl, ext_trans HE.out HX.out⟩
theorem puts_all (A A2 : Option Addr) (n c n2 c2 kind : Nat) (xs ys : List Nat) (w : World) (hT : Crc.Tab w) (hk : kind < 256) (hB : Bs w A n xs) (hnil : A = none → n = 0 ∧ c = 0) (hn : n ≤ c) (hc : c ≤ 9223372036854775807)
    (hB2 : Bs w A2 n2 ys) (hn2 : n2 ≤ c2) (hc2 : c2 ≤ 9223372036854775807) :
    Calls Tryd.prog 3 #[.slice A n c, .slice A2 n2 c2, .int .u8 (kind : Int)] w fun e w' => e = .returned (.bool true) ∧ Ext w w' := by
  by_cases hN : n ≤ 2000
  · by_cases hN2 : n2 ≤ 2000
    · exact puts A A2 n c n2 c2 kind xs ys w hT hk hB hnil hn hc hN hB2 hn2 hc2 hN2
    · have H := Lib.hid hT; clear hT hB hB2 hnil
      go_enter Tryd.func3, Tryd.ntmps3
      go_wp2_with fail
      refine (wakes _ H.out).mono ?_
      rintro e w1 ⟨rfl, b1⟩
      go_wp2_with fail
      go_ret
      exact ⟨rfl, b1⟩
  · have H := Lib.hid hT; clear hT hB hB2 hnil
    by_cases hN2 : n2 ≤ 2000
    all_goals
      go_enter Tryd.func3, Tryd.ntmps3
      go_wp2_with fail
      refine (wakes _ H.out).mono ?_
      rintro e w1 ⟨rfl, b1⟩
      go_wp2_with fail
      go_ret
      exact ⟨rfl, b1⟩
end Go.Proofs.YtckjmabacibojaaDoor.Chk
