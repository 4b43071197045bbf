/- The walk of the law: what is put are the document's bytes. -/
import Derived.Test.YtodmjkhfckokhaaWireRef
import Derived.Deep.RegionHeld3
namespace Go.Proofs.Ytodmjkhfckokhaa.Wire
open Go.ChangeShapes Go.WideShapes Go.ChangeAt Go.RowKit
set_option linter.unusedVariables false

theorem own_nil_ok {w : World} {base : Nat} {e : TypeId} {size n : Nat} {A : Option Addr} {c : Nat} {xs : List Value} (h : w.ownsRow base e size (.slice A n c) n xs) : A = none → n = 0 ∧ c = 0 := fun e0 => by
  subst e0
  rcases h.2 with ⟨hq, hz⟩ | ⟨g, cap, cur, hq, _⟩
  · obtain ⟨_, _, rfl⟩ := Value.slice.inj hq; exact ⟨hz, rfl⟩
  · simp at hq
theorem xor1 (n : Nat) (h : n < 18446744073709551616) : ∃ m : Nat, m < 18446744073709551616 ∧ bits .xor .u64 (n : Int) 1 = (m : Int) :=
  ⟨(BitVec.ofNat 64 n ^^^ BitVec.ofNat 64 1).toNat, (BitVec.ofNat 64 n ^^^ BitVec.ofNat 64 1).isLt, xor64 n 1⟩
theorem tight {w : World} {A : Option Addr} {n c : Nat} {zs : List Nat} {S : ByteArray} (h : Bs w A n zs) (hS : strOf zs = S) : (convert 22 9 (.slice A n c)).run Try.prog w = .ok (.string S) w := by
  rw [← hS]
  exact h.conv (P := Try.prog) 22 5 9 Try.underlying22 Try.underlying5 Try.underlying9 c
set_option maxHeartbeats 8000000 in
set_option maxRecDepth 100000 in
theorem puts (A : Option Addr) (n c : Nat) (xs : List Nat) (n0 : Nat) (m : Int) (s : ByteArray) (h0 : n0 < 18446744073709551616) (h1 : -9223372036854775808 ≤ m) (h2 : m ≤ 9223372036854775807)
    (hs : s.size ≤ 2000) (hn : n ≤ 2000) (w : World) (hB : Bs w A n xs) (hnil : A = none → n = 0 ∧ c = 0) (hnc : n ≤ c) (hc : c ≤ 9223372036854775807) :
    Calls Try.prog 3 #[.slice A n c, .int .u64 (n0 : Int), .int .i64 m, .string s] w fun e w' => e = .returned (.bool true) ∧ Ext w w' := by
  have HB := Lib.hid hB; have HNIL := Lib.hid hnil; clear hB hnil
  obtain ⟨n1, h11, hx1⟩ := xor1 n0 h0
  obtain ⟨k, hk⟩ : ∃ k : Nat, k = n0 % 4294967296 := ⟨_, rfl⟩
  have hkl : k < 4294967296 := by omega
  have hki : (n0 : Int) % 4294967296 = (k : Int) := by omega
  have hxl : xs.length = n := HB.out.1
  have sxs := Lib.hid HB.out.2.1
  have v1 := vb_ten h0
  have v2 := vb_ten h11
  have v3 := vb_ten (zz_lt h1 h2)
  have v4 := vb_ten (n := s.size) (by omega)
  have v5 : (fx k).length = 4 := rfl
  -- contracts
  have PX := Lib.hid (fun w A n c (hB : Bs w A n xs) hnil hn hc hn4 => put A n c xs n0 h0 w hB hnil hn hc hn4)
  have PY := Lib.hid (fun w A n c (hB : Bs w A n xs) hnil hn hc hn4 => put A n c xs n1 h11 w hB hnil hn hc hn4)
  have PA := Lib.hid (fun w A n c (hB : Bs w A n xs) hnil hn hc hn4 => putSigned A n c xs m h1 h2 w hB hnil hn hc hn4)
  have PC := Lib.hid (fun w A n c (hB : Bs w A n xs) hnil hn hc hn4 => putFixed A n c xs k hkl w hB hnil hn hc hn4)
  have PD := Lib.hid (fun w A n c (hB : Bs w A n xs) hnil hn hc hn4 => putText A n c xs s w hB hnil hn hc hn4 (by omega))
  have HV1 := Lib.hid (refVarint n0 h0)
  have HV2 := Lib.hid (refVarint n1 h11)
  have HV3 := Lib.hid (refVarint (zz m) (zz_lt h1 h2))
  have HV4 := Lib.hid (refVarint s.size (by omega))
  have HZ := Lib.hid (fun w => (refZigzag m h1 h2 w).mono (fun e w' h => (⟨h.1, h.2 ▸ Ext.rfl' _⟩ : e = .returned (.int .u64 (zz m : Int)) ∧ Ext w w')))
  have HF := Lib.hid (refFixed k hkl)
  have HWK := Lib.hid wakes
  have L1 : Hid ((xs ++ vb n0).length ≤ 2100 ∧ (xs ++ vb n1).length ≤ 2100 ∧ (xs ++ vb (zz m)).length ≤ 2100 ∧ (xs ++ fx k).length ≤ 2100 ∧ (xs ++ vb s.size ++ natsOf s).length ≤ 4100) := Lib.hid (by simp only [List.length_append, natsOf_len]; omega)
  have B1 := Lib.hid (small_app sxs.out (vb_byte n0))
  have B2 := Lib.hid (small_app sxs.out (vb_byte n1))
  have B3 := Lib.hid (small_app sxs.out (vb_byte (zz m)))
  have B4 := Lib.hid (small_app sxs.out (small_mem (fx_mem hkl)))
  have B5 := Lib.hid (small_app (small_app sxs.out (vb_byte s.size)) (natsOf_small s))
  have S0 : Hid (strOf xs = strOf xs) := Lib.hid rfl
  have S1 := Lib.hid (strOf_app xs (vb n0))
  have S2 := Lib.hid (strOf_app xs (vb n1))
  have S3 := Lib.hid (strOf_app xs (vb (zz m)))
  have S4 := Lib.hid (strOf_app xs (fx k))
  have S5 : Hid (strOf (xs ++ vb s.size ++ natsOf s) = strOf xs ++ strOf (vb s.size) ++ s) := Lib.hid (by rw [strOf_app, strOf_app, strOf_nats])
  have z1 : ¬ (9223372036854775807 < (strOf xs).size + (strOf (vb n0)).size) := by rw [strOf_size, strOf_size]; omega
  have z2 : ¬ (9223372036854775807 < (strOf xs).size + (strOf (vb n1)).size) := by rw [strOf_size, strOf_size]; omega
  have z3 : ¬ (9223372036854775807 < (strOf xs).size + (strOf (vb (zz m))).size) := by rw [strOf_size, strOf_size]; omega
  have z4 : ¬ (9223372036854775807 < (strOf xs).size + (strOf (fx k)).size) := by rw [strOf_size, strOf_size]; omega
  have z5 : ¬ (9223372036854775807 < (strOf xs).size + (strOf (vb s.size)).size) := by rw [strOf_size, strOf_size]; omega
  have z6 : ¬ (9223372036854775807 < (strOf xs).size + (strOf (vb s.size)).size + s.size) := by rw [strOf_size, strOf_size]; omega
  have HWW : Hid (IntKind.u32.wrap (n0 : Int) = (k : Int) ∧ IntKind.u64.wrap (s.size : Int) = (s.size : Int)) := Lib.hid ⟨by rw [IntKind.wrap_u32]; omega, by rw [IntKind.wrap_u64]; omega⟩
  have ZZ := Lib.hid (And.intro z1 (And.intro z2 (And.intro z3 (And.intro z4 (And.intro z5 z6)))))
  have hcv0 := tight (c := c) HB.out (rfl : strOf xs = strOf xs)
  clear z1 z2 z3 z4 z5 z6 v1 v2 v3 v4 v5 h0 h11 h1 h2 hk
  generalize xs ++ vb n0 = lx at *
  generalize xs ++ vb n1 = ly at *
  generalize xs ++ vb (zz m) = la at *
  generalize xs ++ fx k = lc at *
  generalize xs ++ vb s.size ++ natsOf s = ld at *
  generalize strOf (vb n0) = V1 at *
  generalize strOf (vb n1) = V2 at *
  generalize strOf (vb (zz m)) = V3 at *
  generalize strOf (vb s.size) = V4 at *
  generalize strOf (fx k) = VF at *
  generalize zz m = zm at *
  have SO : Hid (strOf xs = strOf xs) := Lib.hid rfl
  obtain ⟨O, hO⟩ : ∃ O, strOf xs = O := ⟨_, rfl⟩
  rw [hO] at S1 S2 S3 S4 S5 ZZ hcv0
  have HO := Lib.hid hO
  clear hO SO S0
  obtain ⟨i0, hi0, hz0, hz1, hz2⟩ := info_parts info8
  have HQ0 : Hid (i0.bytes * (n + 20) ≤ 281474976710656) := Lib.hid (by rw [hz2]; omega)
  have HQ1 : Hid (n + 20 ≤ maxLen) := Lib.hid (by unfold maxLen; omega)
  have HQ2 : Hid (([] : List Nat).length + xs.length ≤ 140737488355328) := Lib.hid (by simp; omega)
  have HI := Lib.hid (And.intro hi0 (And.intro hz0 hz1)); clear hi0 hz0 hz1 hz2
  have HXL := Lib.hid hxl; clear hxl
  go_enter Try.func3, Try.ntmps3
  go_wp2_with (first | (at_make; refine wpList_make_own w rfl (.const (.int .i64 0)) (.tmp 29) 22 rfl w.heap.size 5 i0 (.int .u8 0) 1 Try.underlying22 HI.out.1 HI.out.2.1 HI.out.2.2 .i64 .i64 ((n : Int) + 20) (n + 20) rfl rfl (by omega) HQ0.out HQ1.out (Nat.le_refl _) ?_; intro w1 hown1 hg1) | (at_builtin; refine wpList_own (W := w) rfl (.tmp 30) (.tmp 31) 22 rfl (.slice (some ⟨w.heap.size, 0, none⟩) 0 (n + 20)) (.slice A n c) [] xs rfl rfl hown1 (ext_grown (Ext.rfl' w) hg1 (fun k hk => by cases hk)) (by rw [HXL.out]; exact (Bs.src (P := Try.prog) (tx := 22) (HB.out.ext (ext_grown (Ext.rfl' w) hg1 (fun k hk => by cases hk))) Try.underlying22 c)) HQ2.out ?_; intro v2 w2 hown2 hE2))
  have HO2 : Hid (Own w w2 v2 xs) := Lib.hid hown2
  have E2 := Lib.hid hE2
  clear hown1 hg1 hown2 hE2
  obtain ⟨A2, c2, hv2, h21, h22, h23⟩ := own_shape HO2.out
  rw [hv2] at HO2
  rw [hv2]
  clear hv2 h23
  unfold maxLen at h22
  have BR := Lib.hid (Own.bs HO2.out sxs.out)
  have NR := Lib.hid (own_nil_ok HO2.out)
  have hxn : xs.length ≤ 2000 := by rw [HXL.out]; exact hn
  clear HO2
  have BB2 := Lib.hid (HB.out.ext E2.out)
  refine (PX.out w2 A2 xs.length c2 BR.out NR.out h21 (by omega) (by omega)).mono ?_
  rintro e w3 ⟨gx, kx, rfl, a1, a2, a3, hO, hE⟩
  have CX := Lib.hid (Own.bs hO B1.out); have E3 := Lib.hid hE
  clear hO hE a1 a2 a3
  go_wp2_with fail
  refine (PY.out w3 A2 xs.length c2 (BR.out.ext E3.out) NR.out h21 (by omega) (by omega)).mono ?_
  rintro e w4 ⟨gy, ky, rfl, a1, a2, a3, hO, hE⟩
  have CY := Lib.hid (Own.bs hO B2.out); have E4 := Lib.hid hE
  clear hO hE a1 a2 a3
  go_wp2_with fail
  refine (PA.out w4 A n c (BB2.out.ext (ext_trans E3.out E4.out)) HNIL.out hnc (by omega) (by omega)).mono ?_
  rintro e w5 ⟨ga, ka, rfl, a1, a2, a3, hO, hE⟩
  have CA := Lib.hid (Own.bs hO B3.out); have E5 := Lib.hid hE
  clear hO hE a1 a2 a3
  go_wp2_with fail
  refine (PC.out w5 A n c (BB2.out.ext (ext_trans (ext_trans E3.out E4.out) E5.out)) HNIL.out hnc (by omega) (by omega)).mono ?_
  rintro e w6 ⟨gc, kc, rfl, a1, a2, a3, hO, hE⟩
  have CC := Lib.hid (Own.bs hO B4.out); have E6 := Lib.hid hE
  clear hO hE a1 a2 a3
  go_wp2_with fail
  refine (PD.out w6 A n c (BB2.out.ext (ext_trans (ext_trans E3.out E4.out) (ext_trans E5.out E6.out))) HNIL.out hnc (by omega) (by omega)).mono ?_
  rintro e w9 ⟨gd, kd, rfl, a1, a2, a3, hO, hE⟩
  have CD := Lib.hid (Own.bs hO B5.out); have E7 := Lib.hid hE
  clear hO hE a1 a2 a3
  have E9 := Lib.hid (ext_trans E2.out (ext_trans (ext_trans E3.out E4.out) (ext_trans (ext_trans E5.out E6.out) E7.out)))
  have MKS := Lib.hid (fun (w' : World) (e : Ext w9 w') => (⟨tight (CX.out.ext (ext_trans (ext_trans E4.out (ext_trans (ext_trans E5.out E6.out) E7.out)) e)) (S1.out), tight (CY.out.ext (ext_trans (ext_trans (ext_trans E5.out E6.out) E7.out) e)) (S2.out), tight (CA.out.ext (ext_trans (ext_trans E6.out E7.out) e)) (S3.out), tight (CC.out.ext (ext_trans E7.out e)) (S4.out), tight (CD.out.ext e) (S5.out), tight (HB.out.ext (ext_trans E9.out e)) HO.out, e⟩ : (convert 22 9 (.slice (some ⟨gx, 0, none⟩) lx.length kx)).run Try.prog w' = .ok (.string (O ++ V1)) w' ∧ (convert 22 9 (.slice (some ⟨gy, 0, none⟩) ly.length ky)).run Try.prog w' = .ok (.string (O ++ V2)) w' ∧ (convert 22 9 (.slice (some ⟨ga, 0, none⟩) la.length ka)).run Try.prog w' = .ok (.string (O ++ V3)) w' ∧ (convert 22 9 (.slice (some ⟨gc, 0, none⟩) lc.length kc)).run Try.prog w' = .ok (.string (O ++ VF)) w' ∧ (convert 22 9 (.slice (some ⟨gd, 0, none⟩) ld.length kd)).run Try.prog w' = .ok (.string (O ++ V4 ++ s)) w' ∧ (convert 22 9 (.slice A n c)).run Try.prog w' = .ok (.string (O)) w' ∧ Ext w9 w'))
  clear hcv0 PX PY PA PC PD CX CY CA CC CD E2 E3 E4 E5 E6 E7 BR NR BB2 HB HNIL B1 B2 B3 B4 B5 S1 S2 S3 S4 S5 L1
  go_wp2_with fail
  obtain ⟨z1, z2, z3, z4, z5, z6⟩ := ZZ.out
  obtain ⟨hwk, hws⟩ := HWW.out
  refine wp_region_held_drew (S := fun w' => (convert 22 9 (.slice (some ⟨gx, 0, none⟩) lx.length kx)).run Try.prog w' = .ok (.string (O ++ V1)) w' ∧ (convert 22 9 (.slice (some ⟨gy, 0, none⟩) ly.length ky)).run Try.prog w' = .ok (.string (O ++ V2)) w' ∧ (convert 22 9 (.slice (some ⟨ga, 0, none⟩) la.length ka)).run Try.prog w' = .ok (.string (O ++ V3)) w' ∧ (convert 22 9 (.slice (some ⟨gc, 0, none⟩) lc.length kc)).run Try.prog w' = .ok (.string (O ++ VF)) w' ∧ (convert 22 9 (.slice (some ⟨gd, 0, none⟩) ld.length kd)).run Try.prog w' = .ok (.string (O ++ V4 ++ s)) w' ∧ (convert 22 9 (.slice A n c)).run Try.prog w' = .ok (.string (O)) w' ∧ Ext w9 w') (by kernel_rfl) ?_ (fun hHeld => ?_)
  · exact MKS.out _ (ext_drew (Ext.rfl' _))
  refine wpAnyH_take (i := 0) (oi := { dst := Option.some 50, op := Go.Op.move (Go.Operand.tmp 11), type := 22, pos := "law.go:40", after := #[], guard := Option.none }) (v := ?_) rfl (by kernel_rfl) (by kernel_rfl) (by kernel_rfl) (fun _ _ _ h => h) (Or.inl ⟨by rfl, ?_⟩) (by assumption) ?_
  rotate_left
  · (intro w hSw; (try dsimp only at hSw); go_simp; try with_reducible rfl)
  (try simp only [Act.put, List.setIfInBounds_toArray, List.set_cons_zero, List.set_cons_succ])
  refine wpAnyH_take (i := 1) (oi := { dst := Option.some 51, op := Go.Op.convert 22 9 (Go.Operand.tmp 50), type := 9, pos := "law.go:40", after := #[{ on := 0, ground := Go.Ground.data }], guard := Option.none }) (v := ?_) rfl (by kernel_rfl) (by kernel_rfl) (by kernel_rfl) (fun _ _ _ h => h) (Or.inl ⟨by rfl, ?_⟩) (by assumption) ?_
  rotate_left
  · (intro w hSw; (try dsimp only at hSw); go_simp; try with_reducible rfl)
  (try simp only [Act.put, List.setIfInBounds_toArray, List.set_cons_zero, List.set_cons_succ])
  refine wpAnyH_take (i := 2) (oi := { dst := Option.some 52, op := Go.Op.move (Go.Operand.tmp 9), type := 9, pos := "law.go:40", after := #[], guard := Option.none }) (v := ?_) rfl (by kernel_rfl) (by kernel_rfl) (by kernel_rfl) (fun _ _ _ h => h) (Or.inl ⟨by rfl, ?_⟩) (by assumption) ?_
  rotate_left
  · (intro w hSw; (try dsimp only at hSw); go_simp; try with_reducible rfl)
  (try simp only [Act.put, List.setIfInBounds_toArray, List.set_cons_zero, List.set_cons_succ])
  refine wpAnyH_take (i := 3) (oi := { dst := Option.some 53, op := Go.Op.move (Go.Operand.tmp 1), type := 23, pos := "law.go:40", after := #[], guard := Option.none }) (v := ?_) rfl (by kernel_rfl) (by kernel_rfl) (by kernel_rfl) (fun _ _ _ h => h) (Or.inl ⟨by rfl, ?_⟩) (by assumption) ?_
  rotate_left
  · (intro w hSw; (try dsimp only at hSw); go_simp; try with_reducible rfl)
  (try simp only [Act.put, List.setIfInBounds_toArray, List.set_cons_zero, List.set_cons_succ])
  refine wpAnyH_ready (rs := [4]) (by kernel_rfl) (by simp) ?_
  refine AllReadyH.cons (o := { dst := Option.some 54, op := Go.Op.call { callee := Go.Callee.value (Go.Operand.func 16), args := #[Go.Operand.tmp 53], argTypes := #[23] }, type := 9, pos := "law.go:40", after := #[{ on := 3, ground := Go.Ground.data }], guard := Option.none }) rfl (fun K hK => ?_) ?_
  rotate_left
  · exact AllReadyH.nil
  go_simp
  refine (HV1.out _).mono ?_
  rintro e w9 ⟨rfl, b9⟩
  (try go_wp2_with fail)
  refine hK.out _ _ ?_ (fun hHeld9 => ?_)
  · (try dsimp only)
    obtain ⟨_, _, _, _, _, _, ee⟩ := hHeld
    exact MKS.out _ (ext_trans ee b9)
  clear hK K hHeld
  (try simp only [Act.put, List.setIfInBounds_toArray, List.set_cons_zero, List.set_cons_succ])
  have hHeld := hHeld9; clear hHeld9
  refine wpAnyH_take (i := 5) (oi := { dst := Option.some 55, op := Go.Op.binOp Go.BinOp.add 9 (Go.Operand.tmp 52) (Go.Operand.tmp 54) 9, type := 9, pos := "law.go:40", after := #[{ on := 2, ground := Go.Ground.data }, { on := 4, ground := Go.Ground.data }], guard := Option.none }) (v := ?_) rfl (by kernel_rfl) (by kernel_rfl) (by kernel_rfl) (fun _ _ _ h => h) (Or.inl ⟨by rfl, ?_⟩) (by assumption) ?_
  rotate_left
  · (intro w hSw; (try dsimp only at hSw); go_simp; try with_reducible rfl)
  (try simp only [Act.put, List.setIfInBounds_toArray, List.set_cons_zero, List.set_cons_succ])
  refine wpAnyH_take (i := 6) (oi := { dst := Option.some 56, op := Go.Op.binOp Go.BinOp.eql 9 (Go.Operand.tmp 51) (Go.Operand.tmp 55) 9, type := 4, pos := "law.go:40", after := #[{ on := 1, ground := Go.Ground.data }, { on := 5, ground := Go.Ground.data }], guard := Option.none }) (v := ?_) rfl (by kernel_rfl) (by kernel_rfl) (by kernel_rfl) (fun _ _ _ h => h) (Or.inl ⟨by rfl, ?_⟩) (by assumption) ?_
  rotate_left
  · (intro w hSw; (try dsimp only at hSw); go_simp; try with_reducible rfl)
  (try simp only [Act.put, List.setIfInBounds_toArray, List.set_cons_zero, List.set_cons_succ])
  refine wpAnyH_take (i := 7) (oi := { dst := Option.some 57, op := Go.Op.move (Go.Operand.tmp 56), type := 4, pos := "law.go:40", after := #[{ on := 6, ground := Go.Ground.data }, { on := 4, ground := Go.Ground.chain }], guard := Option.none }) (v := ?_) rfl (by kernel_rfl) (by kernel_rfl) (by kernel_rfl) (fun _ _ _ h => h) (Or.inl ⟨by rfl, ?_⟩) (by assumption) ?_
  rotate_left
  · (intro w hSw; (try dsimp only at hSw); go_simp; try with_reducible rfl)
  (try simp only [Act.put, List.setIfInBounds_toArray, List.set_cons_zero, List.set_cons_succ])
  refine wpAnyH_take (i := 8) (oi := { dst := Option.some 58, op := Go.Op.move (Go.Operand.tmp 12), type := 22, pos := "law.go:40", after := #[{ on := 7, ground := Go.Ground.guard }], guard := Option.some (7, Bool.true) }) (v := ?_) rfl (by kernel_rfl) (by kernel_rfl) (by kernel_rfl) (fun _ _ _ h => h) (Or.inl ⟨by rfl, ?_⟩) (by assumption) ?_
  rotate_left
  · (intro w hSw; (try dsimp only at hSw); go_simp; try with_reducible rfl)
  (try simp only [Act.put, List.setIfInBounds_toArray, List.set_cons_zero, List.set_cons_succ])
  refine wpAnyH_take (i := 9) (oi := { dst := Option.some 59, op := Go.Op.convert 22 9 (Go.Operand.tmp 58), type := 9, pos := "law.go:40", after := #[{ on := 8, ground := Go.Ground.data }, { on := 7, ground := Go.Ground.guard }], guard := Option.some (7, Bool.true) }) (v := ?_) rfl (by kernel_rfl) (by kernel_rfl) (by kernel_rfl) (fun _ _ _ h => h) (Or.inl ⟨by rfl, ?_⟩) (by assumption) ?_
  rotate_left
  · (intro w hSw; (try dsimp only at hSw); go_simp; try with_reducible rfl)
  (try simp only [Act.put, List.setIfInBounds_toArray, List.set_cons_zero, List.set_cons_succ])
  refine wpAnyH_take (i := 10) (oi := { dst := Option.some 60, op := Go.Op.move (Go.Operand.tmp 9), type := 9, pos := "law.go:40", after := #[{ on := 7, ground := Go.Ground.guard }], guard := Option.some (7, Bool.true) }) (v := ?_) rfl (by kernel_rfl) (by kernel_rfl) (by kernel_rfl) (fun _ _ _ h => h) (Or.inl ⟨by rfl, ?_⟩) (by assumption) ?_
  rotate_left
  · (intro w hSw; (try dsimp only at hSw); go_simp; try with_reducible rfl)
  (try simp only [Act.put, List.setIfInBounds_toArray, List.set_cons_zero, List.set_cons_succ])
  refine wpAnyH_take (i := 11) (oi := { dst := Option.some 61, op := Go.Op.move (Go.Operand.tmp 1), type := 23, pos := "law.go:40", after := #[{ on := 7, ground := Go.Ground.guard }], guard := Option.some (7, Bool.true) }) (v := ?_) rfl (by kernel_rfl) (by kernel_rfl) (by kernel_rfl) (fun _ _ _ h => h) (Or.inl ⟨by rfl, ?_⟩) (by assumption) ?_
  rotate_left
  · (intro w hSw; (try dsimp only at hSw); go_simp; try with_reducible rfl)
  (try simp only [Act.put, List.setIfInBounds_toArray, List.set_cons_zero, List.set_cons_succ])
  refine wpAnyH_take (i := 12) (oi := { dst := Option.some 62, op := Go.Op.binOp Go.BinOp.xor 23 (Go.Operand.tmp 61) (Go.Operand.const (Go.Value.int Go.IntKind.u64 1)) 23, type := 23, pos := "law.go:40", after := #[{ on := 11, ground := Go.Ground.data }, { on := 7, ground := Go.Ground.guard }], guard := Option.some (7, Bool.true) }) (v := ?_) rfl (by kernel_rfl) (by kernel_rfl) (by kernel_rfl) (fun _ _ _ h => h) (Or.inl ⟨by rfl, ?_⟩) (by assumption) ?_
  rotate_left
  · (intro w hSw; (try dsimp only at hSw); go_simp; try with_reducible rfl)
  (try simp only [Act.put, List.setIfInBounds_toArray, List.set_cons_zero, List.set_cons_succ])
  refine wpAnyH_ready (rs := [13]) (by kernel_rfl) (by simp) ?_
  refine AllReadyH.cons (o := { dst := Option.some 63, op := Go.Op.call { callee := Go.Callee.value (Go.Operand.func 16), args := #[Go.Operand.tmp 62], argTypes := #[23] }, type := 9, pos := "law.go:40", after := #[{ on := 12, ground := Go.Ground.data }, { on := 7, ground := Go.Ground.chain }, { on := 7, ground := Go.Ground.guard }], guard := Option.some (7, Bool.true) }) rfl (fun K hK => ?_) ?_
  rotate_left
  · exact AllReadyH.nil
  go_simp
  refine (HV2.out _).mono ?_
  rintro e w9 ⟨rfl, b9⟩
  (try go_wp2_with fail)
  refine hK.out _ _ ?_ (fun hHeld9 => ?_)
  · (try dsimp only)
    obtain ⟨_, _, _, _, _, _, ee⟩ := hHeld
    exact MKS.out _ (ext_trans ee b9)
  clear hK K hHeld
  (try simp only [Act.put, List.setIfInBounds_toArray, List.set_cons_zero, List.set_cons_succ])
  have hHeld := hHeld9; clear hHeld9
  refine wpAnyH_take (i := 14) (oi := { dst := Option.some 64, op := Go.Op.binOp Go.BinOp.add 9 (Go.Operand.tmp 60) (Go.Operand.tmp 63) 9, type := 9, pos := "law.go:40", after := #[{ on := 10, ground := Go.Ground.data }, { on := 13, ground := Go.Ground.data }, { on := 7, ground := Go.Ground.guard }], guard := Option.some (7, Bool.true) }) (v := ?_) rfl (by kernel_rfl) (by kernel_rfl) (by kernel_rfl) (fun _ _ _ h => h) (Or.inl ⟨by rfl, ?_⟩) (by assumption) ?_
  rotate_left
  · (intro w hSw; (try dsimp only at hSw); go_simp; try with_reducible rfl)
  (try simp only [Act.put, List.setIfInBounds_toArray, List.set_cons_zero, List.set_cons_succ])
  refine wpAnyH_take (i := 15) (oi := { dst := Option.some 65, op := Go.Op.binOp Go.BinOp.eql 9 (Go.Operand.tmp 59) (Go.Operand.tmp 64) 9, type := 4, pos := "law.go:40", after := #[{ on := 9, ground := Go.Ground.data }, { on := 14, ground := Go.Ground.data }, { on := 7, ground := Go.Ground.guard }], guard := Option.some (7, Bool.true) }) (v := ?_) rfl (by kernel_rfl) (by kernel_rfl) (by kernel_rfl) (fun _ _ _ h => h) (Or.inl ⟨by rfl, ?_⟩) (by assumption) ?_
  rotate_left
  · (intro w hSw; (try dsimp only at hSw); go_simp; try with_reducible rfl)
  (try simp only [Act.put, List.setIfInBounds_toArray, List.set_cons_zero, List.set_cons_succ])
  refine wpAnyH_take (i := 16) (oi := { dst := Option.some 66, op := Go.Op.pick (Go.Operand.tmp 57) (Go.Operand.tmp 65) (Go.Operand.const (Go.Value.bool Bool.false)), type := 4, pos := "law.go:40", after := #[{ on := 7, ground := Go.Ground.data }, { on := 15, ground := Go.Ground.data }], guard := Option.none }) (v := ?_) rfl (by kernel_rfl) (by kernel_rfl) (by kernel_rfl) (fun _ _ _ h => h) (Or.inl ⟨by rfl, ?_⟩) (by assumption) ?_
  rotate_left
  · (intro w hSw; (try dsimp only at hSw); go_simp; try with_reducible rfl)
  (try simp only [Act.put, List.setIfInBounds_toArray, List.set_cons_zero, List.set_cons_succ])
  refine wpAnyH_take (i := 17) (oi := { dst := Option.some 67, op := Go.Op.move (Go.Operand.tmp 66), type := 4, pos := "law.go:40", after := #[{ on := 16, ground := Go.Ground.data }, { on := 13, ground := Go.Ground.chain }], guard := Option.none }) (v := ?_) rfl (by kernel_rfl) (by kernel_rfl) (by kernel_rfl) (fun _ _ _ h => h) (Or.inl ⟨by rfl, ?_⟩) (by assumption) ?_
  rotate_left
  · (intro w hSw; (try dsimp only at hSw); go_simp; try with_reducible rfl)
  (try simp only [Act.put, List.setIfInBounds_toArray, List.set_cons_zero, List.set_cons_succ])
  refine wpAnyH_take (i := 18) (oi := { dst := Option.some 68, op := Go.Op.move (Go.Operand.tmp 13), type := 22, pos := "law.go:40", after := #[{ on := 17, ground := Go.Ground.guard }], guard := Option.some (17, Bool.true) }) (v := ?_) rfl (by kernel_rfl) (by kernel_rfl) (by kernel_rfl) (fun _ _ _ h => h) (Or.inl ⟨by rfl, ?_⟩) (by assumption) ?_
  rotate_left
  · (intro w hSw; (try dsimp only at hSw); go_simp; try with_reducible rfl)
  (try simp only [Act.put, List.setIfInBounds_toArray, List.set_cons_zero, List.set_cons_succ])
  refine wpAnyH_take (i := 19) (oi := { dst := Option.some 69, op := Go.Op.convert 22 9 (Go.Operand.tmp 68), type := 9, pos := "law.go:40", after := #[{ on := 18, ground := Go.Ground.data }, { on := 17, ground := Go.Ground.guard }], guard := Option.some (17, Bool.true) }) (v := ?_) rfl (by kernel_rfl) (by kernel_rfl) (by kernel_rfl) (fun _ _ _ h => h) (Or.inl ⟨by rfl, ?_⟩) (by assumption) ?_
  rotate_left
  · (intro w hSw; (try dsimp only at hSw); go_simp; try with_reducible rfl)
  (try simp only [Act.put, List.setIfInBounds_toArray, List.set_cons_zero, List.set_cons_succ])
  refine wpAnyH_take (i := 20) (oi := { dst := Option.some 70, op := Go.Op.move (Go.Operand.tmp 9), type := 9, pos := "law.go:40", after := #[{ on := 17, ground := Go.Ground.guard }], guard := Option.some (17, Bool.true) }) (v := ?_) rfl (by kernel_rfl) (by kernel_rfl) (by kernel_rfl) (fun _ _ _ h => h) (Or.inl ⟨by rfl, ?_⟩) (by assumption) ?_
  rotate_left
  · (intro w hSw; (try dsimp only at hSw); go_simp; try with_reducible rfl)
  (try simp only [Act.put, List.setIfInBounds_toArray, List.set_cons_zero, List.set_cons_succ])
  refine wpAnyH_take (i := 21) (oi := { dst := Option.some 71, op := Go.Op.move (Go.Operand.tmp 2), type := 2, pos := "law.go:40", after := #[{ on := 17, ground := Go.Ground.guard }], guard := Option.some (17, Bool.true) }) (v := ?_) rfl (by kernel_rfl) (by kernel_rfl) (by kernel_rfl) (fun _ _ _ h => h) (Or.inl ⟨by rfl, ?_⟩) (by assumption) ?_
  rotate_left
  · (intro w hSw; (try dsimp only at hSw); go_simp; try with_reducible rfl)
  (try simp only [Act.put, List.setIfInBounds_toArray, List.set_cons_zero, List.set_cons_succ])
  refine wpAnyH_ready (rs := [22]) (by kernel_rfl) (by simp) ?_
  refine AllReadyH.cons (o := { dst := Option.some 72, op := Go.Op.call { callee := Go.Callee.value (Go.Operand.func 17), args := #[Go.Operand.tmp 71], argTypes := #[2] }, type := 23, pos := "law.go:40", after := #[{ on := 21, ground := Go.Ground.data }, { on := 17, ground := Go.Ground.chain }, { on := 17, ground := Go.Ground.guard }], guard := Option.some (17, Bool.true) }) rfl (fun K hK => ?_) ?_
  rotate_left
  · exact AllReadyH.nil
  go_simp
  refine ((HZ.out _)).mono ?_
  rintro e w9 ⟨rfl, b9⟩
  (try go_wp2_with fail)
  refine hK.out _ _ ?_ (fun hHeld9 => ?_)
  · (try dsimp only)
    obtain ⟨_, _, _, _, _, _, ee⟩ := hHeld
    exact MKS.out _ (ext_trans ee b9)
  clear hK K hHeld
  (try simp only [Act.put, List.setIfInBounds_toArray, List.set_cons_zero, List.set_cons_succ])
  have hHeld := hHeld9; clear hHeld9
  refine wpAnyH_ready (rs := [23]) (by kernel_rfl) (by simp) ?_
  refine AllReadyH.cons (o := { dst := Option.some 73, op := Go.Op.call { callee := Go.Callee.value (Go.Operand.func 16), args := #[Go.Operand.tmp 72], argTypes := #[23] }, type := 9, pos := "law.go:40", after := #[{ on := 22, ground := Go.Ground.data }, { on := 22, ground := Go.Ground.chain }, { on := 17, ground := Go.Ground.guard }], guard := Option.some (17, Bool.true) }) rfl (fun K hK => ?_) ?_
  rotate_left
  · exact AllReadyH.nil
  go_simp
  refine (HV3.out _).mono ?_
  rintro e w9 ⟨rfl, b9⟩
  (try go_wp2_with fail)
  refine hK.out _ _ ?_ (fun hHeld9 => ?_)
  · (try dsimp only)
    obtain ⟨_, _, _, _, _, _, ee⟩ := hHeld
    exact MKS.out _ (ext_trans ee b9)
  clear hK K hHeld
  (try simp only [Act.put, List.setIfInBounds_toArray, List.set_cons_zero, List.set_cons_succ])
  have hHeld := hHeld9; clear hHeld9
  refine wpAnyH_take (i := 24) (oi := { dst := Option.some 74, op := Go.Op.binOp Go.BinOp.add 9 (Go.Operand.tmp 70) (Go.Operand.tmp 73) 9, type := 9, pos := "law.go:40", after := #[{ on := 20, ground := Go.Ground.data }, { on := 23, ground := Go.Ground.data }, { on := 17, ground := Go.Ground.guard }], guard := Option.some (17, Bool.true) }) (v := ?_) rfl (by kernel_rfl) (by kernel_rfl) (by kernel_rfl) (fun _ _ _ h => h) (Or.inl ⟨by rfl, ?_⟩) (by assumption) ?_
  rotate_left
  · (intro w hSw; (try dsimp only at hSw); go_simp; try with_reducible rfl)
  (try simp only [Act.put, List.setIfInBounds_toArray, List.set_cons_zero, List.set_cons_succ])
  refine wpAnyH_take (i := 25) (oi := { dst := Option.some 75, op := Go.Op.binOp Go.BinOp.eql 9 (Go.Operand.tmp 69) (Go.Operand.tmp 74) 9, type := 4, pos := "law.go:40", after := #[{ on := 19, ground := Go.Ground.data }, { on := 24, ground := Go.Ground.data }, { on := 17, ground := Go.Ground.guard }], guard := Option.some (17, Bool.true) }) (v := ?_) rfl (by kernel_rfl) (by kernel_rfl) (by kernel_rfl) (fun _ _ _ h => h) (Or.inl ⟨by rfl, ?_⟩) (by assumption) ?_
  rotate_left
  · (intro w hSw; (try dsimp only at hSw); go_simp; try with_reducible rfl)
  (try simp only [Act.put, List.setIfInBounds_toArray, List.set_cons_zero, List.set_cons_succ])
  refine wpAnyH_take (i := 26) (oi := { dst := Option.some 76, op := Go.Op.pick (Go.Operand.tmp 67) (Go.Operand.tmp 75) (Go.Operand.const (Go.Value.bool Bool.false)), type := 4, pos := "law.go:40", after := #[{ on := 17, ground := Go.Ground.data }, { on := 25, ground := Go.Ground.data }], guard := Option.none }) (v := ?_) rfl (by kernel_rfl) (by kernel_rfl) (by kernel_rfl) (fun _ _ _ h => h) (Or.inl ⟨by rfl, ?_⟩) (by assumption) ?_
  rotate_left
  · (intro w hSw; (try dsimp only at hSw); go_simp; try with_reducible rfl)
  (try simp only [Act.put, List.setIfInBounds_toArray, List.set_cons_zero, List.set_cons_succ])
  refine wpAnyH_take (i := 27) (oi := { dst := Option.some 77, op := Go.Op.move (Go.Operand.tmp 76), type := 4, pos := "law.go:40", after := #[{ on := 26, ground := Go.Ground.data }, { on := 23, ground := Go.Ground.chain }], guard := Option.none }) (v := ?_) rfl (by kernel_rfl) (by kernel_rfl) (by kernel_rfl) (fun _ _ _ h => h) (Or.inl ⟨by rfl, ?_⟩) (by assumption) ?_
  rotate_left
  · (intro w hSw; (try dsimp only at hSw); go_simp; try with_reducible rfl)
  (try simp only [Act.put, List.setIfInBounds_toArray, List.set_cons_zero, List.set_cons_succ])
  refine wpAnyH_take (i := 28) (oi := { dst := Option.some 78, op := Go.Op.move (Go.Operand.tmp 14), type := 22, pos := "law.go:40", after := #[{ on := 27, ground := Go.Ground.guard }], guard := Option.some (27, Bool.true) }) (v := ?_) rfl (by kernel_rfl) (by kernel_rfl) (by kernel_rfl) (fun _ _ _ h => h) (Or.inl ⟨by rfl, ?_⟩) (by assumption) ?_
  rotate_left
  · (intro w hSw; (try dsimp only at hSw); go_simp; try with_reducible rfl)
  (try simp only [Act.put, List.setIfInBounds_toArray, List.set_cons_zero, List.set_cons_succ])
  refine wpAnyH_take (i := 29) (oi := { dst := Option.some 79, op := Go.Op.convert 22 9 (Go.Operand.tmp 78), type := 9, pos := "law.go:40", after := #[{ on := 28, ground := Go.Ground.data }, { on := 27, ground := Go.Ground.guard }], guard := Option.some (27, Bool.true) }) (v := ?_) rfl (by kernel_rfl) (by kernel_rfl) (by kernel_rfl) (fun _ _ _ h => h) (Or.inl ⟨by rfl, ?_⟩) (by assumption) ?_
  rotate_left
  · (intro w hSw; (try dsimp only at hSw); go_simp; try with_reducible rfl)
  (try simp only [Act.put, List.setIfInBounds_toArray, List.set_cons_zero, List.set_cons_succ])
  refine wpAnyH_take (i := 30) (oi := { dst := Option.some 80, op := Go.Op.move (Go.Operand.tmp 9), type := 9, pos := "law.go:40", after := #[{ on := 27, ground := Go.Ground.guard }], guard := Option.some (27, Bool.true) }) (v := ?_) rfl (by kernel_rfl) (by kernel_rfl) (by kernel_rfl) (fun _ _ _ h => h) (Or.inl ⟨by rfl, ?_⟩) (by assumption) ?_
  rotate_left
  · (intro w hSw; (try dsimp only at hSw); go_simp; try with_reducible rfl)
  (try simp only [Act.put, List.setIfInBounds_toArray, List.set_cons_zero, List.set_cons_succ])
  refine wpAnyH_take (i := 31) (oi := { dst := Option.some 81, op := Go.Op.move (Go.Operand.tmp 1), type := 23, pos := "law.go:40", after := #[{ on := 27, ground := Go.Ground.guard }], guard := Option.some (27, Bool.true) }) (v := ?_) rfl (by kernel_rfl) (by kernel_rfl) (by kernel_rfl) (fun _ _ _ h => h) (Or.inl ⟨by rfl, ?_⟩) (by assumption) ?_
  rotate_left
  · (intro w hSw; (try dsimp only at hSw); go_simp; try with_reducible rfl)
  (try simp only [Act.put, List.setIfInBounds_toArray, List.set_cons_zero, List.set_cons_succ])
  refine wpAnyH_take (i := 32) (oi := { dst := Option.some 82, op := Go.Op.convert 23 28 (Go.Operand.tmp 81), type := 28, pos := "law.go:40", after := #[{ on := 31, ground := Go.Ground.data }, { on := 27, ground := Go.Ground.guard }], guard := Option.some (27, Bool.true) }) (v := ?_) rfl (by kernel_rfl) (by kernel_rfl) (by kernel_rfl) (fun _ _ _ h => h) (Or.inl ⟨by rfl, ?_⟩) (by assumption) ?_
  rotate_left
  · (intro w hSw; (try dsimp only at hSw); go_simp; try with_reducible rfl)
  (try simp only [Act.put, List.setIfInBounds_toArray, List.set_cons_zero, List.set_cons_succ])
  refine wpAnyH_ready (rs := [33]) (by kernel_rfl) (by simp) ?_
  refine AllReadyH.cons (o := { dst := Option.some 83, op := Go.Op.call { callee := Go.Callee.value (Go.Operand.func 18), args := #[Go.Operand.tmp 82], argTypes := #[28] }, type := 9, pos := "law.go:40", after := #[{ on := 32, ground := Go.Ground.data }, { on := 27, ground := Go.Ground.chain }, { on := 27, ground := Go.Ground.guard }], guard := Option.some (27, Bool.true) }) rfl (fun K hK => ?_) ?_
  rotate_left
  · exact AllReadyH.nil
  go_simp
  refine (HF.out _).mono ?_
  rintro e w9 ⟨rfl, b9⟩
  (try go_wp2_with fail)
  refine hK.out _ _ ?_ (fun hHeld9 => ?_)
  · (try dsimp only)
    obtain ⟨_, _, _, _, _, _, ee⟩ := hHeld
    exact MKS.out _ (ext_trans ee b9)
  clear hK K hHeld
  (try simp only [Act.put, List.setIfInBounds_toArray, List.set_cons_zero, List.set_cons_succ])
  have hHeld := hHeld9; clear hHeld9
  refine wpAnyH_take (i := 34) (oi := { dst := Option.some 84, op := Go.Op.binOp Go.BinOp.add 9 (Go.Operand.tmp 80) (Go.Operand.tmp 83) 9, type := 9, pos := "law.go:40", after := #[{ on := 30, ground := Go.Ground.data }, { on := 33, ground := Go.Ground.data }, { on := 27, ground := Go.Ground.guard }], guard := Option.some (27, Bool.true) }) (v := ?_) rfl (by kernel_rfl) (by kernel_rfl) (by kernel_rfl) (fun _ _ _ h => h) (Or.inl ⟨by rfl, ?_⟩) (by assumption) ?_
  rotate_left
  · (intro w hSw; (try dsimp only at hSw); go_simp; try with_reducible rfl)
  (try simp only [Act.put, List.setIfInBounds_toArray, List.set_cons_zero, List.set_cons_succ])
  refine wpAnyH_take (i := 35) (oi := { dst := Option.some 85, op := Go.Op.binOp Go.BinOp.eql 9 (Go.Operand.tmp 79) (Go.Operand.tmp 84) 9, type := 4, pos := "law.go:40", after := #[{ on := 29, ground := Go.Ground.data }, { on := 34, ground := Go.Ground.data }, { on := 27, ground := Go.Ground.guard }], guard := Option.some (27, Bool.true) }) (v := ?_) rfl (by kernel_rfl) (by kernel_rfl) (by kernel_rfl) (fun _ _ _ h => h) (Or.inl ⟨by rfl, ?_⟩) (by assumption) ?_
  rotate_left
  · (intro w hSw; (try dsimp only at hSw); go_simp; try with_reducible rfl)
  (try simp only [Act.put, List.setIfInBounds_toArray, List.set_cons_zero, List.set_cons_succ])
  refine wpAnyH_take (i := 36) (oi := { dst := Option.some 86, op := Go.Op.pick (Go.Operand.tmp 77) (Go.Operand.tmp 85) (Go.Operand.const (Go.Value.bool Bool.false)), type := 4, pos := "law.go:40", after := #[{ on := 27, ground := Go.Ground.data }, { on := 35, ground := Go.Ground.data }], guard := Option.none }) (v := ?_) rfl (by kernel_rfl) (by kernel_rfl) (by kernel_rfl) (fun _ _ _ h => h) (Or.inl ⟨by rfl, ?_⟩) (by assumption) ?_
  rotate_left
  · (intro w hSw; (try dsimp only at hSw); go_simp; try with_reducible rfl)
  (try simp only [Act.put, List.setIfInBounds_toArray, List.set_cons_zero, List.set_cons_succ])
  refine wpAnyH_take (i := 37) (oi := { dst := Option.some 87, op := Go.Op.move (Go.Operand.tmp 86), type := 4, pos := "law.go:40", after := #[{ on := 36, ground := Go.Ground.data }, { on := 33, ground := Go.Ground.chain }], guard := Option.none }) (v := ?_) rfl (by kernel_rfl) (by kernel_rfl) (by kernel_rfl) (fun _ _ _ h => h) (Or.inl ⟨by rfl, ?_⟩) (by assumption) ?_
  rotate_left
  · (intro w hSw; (try dsimp only at hSw); go_simp; try with_reducible rfl)
  (try simp only [Act.put, List.setIfInBounds_toArray, List.set_cons_zero, List.set_cons_succ])
  refine wpAnyH_take (i := 38) (oi := { dst := Option.some 88, op := Go.Op.move (Go.Operand.tmp 15), type := 22, pos := "law.go:40", after := #[{ on := 37, ground := Go.Ground.guard }], guard := Option.some (37, Bool.true) }) (v := ?_) rfl (by kernel_rfl) (by kernel_rfl) (by kernel_rfl) (fun _ _ _ h => h) (Or.inl ⟨by rfl, ?_⟩) (by assumption) ?_
  rotate_left
  · (intro w hSw; (try dsimp only at hSw); go_simp; try with_reducible rfl)
  (try simp only [Act.put, List.setIfInBounds_toArray, List.set_cons_zero, List.set_cons_succ])
  refine wpAnyH_take (i := 39) (oi := { dst := Option.some 89, op := Go.Op.convert 22 9 (Go.Operand.tmp 88), type := 9, pos := "law.go:40", after := #[{ on := 38, ground := Go.Ground.data }, { on := 37, ground := Go.Ground.guard }], guard := Option.some (37, Bool.true) }) (v := ?_) rfl (by kernel_rfl) (by kernel_rfl) (by kernel_rfl) (fun _ _ _ h => h) (Or.inl ⟨by rfl, ?_⟩) (by assumption) ?_
  rotate_left
  · (intro w hSw; (try dsimp only at hSw); go_simp; try with_reducible rfl)
  (try simp only [Act.put, List.setIfInBounds_toArray, List.set_cons_zero, List.set_cons_succ])
  refine wpAnyH_take (i := 40) (oi := { dst := Option.some 90, op := Go.Op.move (Go.Operand.tmp 9), type := 9, pos := "law.go:40", after := #[{ on := 37, ground := Go.Ground.guard }], guard := Option.some (37, Bool.true) }) (v := ?_) rfl (by kernel_rfl) (by kernel_rfl) (by kernel_rfl) (fun _ _ _ h => h) (Or.inl ⟨by rfl, ?_⟩) (by assumption) ?_
  rotate_left
  · (intro w hSw; (try dsimp only at hSw); go_simp; try with_reducible rfl)
  (try simp only [Act.put, List.setIfInBounds_toArray, List.set_cons_zero, List.set_cons_succ])
  refine wpAnyH_take (i := 41) (oi := { dst := Option.some 91, op := Go.Op.move (Go.Operand.tmp 3), type := 9, pos := "law.go:40", after := #[{ on := 37, ground := Go.Ground.guard }], guard := Option.some (37, Bool.true) }) (v := ?_) rfl (by kernel_rfl) (by kernel_rfl) (by kernel_rfl) (fun _ _ _ h => h) (Or.inl ⟨by rfl, ?_⟩) (by assumption) ?_
  rotate_left
  · (intro w hSw; (try dsimp only at hSw); go_simp; try with_reducible rfl)
  (try simp only [Act.put, List.setIfInBounds_toArray, List.set_cons_zero, List.set_cons_succ])
  refine wpAnyH_take (i := 42) (oi := { dst := Option.some 92, op := Go.Op.call { callee := Go.Callee.builtin Go.Builtin.len, args := #[Go.Operand.tmp 91], argTypes := #[9] }, type := 3, pos := "law.go:40", after := #[{ on := 41, ground := Go.Ground.data }, { on := 37, ground := Go.Ground.guard }], guard := Option.some (37, Bool.true) }) (v := ?_) rfl (by kernel_rfl) (by kernel_rfl) (by kernel_rfl) (fun _ _ _ h => h) (Or.inl ⟨by rfl, ?_⟩) (by assumption) ?_
  rotate_left
  · (intro w hSw; (try dsimp only at hSw); go_simp; try with_reducible rfl)
  (try simp only [Act.put, List.setIfInBounds_toArray, List.set_cons_zero, List.set_cons_succ])
  refine wpAnyH_take (i := 43) (oi := { dst := Option.some 93, op := Go.Op.convert 3 23 (Go.Operand.tmp 92), type := 23, pos := "law.go:40", after := #[{ on := 42, ground := Go.Ground.data }, { on := 37, ground := Go.Ground.guard }], guard := Option.some (37, Bool.true) }) (v := ?_) rfl (by kernel_rfl) (by kernel_rfl) (by kernel_rfl) (fun _ _ _ h => h) (Or.inl ⟨by rfl, ?_⟩) (by assumption) ?_
  rotate_left
  · (intro w hSw; (try dsimp only at hSw); go_simp; try with_reducible rfl)
  (try simp only [Act.put, List.setIfInBounds_toArray, List.set_cons_zero, List.set_cons_succ])
  refine wpAnyH_take (i := 46) (oi := { dst := Option.some 96, op := Go.Op.move (Go.Operand.tmp 3), type := 9, pos := "law.go:40", after := #[{ on := 37, ground := Go.Ground.guard }], guard := Option.some (37, Bool.true) }) (v := ?_) rfl (by kernel_rfl) (by kernel_rfl) (by kernel_rfl) (fun _ _ _ h => h) (Or.inl ⟨by rfl, ?_⟩) (by assumption) ?_
  rotate_left
  · (intro w hSw; (try dsimp only at hSw); go_simp; try with_reducible rfl)
  (try simp only [Act.put, List.setIfInBounds_toArray, List.set_cons_zero, List.set_cons_succ])
  refine wpAnyH_ready (rs := [44]) (by kernel_rfl) (by simp) ?_
  refine AllReadyH.cons (o := { dst := Option.some 94, op := Go.Op.call { callee := Go.Callee.value (Go.Operand.func 16), args := #[Go.Operand.tmp 93], argTypes := #[23] }, type := 9, pos := "law.go:40", after := #[{ on := 43, ground := Go.Ground.data }, { on := 37, ground := Go.Ground.chain }, { on := 37, ground := Go.Ground.guard }], guard := Option.some (37, Bool.true) }) rfl (fun K hK => ?_) ?_
  rotate_left
  · exact AllReadyH.nil
  go_simp
  refine (HV4.out _).mono ?_
  rintro e w9 ⟨rfl, b9⟩
  (try go_wp2_with fail)
  refine hK.out _ _ ?_ (fun hHeld9 => ?_)
  · (try dsimp only)
    obtain ⟨_, _, _, _, _, _, ee⟩ := hHeld
    exact MKS.out _ (ext_trans ee b9)
  clear hK K hHeld
  (try simp only [Act.put, List.setIfInBounds_toArray, List.set_cons_zero, List.set_cons_succ])
  have hHeld := hHeld9; clear hHeld9
  refine wpAnyH_take (i := 45) (oi := { dst := Option.some 95, op := Go.Op.binOp Go.BinOp.add 9 (Go.Operand.tmp 90) (Go.Operand.tmp 94) 9, type := 9, pos := "law.go:40", after := #[{ on := 40, ground := Go.Ground.data }, { on := 44, ground := Go.Ground.data }, { on := 37, ground := Go.Ground.guard }], guard := Option.some (37, Bool.true) }) (v := ?_) rfl (by kernel_rfl) (by kernel_rfl) (by kernel_rfl) (fun _ _ _ h => h) (Or.inl ⟨by rfl, ?_⟩) (by assumption) ?_
  rotate_left
  · (intro w hSw; (try dsimp only at hSw); go_simp; try with_reducible rfl)
  (try simp only [Act.put, List.setIfInBounds_toArray, List.set_cons_zero, List.set_cons_succ])
  refine wpAnyH_take (i := 47) (oi := { dst := Option.some 97, op := Go.Op.binOp Go.BinOp.add 9 (Go.Operand.tmp 95) (Go.Operand.tmp 96) 9, type := 9, pos := "law.go:40", after := #[{ on := 45, ground := Go.Ground.data }, { on := 46, ground := Go.Ground.data }, { on := 37, ground := Go.Ground.guard }], guard := Option.some (37, Bool.true) }) (v := ?_) rfl (by kernel_rfl) (by kernel_rfl) (by kernel_rfl) (fun _ _ _ h => h) (Or.inl ⟨by rfl, ?_⟩) (by assumption) ?_
  rotate_left
  · (intro w hSw; (try dsimp only at hSw); go_simp; try with_reducible rfl)
  (try simp only [Act.put, List.setIfInBounds_toArray, List.set_cons_zero, List.set_cons_succ])
  refine wpAnyH_take (i := 48) (oi := { dst := Option.some 98, op := Go.Op.binOp Go.BinOp.eql 9 (Go.Operand.tmp 89) (Go.Operand.tmp 97) 9, type := 4, pos := "law.go:40", after := #[{ on := 39, ground := Go.Ground.data }, { on := 47, ground := Go.Ground.data }, { on := 37, ground := Go.Ground.guard }], guard := Option.some (37, Bool.true) }) (v := ?_) rfl (by kernel_rfl) (by kernel_rfl) (by kernel_rfl) (fun _ _ _ h => h) (Or.inl ⟨by rfl, ?_⟩) (by assumption) ?_
  rotate_left
  · (intro w hSw; (try dsimp only at hSw); go_simp; try with_reducible rfl)
  (try simp only [Act.put, List.setIfInBounds_toArray, List.set_cons_zero, List.set_cons_succ])
  refine wpAnyH_take (i := 49) (oi := { dst := Option.some 99, op := Go.Op.pick (Go.Operand.tmp 87) (Go.Operand.tmp 98) (Go.Operand.const (Go.Value.bool Bool.false)), type := 4, pos := "law.go:40", after := #[{ on := 37, ground := Go.Ground.data }, { on := 48, ground := Go.Ground.data }], guard := Option.none }) (v := ?_) rfl (by kernel_rfl) (by kernel_rfl) (by kernel_rfl) (fun _ _ _ h => h) (Or.inl ⟨by rfl, ?_⟩) (by assumption) ?_
  rotate_left
  · (intro w hSw; (try dsimp only at hSw); go_simp; try with_reducible rfl)
  (try simp only [Act.put, List.setIfInBounds_toArray, List.set_cons_zero, List.set_cons_succ])
  refine wpAnyH_take (i := 50) (oi := { dst := Option.some 100, op := Go.Op.move (Go.Operand.tmp 99), type := 4, pos := "law.go:40", after := #[{ on := 49, ground := Go.Ground.data }, { on := 44, ground := Go.Ground.chain }], guard := Option.none }) (v := ?_) rfl (by kernel_rfl) (by kernel_rfl) (by kernel_rfl) (fun _ _ _ h => h) (Or.inl ⟨by rfl, ?_⟩) (by assumption) ?_
  rotate_left
  · (intro w hSw; (try dsimp only at hSw); go_simp; try with_reducible rfl)
  (try simp only [Act.put, List.setIfInBounds_toArray, List.set_cons_zero, List.set_cons_succ])
  refine wpAnyH_take (i := 51) (oi := { dst := Option.some 101, op := Go.Op.move (Go.Operand.tmp 0), type := 22, pos := "law.go:40", after := #[{ on := 50, ground := Go.Ground.guard }], guard := Option.some (50, Bool.true) }) (v := ?_) rfl (by kernel_rfl) (by kernel_rfl) (by kernel_rfl) (fun _ _ _ h => h) (Or.inl ⟨by rfl, ?_⟩) (by assumption) ?_
  rotate_left
  · (intro w hSw; (try dsimp only at hSw); go_simp; try with_reducible rfl)
  (try simp only [Act.put, List.setIfInBounds_toArray, List.set_cons_zero, List.set_cons_succ])
  refine wpAnyH_take (i := 52) (oi := { dst := Option.some 102, op := Go.Op.convert 22 9 (Go.Operand.tmp 101), type := 9, pos := "law.go:40", after := #[{ on := 51, ground := Go.Ground.data }, { on := 50, ground := Go.Ground.guard }], guard := Option.some (50, Bool.true) }) (v := ?_) rfl (by kernel_rfl) (by kernel_rfl) (by kernel_rfl) (fun _ _ _ h => h) (Or.inl ⟨by rfl, ?_⟩) (by assumption) ?_
  rotate_left
  · (intro w hSw; (try dsimp only at hSw); go_simp; try with_reducible rfl)
  (try simp only [Act.put, List.setIfInBounds_toArray, List.set_cons_zero, List.set_cons_succ])
  refine wpAnyH_take (i := 53) (oi := { dst := Option.some 103, op := Go.Op.move (Go.Operand.tmp 9), type := 9, pos := "law.go:40", after := #[{ on := 50, ground := Go.Ground.guard }], guard := Option.some (50, Bool.true) }) (v := ?_) rfl (by kernel_rfl) (by kernel_rfl) (by kernel_rfl) (fun _ _ _ h => h) (Or.inl ⟨by rfl, ?_⟩) (by assumption) ?_
  rotate_left
  · (intro w hSw; (try dsimp only at hSw); go_simp; try with_reducible rfl)
  (try simp only [Act.put, List.setIfInBounds_toArray, List.set_cons_zero, List.set_cons_succ])
  refine wpAnyH_take (i := 54) (oi := { dst := Option.some 104, op := Go.Op.binOp Go.BinOp.eql 9 (Go.Operand.tmp 102) (Go.Operand.tmp 103) 9, type := 4, pos := "law.go:40", after := #[{ on := 52, ground := Go.Ground.data }, { on := 53, ground := Go.Ground.data }, { on := 50, ground := Go.Ground.guard }], guard := Option.some (50, Bool.true) }) (v := ?_) rfl (by kernel_rfl) (by kernel_rfl) (by kernel_rfl) (fun _ _ _ h => h) (Or.inl ⟨by rfl, ?_⟩) (by assumption) ?_
  rotate_left
  · (intro w hSw; (try dsimp only at hSw); go_simp; try with_reducible rfl)
  (try simp only [Act.put, List.setIfInBounds_toArray, List.set_cons_zero, List.set_cons_succ])
  refine wpAnyH_take (i := 55) (oi := { dst := Option.some 105, op := Go.Op.pick (Go.Operand.tmp 100) (Go.Operand.tmp 104) (Go.Operand.const (Go.Value.bool Bool.false)), type := 4, pos := "law.go:40", after := #[{ on := 50, ground := Go.Ground.data }, { on := 54, ground := Go.Ground.data }], guard := Option.none }) (v := ?_) rfl (by kernel_rfl) (by kernel_rfl) (by kernel_rfl) (fun _ _ _ h => h) (Or.inl ⟨by rfl, ?_⟩) (by assumption) ?_
  rotate_left
  · (intro w hSw; (try dsimp only at hSw); go_simp; try with_reducible rfl)
  (try simp only [Act.put, List.setIfInBounds_toArray, List.set_cons_zero, List.set_cons_succ])
  refine wpAnyH_take (i := 56) (oi := { dst := Option.some 106, op := Go.Op.move (Go.Operand.tmp 105), type := 4, pos := "law.go:40", after := #[{ on := 55, ground := Go.Ground.data }, { on := 50, ground := Go.Ground.chain }], guard := Option.none }) (v := ?_) rfl (by kernel_rfl) (by kernel_rfl) (by kernel_rfl) (fun _ _ _ h => h) (Or.inl ⟨by rfl, ?_⟩) (by assumption) ?_
  rotate_left
  · (intro w hSw; (try dsimp only at hSw); go_simp; try with_reducible rfl)
  (try simp only [Act.put, List.setIfInBounds_toArray, List.set_cons_zero, List.set_cons_succ])
  refine wpAnyH_ready (rs := [57]) (by kernel_rfl) (by simp) ?_
  refine AllReadyH.cons (o := { dst := Option.some 107, op := Go.Op.call { callee := Go.Callee.value (Go.Operand.func 11), args := #[], argTypes := #[] }, type := 4, pos := "law.go:40", after := #[{ on := 56, ground := Go.Ground.chain }, { on := 56, ground := Go.Ground.guard }], guard := Option.some (56, Bool.true) }) rfl (fun K hK => ?_) ?_
  rotate_left
  · exact AllReadyH.nil
  go_simp
  refine (HWK.out _).mono ?_
  rintro e w9 ⟨rfl, b9⟩
  (try go_wp2_with fail)
  refine hK.out _ _ ?_ (fun hHeld9 => ?_)
  · (try dsimp only)
    obtain ⟨_, _, _, _, _, _, ee⟩ := hHeld
    exact MKS.out _ (ext_trans ee b9)
  clear hK K hHeld
  (try simp only [Act.put, List.setIfInBounds_toArray, List.set_cons_zero, List.set_cons_succ])
  have hHeld := hHeld9; clear hHeld9
  refine wpAnyH_take (i := 58) (oi := { dst := Option.some 108, op := Go.Op.pick (Go.Operand.tmp 106) (Go.Operand.tmp 107) (Go.Operand.const (Go.Value.bool Bool.false)), type := 4, pos := "law.go:40", after := #[{ on := 56, ground := Go.Ground.data }, { on := 57, ground := Go.Ground.data }], guard := Option.none }) (v := ?_) rfl (by kernel_rfl) (by kernel_rfl) (by kernel_rfl) (fun _ _ _ h => h) (Or.inl ⟨by rfl, ?_⟩) (by assumption) ?_
  rotate_left
  · (intro w hSw; (try dsimp only at hSw); go_simp; try with_reducible rfl)
  (try simp only [Act.put, List.setIfInBounds_toArray, List.set_cons_zero, List.set_cons_succ])
  refine wpAnyH_take (i := 59) (oi := { dst := Option.some 8, op := Go.Op.assign (Go.Operand.tmp 108), type := 4, pos := "law.go:40", after := #[{ on := 58, ground := Go.Ground.data }, { on := 57, ground := Go.Ground.chain }, { on := 0, ground := Go.Ground.phase }, { on := 1, ground := Go.Ground.phase }, { on := 2, ground := Go.Ground.phase }, { on := 3, ground := Go.Ground.phase }, { on := 4, ground := Go.Ground.phase }, { on := 5, ground := Go.Ground.phase }, { on := 6, ground := Go.Ground.phase }, { on := 7, ground := Go.Ground.phase }, { on := 8, ground := Go.Ground.phase }, { on := 9, ground := Go.Ground.phase }, { on := 10, ground := Go.Ground.phase }, { on := 11, ground := Go.Ground.phase }, { on := 12, ground := Go.Ground.phase }, { on := 13, ground := Go.Ground.phase }, { on := 14, ground := Go.Ground.phase }, { on := 15, ground := Go.Ground.phase }, { on := 16, ground := Go.Ground.phase }, { on := 17, ground := Go.Ground.phase }, { on := 18, ground := Go.Ground.phase }, { on := 19, ground := Go.Ground.phase }, { on := 20, ground := Go.Ground.phase }, { on := 21, ground := Go.Ground.phase }, { on := 22, ground := Go.Ground.phase }, { on := 23, ground := Go.Ground.phase }, { on := 24, ground := Go.Ground.phase }, { on := 25, ground := Go.Ground.phase }, { on := 26, ground := Go.Ground.phase }, { on := 27, ground := Go.Ground.phase }, { on := 28, ground := Go.Ground.phase }, { on := 29, ground := Go.Ground.phase }, { on := 30, ground := Go.Ground.phase }, { on := 31, ground := Go.Ground.phase }, { on := 32, ground := Go.Ground.phase }, { on := 33, ground := Go.Ground.phase }, { on := 34, ground := Go.Ground.phase }, { on := 35, ground := Go.Ground.phase }, { on := 36, ground := Go.Ground.phase }, { on := 37, ground := Go.Ground.phase }, { on := 38, ground := Go.Ground.phase }, { on := 39, ground := Go.Ground.phase }, { on := 40, ground := Go.Ground.phase }, { on := 41, ground := Go.Ground.phase }, { on := 42, ground := Go.Ground.phase }, { on := 43, ground := Go.Ground.phase }, { on := 44, ground := Go.Ground.phase }, { on := 45, ground := Go.Ground.phase }, { on := 46, ground := Go.Ground.phase }, { on := 47, ground := Go.Ground.phase }, { on := 48, ground := Go.Ground.phase }, { on := 49, ground := Go.Ground.phase }, { on := 50, ground := Go.Ground.phase }, { on := 51, ground := Go.Ground.phase }, { on := 52, ground := Go.Ground.phase }, { on := 53, ground := Go.Ground.phase }, { on := 54, ground := Go.Ground.phase }, { on := 55, ground := Go.Ground.phase }, { on := 56, ground := Go.Ground.phase }, { on := 57, ground := Go.Ground.phase }, { on := 58, ground := Go.Ground.phase }], guard := Option.none }) (v := ?_) rfl (by kernel_rfl) (by kernel_rfl) (by kernel_rfl) (fun _ _ _ h => h) (Or.inl ⟨by rfl, ?_⟩) (by assumption) ?_
  rotate_left
  · (intro w hSw; (try dsimp only at hSw); go_simp; try with_reducible rfl)
  (try simp only [Act.put, List.setIfInBounds_toArray, List.set_cons_zero, List.set_cons_succ])
  refine wpAnyH_done (by kernel_rfl) ?_ _
  go_wp2_with fail
  go_ret
  obtain ⟨_, _, _, _, _, _, ee⟩ := hHeld
  exact ⟨rfl, ext_trans E9.out ee⟩
end Go.Proofs.Ytodmjkhfckokhaa.Wire
