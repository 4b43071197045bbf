/- The walk of the law: what is put is read as itself. -/
import Derived.Test.YtodmjkhfckokhaaWireW
namespace Go.Proofs.Ytodmjkhfckokhaa.Wire
open Go.ChangeShapes Go.WideShapes Go.ChangeAt Go.RowKit
set_option linter.unusedVariables false

/-- The bytes that are put. -/
def X (a : Nat) (m : Int) (k : Nat) (s : ByteArray) : List Nat := vb a ++ vb (zz m) ++ fx k ++ vb s.size ++ natsOf s
theorem X_small {a k : Nat} {m : Int} {s : ByteArray} (hk : k < 4294967296) : ∀ j, (X a m k s).getD j 0 < 256 :=
  small_app (small_app (small_app (small_app (vb_byte a) (vb_byte _)) (small_mem (fx_mem hk))) (vb_byte _)) (natsOf_small s)
theorem X_len {a k : Nat} {m : Int} {s : ByteArray} (ha : a < 18446744073709551616) (h1 : -9223372036854775808 ≤ m) (h2 : m ≤ 9223372036854775807) (hs : s.size ≤ 2000) : (X a m k s).length ≤ 2040 := by
  unfold X
  simp only [List.length_append, natsOf_len]
  have e1 := vb_ten ha
  have e2 := vb_ten (zz_lt h1 h2)
  have e3 := vb_ten (n := s.size) (by omega)
  have e4 : (fx k).length = 4 := rfl
  omega
def o1 (a : Nat) : Nat := (vb a).length
def o2 (a : Nat) (m : Int) : Nat := o1 a + (vb (zz m)).length
theorem X_pos (a k : Nat) (m : Int) (s : ByteArray) : 0 < (X a m k s).length := by
  unfold X
  simp only [List.length_append]
  have := vb_pos a
  omega
theorem rd1 {a k : Nat} {m : Int} {s : ByteArray} (ha : a < 18446744073709551616) (ys : List Nat) : vr 0 0 ((X a m k s ++ ys).drop 0) = .ok a (o1 a) := by
  unfold X o1
  rw [List.drop_zero]
  simp only [List.append_assoc]
  exact vr_put ha _
theorem rd2 {a k : Nat} {m : Int} {s : ByteArray} (h1 : -9223372036854775808 ≤ m) (h2 : m ≤ 9223372036854775807) (ys : List Nat) : vr 0 0 ((X a m k s ++ ys).drop (0 + o1 a)) = .ok (zz m) (vb (zz m)).length := by
  unfold X o1
  simp only [List.append_assoc, Nat.zero_add]
  rw [List.drop_left]
  exact vr_put (zz_lt h1 h2) _
theorem dr3 {a k : Nat} {m : Int} {s : ByteArray} (ys : List Nat) : (X a m k s ++ ys).drop (0 + o1 a + (vb (zz m)).length) = fx k ++ (vb s.size ++ (natsOf s ++ ys)) := by
  unfold X o1
  simp only [List.append_assoc, Nat.zero_add]
  rw [← List.drop_drop, List.drop_left, List.drop_left]
theorem dr4 {a k : Nat} {m : Int} {s : ByteArray} (ys : List Nat) : (X a m k s ++ ys).drop (0 + o1 a + (vb (zz m)).length + 4) = vb s.size ++ (natsOf s ++ ys) := by
  rw [← List.drop_drop, dr3]
  exact List.drop_left (l₁ := fx k)
theorem tr_put (s : ByteArray) (ys : List Nat) (hs : s.size ≤ 2000) : tr (vb s.size ++ (natsOf s ++ ys)) (s.size : Int) = .ok (natsOf s) ((vb s.size).length + s.size) := by
  unfold tr
  rw [vr_put (by omega)]
  simp only
  rw [if_neg (by omega), if_neg (by simp only [List.length_append, natsOf_len]; omega), List.drop_left]
  rw [← natsOf_len s, List.take_left]
def Fin (w : World) (g : Nat) (s : Value) (i : Nat) (w' : World) : Prop := Rdr w' g s i 0 ∧ Ext w w'
set_option maxHeartbeats 8000000 in
set_option maxRecDepth 100000 in
theorem back (a b : Nat) (m : Int) (s : ByteArray) (A : Option Addr) (n c : Nat) (ys : List Nat) (ha : a < 18446744073709551616) (hb : b < 18446744073709551616) (h1 : -9223372036854775808 ≤ m) (h2 : m ≤ 9223372036854775807)
    (hs : s.size ≤ 2000) (hn : n ≤ 2000) (w : World) (hB : Bs w A n ys) (hnil : A = none → n = 0 ∧ c = 0) (hnc : n ≤ c) (hc : c ≤ 9223372036854775807) :
    Calls Try.prog 5 #[.int .u64 (a : Int), .int .u64 (b : Int), .int .i64 m, .string s, .slice A n c] w fun e w' => e = .returned (.bool true) ∧ Ext w w' := by
  have HB := Lib.hid hB; have HNIL := Lib.hid hnil; clear hB hnil
  have HA := Lib.hid ha; have HBB := Lib.hid hb; have HM := Lib.hid (And.intro h1 h2)
  obtain ⟨k, hk⟩ : ∃ k : Nat, k = b % 4294967296 := ⟨_, rfl⟩
  have hkl : k < 4294967296 := by omega
  have hki : (b : Int) % 4294967296 = (k : Int) := by omega
  have HXL := Lib.hid (X_len (k := k) ha h1 h2 hs)
  have v1 := vb_ten ha
  have v2 := vb_ten (zz_lt h1 h2)
  clear hk hb
  have C1 := Lib.hid (fun w => put none 0 0 [] a ha w (Bs.none w none) (fun _ => ⟨rfl, rfl⟩) (Nat.le_refl _) (by omega) (by omega))
  go_enter Try.func5, Try.ntmps5
  clear ha
  go_wp2_with fail
  refine (C1.out w).mono ?_
  rw [List.nil_append]
  rintro e w1 ⟨g1, k1, rfl, hk1, hk1', hg1, hO1, hE1⟩
  unfold maxLen at hk1'
  have C2 := Lib.hid (putSigned (some ⟨g1, 0, none⟩) (vb a).length k1 (vb a) m h1 h2 w1 (Own.bs hO1 (vb_byte a)) (fun h => by cases h) hk1 (by omega) (by omega))
  have E1 := Lib.hid hE1
  clear hO1 hE1 hk1'
  go_wp2_with fail
  refine (C2.out).mono ?_
  generalize hx2 : vb a ++ vb (zz m) = x2
  rintro e w2 ⟨g2, k2, rfl, hk2, hk2', hg2, hO2, hE2⟩
  unfold maxLen at hk2'
  have l2 : x2.length ≤ 20 := by rw [← hx2, List.length_append]; omega
  have C3 := Lib.hid (putFixed (some ⟨g2, 0, none⟩) x2.length k2 x2 k hkl w2 (Own.bs hO2 (by rw [← hx2]; exact small_app (vb_byte _) (vb_byte _))) (fun h => by cases h) hk2 (by omega) (by omega))
  have E2 := Lib.hid hE2
  clear hO2 hE2 hk2'
  go_wp2_with fail
  refine (C3.out).mono ?_
  generalize hx3 : x2 ++ fx k = x3
  rintro e w3 ⟨g3, k3, rfl, hk3, hk3', hg3, hO3, hE3⟩
  unfold maxLen at hk3'
  have l3 : x3.length ≤ 24 := by rw [← hx3, List.length_append]; have : (fx k).length = 4 := rfl; omega
  have C4 := Lib.hid (putText (some ⟨g3, 0, none⟩) x3.length k3 x3 s w3 (Own.bs hO3 (by rw [← hx3, ← hx2]; exact small_app (small_app (vb_byte _) (vb_byte _)) (small_mem (fx_mem hkl)))) (fun h => by cases h) hk3 (by omega) (by omega) (by omega))
  have E3 := Lib.hid hE3
  clear hO3 hE3 hk3'
  go_wp2_with fail
  refine (C4.out).mono ?_
  have hXX : x3 ++ vb s.size ++ natsOf s = X a m k s := by rw [← hx3, ← hx2]; rfl
  rw [hXX]
  have HXS := Lib.hid (X_small (a := a) (m := m) (s := s) hkl)
  have HXP := Lib.hid (X_pos a k m s)
  have HR1 := Lib.hid (rd1 (a := a) (k := k) (m := m) (s := s) HA.out ys)
  have HR2 := Lib.hid (rd2 (a := a) (k := k) (m := m) (s := s) h1 h2 ys)
  have HR3 := Lib.hid (dr3 (a := a) (k := k) (m := m) (s := s) ys)
  have HR4 := Lib.hid (dr4 (a := a) (k := k) (m := m) (s := s) ys)
  have HXX : Hid ((X a m k s).length = 0 + o1 a + (vb (zz m)).length + 4 + ((vb s.size).length + s.size)) := Lib.hid (by
    unfold X o1
    simp only [List.length_append, natsOf_len]
    have : (fx k).length = 4 := rfl
    omega)
  clear hXX hx2 hx3 l2 l3 C1 C2 C3 C4
  generalize X a m k s = x at *
  rintro e w4 ⟨g4, k4, rfl, hk4, hk4', hg4, hO4, hE4⟩
  have B4 := Lib.hid (Own.bs hO4 HXS.out)
  have E4 := Lib.hid (ext_trans (ext_trans E1.out E2.out) (ext_trans E3.out hE4))
  clear hO4 hE4 hk4' hk1 hk2 hk3 hg1 hg2 hg3 hg4 E1 E2 E3
  have HO0 : Hid (Own w4 w4 (.slice none 0 0) []) := Lib.hid (World.ownsRow_nil _ _ _ _)
  have HS1 := Lib.hid (Bs.src (P := Try.prog) (tx := 22) B4.out Try.underlying22 k4)
  have HB4 := Lib.hid (HB.out.ext E4.out)
  have hyl : ys.length = n := HB.out.1
  subst hyl
  have HQ1 : Hid (([] : List Nat).length + x.length ≤ 140737488355328) := Lib.hid (by have := HXL.out; simp; omega)
  have HQ2 : Hid (x.length + ys.length ≤ 140737488355328) := Lib.hid (by have := HXL.out; omega)
  go_wp2_with (first | (at_builtin; refine wpList_own (W := w4) rfl (.const (.slice none 0 0)) (.tmp 37) 22 rfl (.slice none 0 0) (.slice (some ⟨g4, 0, none⟩) x.length k4) [] x rfl rfl HO0.out (Ext.rfl' w4) HS1.out HQ1.out ?_; intro v5 w5 hO5 hE5) | (at_builtin; refine wpList_own (W := w4) rfl (.tmp 38) (.tmp 39) 22 rfl v5 (.slice A ys.length c) x ys rfl rfl hO5 hE5 (Bs.src (P := Try.prog) (tx := 22) (HB4.out.ext hE5) Try.underlying22 c) HQ2.out ?_; intro v6 w6 hO6 hE6))
  have HO6 := Lib.hid hO6; have HE6 := Lib.hid (ext_trans E4.out hE6)
  clear hO6 hE6 hO5 hE5
  have hzl : (x ++ ys).length = 0 + o1 a + (vb (zz m)).length + 4 + ((vb s.size).length + s.size) + ys.length := by rw [List.length_append, HXX.out]
  have HZL := Lib.hid hzl; clear hzl
  have HZS : Hid (∀ j, (x ++ ys).getD j 0 < 256) := Lib.hid (small_app HXS.out HB.out.2.1)
  have hzp : 0 < (x ++ ys).length := by rw [List.length_append]; have := HXP.out; omega
  have hzm : (x ++ ys).length ≤ 5000 := by rw [List.length_append]; have := HXL.out; omega
  generalize x ++ ys = z at *
  obtain ⟨A6, c6, hv6, h61, h62, h63⟩ := own_shape HO6.out
  rw [hv6] at HO6
  rw [hv6]
  clear hv6
  obtain ⟨gz, rfl, _⟩ := h63 hzp
  clear h63
  refine (of (some ⟨gz, 0, none⟩) z.length c6 z w6 (Own.bs HO6.out HZS.out) (fun h => by cases h) (by omega)).mono ?_
  rintro e w7 ⟨g, A7, c7, rfl, hg7, hR7, hB7, hE7⟩
  have R7 := Lib.hid hR7; have RB7 := Lib.hid hB7; have E7 := Lib.hid (ext_trans HE6.out hE7)
  have hg : w.heap.size ≤ g := Nat.le_trans HE6.out.size hg7
  clear hR7 hB7 hE7 hg7 h61 h62 HO6
  go_wp2_with fail
  refine (num g z.length c7 0 A7 z w7 R7.out RB7.out.1 (by omega) (by omega)).mono ?_
  rw [HR1.out]
  rintro e w8 ⟨z1, j1, e1, rfl, hz1, hE8, hq1, hq2, hq3⟩
  rw [hq2, hq3] at hE8
  rw [hq1]
  clear hq1 hq2 hq3 hz1
  have F8 := Lib.hid hE8; have RB8 := Lib.hid (RB7.out.eff hE8.2)
  clear hE8
  have hA1 : 0 + o1 a ≤ z.length := by have := HZL.out; omega
  have hA2 : 0 + o1 a + (vb (zz m)).length ≤ z.length := by have := HZL.out; omega
  have hA3 : 0 + o1 a + (vb (zz m)).length + 4 ≤ z.length := by have := HZL.out; omega
  go_wp2_with fail
  refine (signed g z.length c7 (0 + o1 a) A7 z w8 F8.out.1 RB8.out.1 hA1 (by omega) _ _ HR2.out).mono ?_
  rw [uz_zz]
  rintro e w9 ⟨rfl, hE9⟩
  have F9 := Lib.hid (F8.out.trans hE9); have RB9 := Lib.hid (RB8.out.eff hE9.2)
  clear hE9
  go_wp2_with fail
  refine (fixed g z.length c7 (0 + o1 a + (vb (zz m)).length) A7 z w9 F9.out.1 RB9.out hA2 (by omega)).mono ?_
  rw [HR3.out]
  rintro e w10 (⟨_, rfl, hE10⟩ | ⟨h10, _⟩)
  case inr => exact absurd h10 (by rw [List.length_append]; have : (fx k).length = 4 := rfl; omega)
  rw [show (fx k ++ (vb s.size ++ (natsOf s ++ ys))).take 4 = fx k from List.take_left (l₁ := fx k), be_fx hkl]
  have F10 := Lib.hid (F9.out.trans hE10); have RB10 := Lib.hid (RB9.out.eff hE10.2)
  clear hE10
  go_wp2_with fail
  refine (text g z.length c7 (0 + o1 a + (vb (zz m)).length + 4) (s.size : Int) (by omega) (by omega) A7 z w10 F10.out.1 RB10.out hA3 (by omega)).mono ?_
  rw [HR4.out, tr_put s ys hs]
  rintro e w11 ⟨rfl, hE11⟩
  rw [strOf_nats]
  have F11 := Lib.hid (F10.out.trans hE11)
  clear hE11
  go_wp2_with fail
  refine (err_any g _ _ 0 w11 F11.out.1).mono ?_
  rintro e w12 ⟨rfl, rfl⟩
  go_wp2_with fail
  have hA4 : 0 + o1 a + (vb (zz m)).length + 4 + ((vb s.size).length + s.size) ≤ z.length := by have := HZL.out; omega
  have HLF : Hid (z.length - (0 + o1 a + (vb (zz m)).length + 4 + ((vb s.size).length + s.size)) = ys.length) := Lib.hid (by have := HZL.out; omega)
  refine (left_any g z.length c7 A7 _ 0 w11 F11.out.1 hA4 (by omega)).mono ?_
  rw [HLF.out]
  rintro e w12 ⟨rfl, hE12⟩
  have E12 : Hid (Ext w w12) := Lib.hid (ext_trans (ext_grown E7.out F11.out.2 (fun k hk => by obtain rfl := Option.some.inj hk; exact hg)) hE12)
  clear hE12 hA1 hA2 hA3 hA4 hzp hzm F8 F9 F10 F11 RB7 RB8 RB9 RB10 R7 E7 HE6 HLF HR1 HR2 HR3 HR4 HZL HZS HXL HXS HXP HXX HS1 HO0 HQ1 HQ2 B4 HB4 E4 hg
  go_wp2_with fail
  have HH := Lib.hid (heads HA.out HBB.out rfl)
  have lb := vb_ten HBB.out
  have pa := vb_pos a
  have pb := vb_pos b
  have sa := Lib.hid (vb_byte a)
  have sb := Lib.hid (vb_byte b)
  have CA := Lib.hid (put none 0 0 [] a HA.out w12 (Bs.none w12 none) (fun _ => ⟨rfl, rfl⟩) (Nat.le_refl _) (by omega) (by omega))
  have CB := Lib.hid (fun w => put none 0 0 [] b HBB.out w (Bs.none w none) (fun _ => ⟨rfl, rfl⟩) (Nat.le_refl _) (by omega) (by omega))
  have HBN := Lib.hid (HB.out.ext E12.out)
  clear v2 hki hkl h1 h2
  generalize vb a = va at *
  generalize vb b = vbb at *
  refine (CA.out).mono ?_
  rw [List.nil_append]
  rintro e w13 ⟨ga, ka, rfl, hka, hka', hga, hOa, hEa⟩
  unfold maxLen at hka'
  have Ba := Lib.hid (Own.bs hOa sa.out); have Ea := Lib.hid hEa
  clear hOa hEa hga
  go_wp2_with fail
  refine (CB.out w13).mono ?_
  rw [List.nil_append]
  rintro e w14 ⟨gb, kb, rfl, hkb, hkb', hgb, hOb, hEb⟩
  unfold maxLen at hkb'
  have Bb := Lib.hid (Own.bs hOb sb.out); have Eb := Lib.hid hEb; have Ba2 := Lib.hid (Ba.out.ext hEb)
  clear hOb hEb hgb Ba CA CB
  have E14 := Lib.hid (ext_trans (ext_trans E12.out Ea.out) Eb.out)
  have HBM := Lib.hid (HB.out.ext (ext_drew E14.out))
  have COF := Lib.hid (of A ys.length c ys w14.drew HBM.out HNIL.out (by omega))
  clear Ea Eb HBN E12 HA HBB HM
  by_cases hmin : va.length ≤ vbb.length
  · have HH2 : Hid (va.take va.length = vbb.take va.length ↔ a = b) := Lib.hid (by have := HH.out; rwa [Nat.min_eq_left hmin] at this)
    have hnm1 : va.length ≤ va.length := by omega
    have hnm2 : va.length ≤ vbb.length := by omega
    have hnm3 : (va.length : Int) ≤ (ka : Int) := by omega
    have hnm4 : (va.length : Int) ≤ (kb : Int) := by omega
    have hnm5 : ¬ (va.length : Int) < 1 := by omega
    have hnm6 : (0 : Int) ≤ (va.length : Int) := by omega
    have hcva := (Bs.take (Ba2.out.ext (ext_drew (Ext.rfl' _))) hnm1).conv (P := Try.prog) 22 5 9 Try.underlying22 Try.underlying5 Try.underlying9 ka
    have hcvb := (Bs.take (Bb.out.ext (ext_drew (Ext.rfl' _))) hnm2).conv (P := Try.prog) 22 5 9 Try.underlying22 Try.underlying5 Try.underlying9 kb
    have HS : Hid (strOf (va.take (va.length)) = strOf (vbb.take (va.length)) ↔ a = b) := Lib.hid ⟨fun e => HH2.out.1 (strOf_inj ((Bs.take Ba2.out hnm1).2.1) ((Bs.take Bb.out hnm2).2.1) e), fun e => by rw [HH2.out.2 e]⟩
    generalize strOf (va.take (va.length)) = S1 at *
    generalize strOf (vbb.take (va.length)) = S2 at *
    by_cases hab : a = b
    · have hS := HS.out.2 hab
      have hq : ((a : Int) == (b : Int)) = true := by rw [hab]; simp
      have hs2 : (S1.toList == S2.toList) = true := by rw [hS]; simp
      clear hS hab
      go_wp2_with fail
      refine wp_still (by kernel_rfl) (by kernel_rfl) ?_
      repeat still_step
      refine wpStill_nil ?_
      clear hcva hcvb hs2 hq
      go_wp2_with fail
      refine (COF.out).mono ?_
      rintro e w15 ⟨gt, At, ct, rfl, hgt, hRt, hBt, hEt⟩
      have Rt := Lib.hid hRt; have RBt := Lib.hid hBt; have E15 := Lib.hid (ext_trans (ext_drew E14.out) hEt)
      have hgt2 : w.heap.size ≤ gt := Nat.le_trans (ext_drew E14.out).size hgt
      clear hRt hBt hEt hgt
      go_wp2_with fail
      refine (num gt ys.length ct 0 At ys w15 Rt.out RBt.out.1 (by omega) (by omega)).mono ?_
      rw [List.drop_zero]
      have HOK := Lib.hid (fun v k (h : vr 0 0 ys = .ok v k) => vr_ok (mem_small HB.out.2.1) h)
      generalize vr 0 0 ys = V at *
      cases V with
      | short =>
        rintro e w16 ⟨z2, j2, e2, rfl, _, hE16, rfl, rfl, rfl⟩
        have F16 := Lib.hid hE16; have E16 := Lib.hid (ext_grown E15.out hE16.2 (fun k hk => by obtain rfl := Option.some.inj hk; exact hgt2))
        clear hE16
        rw [show (((0 : Nat)) : Int) = 0 from rfl]
        go_wp2_with fail
        refine (err_any gt _ _ 3 w16 F16.out.1).mono ?_
        rintro e w17 ⟨rfl, rfl⟩
        go_wp2_with fail
        refine (at_any gt _ _ 3 w16 F16.out.1).mono ?_
        rintro e w17 ⟨rfl, rfl⟩
        rw [show (((0 + 0 : Nat)) : Int) = 0 from rfl]
        go_wp2_with fail
        refine (wakes w16).mono ?_
        rintro e w17 ⟨rfl, b17⟩
        go_wp2_with fail
        go_ret
        exact ⟨rfl, ext_trans E16.out b17⟩
      | form =>
        rintro e w16 ⟨z2, j2, e2, rfl, _, hE16, rfl, rfl, rfl⟩
        have F16 := Lib.hid hE16; have E16 := Lib.hid (ext_grown E15.out hE16.2 (fun k hk => by obtain rfl := Option.some.inj hk; exact hgt2))
        clear hE16
        rw [show (((0 : Nat)) : Int) = 0 from rfl]
        go_wp2_with fail
        refine (err_any gt _ _ 4 w16 F16.out.1).mono ?_
        rintro e w17 ⟨rfl, rfl⟩
        go_wp2_with fail
        refine (at_any gt _ _ 4 w16 F16.out.1).mono ?_
        rintro e w17 ⟨rfl, rfl⟩
        rw [show (((0 + 0 : Nat)) : Int) = 0 from rfl]
        go_wp2_with fail
        refine (wakes w16).mono ?_
        rintro e w17 ⟨rfl, b17⟩
        go_wp2_with fail
        go_ret
        exact ⟨rfl, ext_trans E16.out b17⟩
      | ok v k =>
        rintro e w16 ⟨z2, j2, e2, rfl, hz2, hE16, hq1, hq2, hq3⟩
        rw [hq2, hq3] at hE16
        rw [hq1]
        clear hq1 hq2 hq3 hz2
        obtain ⟨hv1, hv2, hv3, hv4⟩ := HOK.out v k rfl
        have F16 := Lib.hid hE16; have E16 := Lib.hid (ext_grown E15.out hE16.2 (fun k hk => by obtain rfl := Option.some.inj hk; exact hgt2))
        clear hE16
        go_wp2_with fail
        refine (err_any gt _ _ 0 w16 F16.out.1).mono ?_
        rintro e w17 ⟨rfl, rfl⟩
        have CV := Lib.hid (put none 0 0 [] v hv3 w16 (Bs.none w16 none) (fun _ => ⟨rfl, rfl⟩) (Nat.le_refl _) (by omega) (by omega))
        have hvp := vb_pos v
        have sv := Lib.hid (vb_byte v)
        have HVT : Hid (vb v = ys.take (vb v).length) := Lib.hid (by rw [← hv2]; exact hv1)
        subst hv2
        clear hv1 hv3 HOK
        generalize vb v = vv at *
        obtain ⟨bb, ob, hAA, _, _⟩ := HB.out.2.2 (by omega)
        subst hAA
        go_wp2_with fail
        refine (CV.out).mono ?_
        rw [List.nil_append]
        rintro e w17 ⟨gv, kv, rfl, hkv, hkv', hgv, hOv, hEv⟩
        unfold maxLen at hkv'
        have Bv := Lib.hid (Own.bs hOv sv.out)
        have R17 := Lib.hid ((F16.out.ext hEv).1.ext (ext_drew (Ext.rfl' _)))
        have E17 := Lib.hid (ext_trans E16.out hEv)
        have HBZ := Lib.hid (HB.out.ext (ext_drew E17.out))
        clear hOv hEv hgv
        have hcv1 := (Bv.out.ext (ext_drew (Ext.rfl' _))).conv (P := Try.prog) 22 5 9 Try.underlying22 Try.underlying5 Try.underlying9 kv
        have hcv2 := (Bs.take HBZ.out hv4).conv (P := Try.prog) 22 5 9 Try.underlying22 Try.underlying5 Try.underlying9 c
        rw [← HVT.out] at hcv2
        generalize strOf vv = SV at *
        have HAT := Lib.hid ((at_any gt _ _ 0 w17.drew R17.out).mono (fun e w' h => (⟨h.1, h.2.symm⟩ : e = .returned _ ∧ w' = w17.drew)))
        rw [Nat.zero_add] at HAT
        have hl1 : (vv.length : Int) ≤ (c : Int) := by omega
        have hl2 : (vv.length : Int) ≤ (ys.length : Int) := by omega
        have hl3 : (0 : Int) ≤ (vv.length : Int) := by omega
        go_wp2_with fail
        refine wp_still_tail 23 (by kernel_rfl) (by kernel_rfl) ?_
        simp only [List.take_succ_cons, List.take_zero, List.drop_succ_cons, List.drop_zero]
        repeat (first | still_step | still_call HAT.out)
        refine wpStill_nil ?_
        go_wp2_with fail
        refine (wakes _).mono ?_
        rintro e w18 ⟨rfl, b18⟩
        go_wp2_with fail
        go_ret
        exact ⟨rfl, ext_trans (ext_drew E17.out) b18⟩
    · have hS : (S1.toList == S2.toList) = false := beq_eq_false_iff_ne.2 (str_ne (fun e => hab (HS.out.1 e)))
      have hq : ((a : Int) == (b : Int)) = false := beq_eq_false_iff_ne.2 (by omega)
      clear hab
      go_wp2_with fail
      refine wp_still (by kernel_rfl) (by kernel_rfl) ?_
      repeat still_step
      refine wpStill_nil ?_
      clear hcva hcvb hS hq
      go_wp2_with fail
      refine (COF.out).mono ?_
      rintro e w15 ⟨gt, At, ct, rfl, hgt, hRt, hBt, hEt⟩
      have Rt := Lib.hid hRt; have RBt := Lib.hid hBt; have E15 := Lib.hid (ext_trans (ext_drew E14.out) hEt)
      have hgt2 : w.heap.size ≤ gt := Nat.le_trans (ext_drew E14.out).size hgt
      clear hRt hBt hEt hgt
      go_wp2_with fail
      refine (num gt ys.length ct 0 At ys w15 Rt.out RBt.out.1 (by omega) (by omega)).mono ?_
      rw [List.drop_zero]
      have HOK := Lib.hid (fun v k (h : vr 0 0 ys = .ok v k) => vr_ok (mem_small HB.out.2.1) h)
      generalize vr 0 0 ys = V at *
      cases V with
      | short =>
        rintro e w16 ⟨z2, j2, e2, rfl, _, hE16, rfl, rfl, rfl⟩
        have F16 := Lib.hid hE16; have E16 := Lib.hid (ext_grown E15.out hE16.2 (fun k hk => by obtain rfl := Option.some.inj hk; exact hgt2))
        clear hE16
        rw [show (((0 : Nat)) : Int) = 0 from rfl]
        go_wp2_with fail
        refine (err_any gt _ _ 3 w16 F16.out.1).mono ?_
        rintro e w17 ⟨rfl, rfl⟩
        go_wp2_with fail
        refine (at_any gt _ _ 3 w16 F16.out.1).mono ?_
        rintro e w17 ⟨rfl, rfl⟩
        rw [show (((0 + 0 : Nat)) : Int) = 0 from rfl]
        go_wp2_with fail
        refine (wakes w16).mono ?_
        rintro e w17 ⟨rfl, b17⟩
        go_wp2_with fail
        go_ret
        exact ⟨rfl, ext_trans E16.out b17⟩
      | form =>
        rintro e w16 ⟨z2, j2, e2, rfl, _, hE16, rfl, rfl, rfl⟩
        have F16 := Lib.hid hE16; have E16 := Lib.hid (ext_grown E15.out hE16.2 (fun k hk => by obtain rfl := Option.some.inj hk; exact hgt2))
        clear hE16
        rw [show (((0 : Nat)) : Int) = 0 from rfl]
        go_wp2_with fail
        refine (err_any gt _ _ 4 w16 F16.out.1).mono ?_
        rintro e w17 ⟨rfl, rfl⟩
        go_wp2_with fail
        refine (at_any gt _ _ 4 w16 F16.out.1).mono ?_
        rintro e w17 ⟨rfl, rfl⟩
        rw [show (((0 + 0 : Nat)) : Int) = 0 from rfl]
        go_wp2_with fail
        refine (wakes w16).mono ?_
        rintro e w17 ⟨rfl, b17⟩
        go_wp2_with fail
        go_ret
        exact ⟨rfl, ext_trans E16.out b17⟩
      | ok v k =>
        rintro e w16 ⟨z2, j2, e2, rfl, hz2, hE16, hq1, hq2, hq3⟩
        rw [hq2, hq3] at hE16
        rw [hq1]
        clear hq1 hq2 hq3 hz2
        obtain ⟨hv1, hv2, hv3, hv4⟩ := HOK.out v k rfl
        have F16 := Lib.hid hE16; have E16 := Lib.hid (ext_grown E15.out hE16.2 (fun k hk => by obtain rfl := Option.some.inj hk; exact hgt2))
        clear hE16
        go_wp2_with fail
        refine (err_any gt _ _ 0 w16 F16.out.1).mono ?_
        rintro e w17 ⟨rfl, rfl⟩
        have CV := Lib.hid (put none 0 0 [] v hv3 w16 (Bs.none w16 none) (fun _ => ⟨rfl, rfl⟩) (Nat.le_refl _) (by omega) (by omega))
        have hvp := vb_pos v
        have sv := Lib.hid (vb_byte v)
        have HVT : Hid (vb v = ys.take (vb v).length) := Lib.hid (by rw [← hv2]; exact hv1)
        subst hv2
        clear hv1 hv3 HOK
        generalize vb v = vv at *
        obtain ⟨bb, ob, hAA, _, _⟩ := HB.out.2.2 (by omega)
        subst hAA
        go_wp2_with fail
        refine (CV.out).mono ?_
        rw [List.nil_append]
        rintro e w17 ⟨gv, kv, rfl, hkv, hkv', hgv, hOv, hEv⟩
        unfold maxLen at hkv'
        have Bv := Lib.hid (Own.bs hOv sv.out)
        have R17 := Lib.hid ((F16.out.ext hEv).1.ext (ext_drew (Ext.rfl' _)))
        have E17 := Lib.hid (ext_trans E16.out hEv)
        have HBZ := Lib.hid (HB.out.ext (ext_drew E17.out))
        clear hOv hEv hgv
        have hcv1 := (Bv.out.ext (ext_drew (Ext.rfl' _))).conv (P := Try.prog) 22 5 9 Try.underlying22 Try.underlying5 Try.underlying9 kv
        have hcv2 := (Bs.take HBZ.out hv4).conv (P := Try.prog) 22 5 9 Try.underlying22 Try.underlying5 Try.underlying9 c
        rw [← HVT.out] at hcv2
        generalize strOf vv = SV at *
        have HAT := Lib.hid ((at_any gt _ _ 0 w17.drew R17.out).mono (fun e w' h => (⟨h.1, h.2.symm⟩ : e = .returned _ ∧ w' = w17.drew)))
        rw [Nat.zero_add] at HAT
        have hl1 : (vv.length : Int) ≤ (c : Int) := by omega
        have hl2 : (vv.length : Int) ≤ (ys.length : Int) := by omega
        have hl3 : (0 : Int) ≤ (vv.length : Int) := by omega
        go_wp2_with fail
        refine wp_still_tail 23 (by kernel_rfl) (by kernel_rfl) ?_
        simp only [List.take_succ_cons, List.take_zero, List.drop_succ_cons, List.drop_zero]
        repeat (first | still_step | still_call HAT.out)
        refine wpStill_nil ?_
        go_wp2_with fail
        refine (wakes _).mono ?_
        rintro e w18 ⟨rfl, b18⟩
        go_wp2_with fail
        go_ret
        exact ⟨rfl, ext_trans (ext_drew E17.out) b18⟩
  · have HH2 : Hid (va.take vbb.length = vbb.take vbb.length ↔ a = b) := Lib.hid (by have := HH.out; rwa [Nat.min_eq_right (by omega)] at this)
    have hnm1 : vbb.length ≤ va.length := by omega
    have hnm2 : vbb.length ≤ vbb.length := by omega
    have hnm3 : (vbb.length : Int) ≤ (ka : Int) := by omega
    have hnm4 : (vbb.length : Int) ≤ (kb : Int) := by omega
    have hnm5 : ¬ (vbb.length : Int) < 1 := by omega
    have hnm6 : (0 : Int) ≤ (vbb.length : Int) := by omega
    have hcva := (Bs.take (Ba2.out.ext (ext_drew (Ext.rfl' _))) hnm1).conv (P := Try.prog) 22 5 9 Try.underlying22 Try.underlying5 Try.underlying9 ka
    have hcvb := (Bs.take (Bb.out.ext (ext_drew (Ext.rfl' _))) hnm2).conv (P := Try.prog) 22 5 9 Try.underlying22 Try.underlying5 Try.underlying9 kb
    have HS : Hid (strOf (va.take (vbb.length)) = strOf (vbb.take (vbb.length)) ↔ a = b) := Lib.hid ⟨fun e => HH2.out.1 (strOf_inj ((Bs.take Ba2.out hnm1).2.1) ((Bs.take Bb.out hnm2).2.1) e), fun e => by rw [HH2.out.2 e]⟩
    generalize strOf (va.take (vbb.length)) = S1 at *
    generalize strOf (vbb.take (vbb.length)) = S2 at *
    by_cases hab : a = b
    · have hS := HS.out.2 hab
      have hq : ((a : Int) == (b : Int)) = true := by rw [hab]; simp
      have hs2 : (S1.toList == S2.toList) = true := by rw [hS]; simp
      clear hS hab
      go_wp2_with fail
      refine wp_still (by kernel_rfl) (by kernel_rfl) ?_
      repeat still_step
      refine wpStill_nil ?_
      clear hcva hcvb hs2 hq
      go_wp2_with fail
      refine (COF.out).mono ?_
      rintro e w15 ⟨gt, At, ct, rfl, hgt, hRt, hBt, hEt⟩
      have Rt := Lib.hid hRt; have RBt := Lib.hid hBt; have E15 := Lib.hid (ext_trans (ext_drew E14.out) hEt)
      have hgt2 : w.heap.size ≤ gt := Nat.le_trans (ext_drew E14.out).size hgt
      clear hRt hBt hEt hgt
      go_wp2_with fail
      refine (num gt ys.length ct 0 At ys w15 Rt.out RBt.out.1 (by omega) (by omega)).mono ?_
      rw [List.drop_zero]
      have HOK := Lib.hid (fun v k (h : vr 0 0 ys = .ok v k) => vr_ok (mem_small HB.out.2.1) h)
      generalize vr 0 0 ys = V at *
      cases V with
      | short =>
        rintro e w16 ⟨z2, j2, e2, rfl, _, hE16, rfl, rfl, rfl⟩
        have F16 := Lib.hid hE16; have E16 := Lib.hid (ext_grown E15.out hE16.2 (fun k hk => by obtain rfl := Option.some.inj hk; exact hgt2))
        clear hE16
        rw [show (((0 : Nat)) : Int) = 0 from rfl]
        go_wp2_with fail
        refine (err_any gt _ _ 3 w16 F16.out.1).mono ?_
        rintro e w17 ⟨rfl, rfl⟩
        go_wp2_with fail
        refine (at_any gt _ _ 3 w16 F16.out.1).mono ?_
        rintro e w17 ⟨rfl, rfl⟩
        rw [show (((0 + 0 : Nat)) : Int) = 0 from rfl]
        go_wp2_with fail
        refine (wakes w16).mono ?_
        rintro e w17 ⟨rfl, b17⟩
        go_wp2_with fail
        go_ret
        exact ⟨rfl, ext_trans E16.out b17⟩
      | form =>
        rintro e w16 ⟨z2, j2, e2, rfl, _, hE16, rfl, rfl, rfl⟩
        have F16 := Lib.hid hE16; have E16 := Lib.hid (ext_grown E15.out hE16.2 (fun k hk => by obtain rfl := Option.some.inj hk; exact hgt2))
        clear hE16
        rw [show (((0 : Nat)) : Int) = 0 from rfl]
        go_wp2_with fail
        refine (err_any gt _ _ 4 w16 F16.out.1).mono ?_
        rintro e w17 ⟨rfl, rfl⟩
        go_wp2_with fail
        refine (at_any gt _ _ 4 w16 F16.out.1).mono ?_
        rintro e w17 ⟨rfl, rfl⟩
        rw [show (((0 + 0 : Nat)) : Int) = 0 from rfl]
        go_wp2_with fail
        refine (wakes w16).mono ?_
        rintro e w17 ⟨rfl, b17⟩
        go_wp2_with fail
        go_ret
        exact ⟨rfl, ext_trans E16.out b17⟩
      | ok v k =>
        rintro e w16 ⟨z2, j2, e2, rfl, hz2, hE16, hq1, hq2, hq3⟩
        rw [hq2, hq3] at hE16
        rw [hq1]
        clear hq1 hq2 hq3 hz2
        obtain ⟨hv1, hv2, hv3, hv4⟩ := HOK.out v k rfl
        have F16 := Lib.hid hE16; have E16 := Lib.hid (ext_grown E15.out hE16.2 (fun k hk => by obtain rfl := Option.some.inj hk; exact hgt2))
        clear hE16
        go_wp2_with fail
        refine (err_any gt _ _ 0 w16 F16.out.1).mono ?_
        rintro e w17 ⟨rfl, rfl⟩
        have CV := Lib.hid (put none 0 0 [] v hv3 w16 (Bs.none w16 none) (fun _ => ⟨rfl, rfl⟩) (Nat.le_refl _) (by omega) (by omega))
        have hvp := vb_pos v
        have sv := Lib.hid (vb_byte v)
        have HVT : Hid (vb v = ys.take (vb v).length) := Lib.hid (by rw [← hv2]; exact hv1)
        subst hv2
        clear hv1 hv3 HOK
        generalize vb v = vv at *
        obtain ⟨bb, ob, hAA, _, _⟩ := HB.out.2.2 (by omega)
        subst hAA
        go_wp2_with fail
        refine (CV.out).mono ?_
        rw [List.nil_append]
        rintro e w17 ⟨gv, kv, rfl, hkv, hkv', hgv, hOv, hEv⟩
        unfold maxLen at hkv'
        have Bv := Lib.hid (Own.bs hOv sv.out)
        have R17 := Lib.hid ((F16.out.ext hEv).1.ext (ext_drew (Ext.rfl' _)))
        have E17 := Lib.hid (ext_trans E16.out hEv)
        have HBZ := Lib.hid (HB.out.ext (ext_drew E17.out))
        clear hOv hEv hgv
        have hcv1 := (Bv.out.ext (ext_drew (Ext.rfl' _))).conv (P := Try.prog) 22 5 9 Try.underlying22 Try.underlying5 Try.underlying9 kv
        have hcv2 := (Bs.take HBZ.out hv4).conv (P := Try.prog) 22 5 9 Try.underlying22 Try.underlying5 Try.underlying9 c
        rw [← HVT.out] at hcv2
        generalize strOf vv = SV at *
        have HAT := Lib.hid ((at_any gt _ _ 0 w17.drew R17.out).mono (fun e w' h => (⟨h.1, h.2.symm⟩ : e = .returned _ ∧ w' = w17.drew)))
        rw [Nat.zero_add] at HAT
        have hl1 : (vv.length : Int) ≤ (c : Int) := by omega
        have hl2 : (vv.length : Int) ≤ (ys.length : Int) := by omega
        have hl3 : (0 : Int) ≤ (vv.length : Int) := by omega
        go_wp2_with fail
        refine wp_still_tail 23 (by kernel_rfl) (by kernel_rfl) ?_
        simp only [List.take_succ_cons, List.take_zero, List.drop_succ_cons, List.drop_zero]
        repeat (first | still_step | still_call HAT.out)
        refine wpStill_nil ?_
        go_wp2_with fail
        refine (wakes _).mono ?_
        rintro e w18 ⟨rfl, b18⟩
        go_wp2_with fail
        go_ret
        exact ⟨rfl, ext_trans (ext_drew E17.out) b18⟩
    · have hS : (S1.toList == S2.toList) = false := beq_eq_false_iff_ne.2 (str_ne (fun e => hab (HS.out.1 e)))
      have hq : ((a : Int) == (b : Int)) = false := beq_eq_false_iff_ne.2 (by omega)
      clear hab
      go_wp2_with fail
      refine wp_still (by kernel_rfl) (by kernel_rfl) ?_
      repeat still_step
      refine wpStill_nil ?_
      clear hcva hcvb hS hq
      go_wp2_with fail
      refine (COF.out).mono ?_
      rintro e w15 ⟨gt, At, ct, rfl, hgt, hRt, hBt, hEt⟩
      have Rt := Lib.hid hRt; have RBt := Lib.hid hBt; have E15 := Lib.hid (ext_trans (ext_drew E14.out) hEt)
      have hgt2 : w.heap.size ≤ gt := Nat.le_trans (ext_drew E14.out).size hgt
      clear hRt hBt hEt hgt
      go_wp2_with fail
      refine (num gt ys.length ct 0 At ys w15 Rt.out RBt.out.1 (by omega) (by omega)).mono ?_
      rw [List.drop_zero]
      have HOK := Lib.hid (fun v k (h : vr 0 0 ys = .ok v k) => vr_ok (mem_small HB.out.2.1) h)
      generalize vr 0 0 ys = V at *
      cases V with
      | short =>
        rintro e w16 ⟨z2, j2, e2, rfl, _, hE16, rfl, rfl, rfl⟩
        have F16 := Lib.hid hE16; have E16 := Lib.hid (ext_grown E15.out hE16.2 (fun k hk => by obtain rfl := Option.some.inj hk; exact hgt2))
        clear hE16
        rw [show (((0 : Nat)) : Int) = 0 from rfl]
        go_wp2_with fail
        refine (err_any gt _ _ 3 w16 F16.out.1).mono ?_
        rintro e w17 ⟨rfl, rfl⟩
        go_wp2_with fail
        refine (at_any gt _ _ 3 w16 F16.out.1).mono ?_
        rintro e w17 ⟨rfl, rfl⟩
        rw [show (((0 + 0 : Nat)) : Int) = 0 from rfl]
        go_wp2_with fail
        refine (wakes w16).mono ?_
        rintro e w17 ⟨rfl, b17⟩
        go_wp2_with fail
        go_ret
        exact ⟨rfl, ext_trans E16.out b17⟩
      | form =>
        rintro e w16 ⟨z2, j2, e2, rfl, _, hE16, rfl, rfl, rfl⟩
        have F16 := Lib.hid hE16; have E16 := Lib.hid (ext_grown E15.out hE16.2 (fun k hk => by obtain rfl := Option.some.inj hk; exact hgt2))
        clear hE16
        rw [show (((0 : Nat)) : Int) = 0 from rfl]
        go_wp2_with fail
        refine (err_any gt _ _ 4 w16 F16.out.1).mono ?_
        rintro e w17 ⟨rfl, rfl⟩
        go_wp2_with fail
        refine (at_any gt _ _ 4 w16 F16.out.1).mono ?_
        rintro e w17 ⟨rfl, rfl⟩
        rw [show (((0 + 0 : Nat)) : Int) = 0 from rfl]
        go_wp2_with fail
        refine (wakes w16).mono ?_
        rintro e w17 ⟨rfl, b17⟩
        go_wp2_with fail
        go_ret
        exact ⟨rfl, ext_trans E16.out b17⟩
      | ok v k =>
        rintro e w16 ⟨z2, j2, e2, rfl, hz2, hE16, hq1, hq2, hq3⟩
        rw [hq2, hq3] at hE16
        rw [hq1]
        clear hq1 hq2 hq3 hz2
        obtain ⟨hv1, hv2, hv3, hv4⟩ := HOK.out v k rfl
        have F16 := Lib.hid hE16; have E16 := Lib.hid (ext_grown E15.out hE16.2 (fun k hk => by obtain rfl := Option.some.inj hk; exact hgt2))
        clear hE16
        go_wp2_with fail
        refine (err_any gt _ _ 0 w16 F16.out.1).mono ?_
        rintro e w17 ⟨rfl, rfl⟩
        have CV := Lib.hid (put none 0 0 [] v hv3 w16 (Bs.none w16 none) (fun _ => ⟨rfl, rfl⟩) (Nat.le_refl _) (by omega) (by omega))
        have hvp := vb_pos v
        have sv := Lib.hid (vb_byte v)
        have HVT : Hid (vb v = ys.take (vb v).length) := Lib.hid (by rw [← hv2]; exact hv1)
        subst hv2
        clear hv1 hv3 HOK
        generalize vb v = vv at *
        obtain ⟨bb, ob, hAA, _, _⟩ := HB.out.2.2 (by omega)
        subst hAA
        go_wp2_with fail
        refine (CV.out).mono ?_
        rw [List.nil_append]
        rintro e w17 ⟨gv, kv, rfl, hkv, hkv', hgv, hOv, hEv⟩
        unfold maxLen at hkv'
        have Bv := Lib.hid (Own.bs hOv sv.out)
        have R17 := Lib.hid ((F16.out.ext hEv).1.ext (ext_drew (Ext.rfl' _)))
        have E17 := Lib.hid (ext_trans E16.out hEv)
        have HBZ := Lib.hid (HB.out.ext (ext_drew E17.out))
        clear hOv hEv hgv
        have hcv1 := (Bv.out.ext (ext_drew (Ext.rfl' _))).conv (P := Try.prog) 22 5 9 Try.underlying22 Try.underlying5 Try.underlying9 kv
        have hcv2 := (Bs.take HBZ.out hv4).conv (P := Try.prog) 22 5 9 Try.underlying22 Try.underlying5 Try.underlying9 c
        rw [← HVT.out] at hcv2
        generalize strOf vv = SV at *
        have HAT := Lib.hid ((at_any gt _ _ 0 w17.drew R17.out).mono (fun e w' h => (⟨h.1, h.2.symm⟩ : e = .returned _ ∧ w' = w17.drew)))
        rw [Nat.zero_add] at HAT
        have hl1 : (vv.length : Int) ≤ (c : Int) := by omega
        have hl2 : (vv.length : Int) ≤ (ys.length : Int) := by omega
        have hl3 : (0 : Int) ≤ (vv.length : Int) := by omega
        go_wp2_with fail
        refine wp_still_tail 23 (by kernel_rfl) (by kernel_rfl) ?_
        simp only [List.take_succ_cons, List.take_zero, List.drop_succ_cons, List.drop_zero]
        repeat (first | still_step | still_call HAT.out)
        refine wpStill_nil ?_
        go_wp2_with fail
        refine (wakes _).mono ?_
        rintro e w18 ⟨rfl, b18⟩
        go_wp2_with fail
        go_ret
        exact ⟨rfl, ext_trans (ext_drew E17.out) b18⟩
end Go.Proofs.Ytodmjkhfckokhaa.Wire
