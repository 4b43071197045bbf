/- There and back: the law, walked. -/
import Derived.Test.YtodmjkhfckokhaaLzW
namespace Go.Proofs.Ytodmjkhfckokhaa.Lz
open Go.ChangeShapes Go.WideShapes Go.ChangeAt Go.RowKit Go.Shelf
open Go.Proofs.Ytodmjkhfckokhaa.Wire Go.Proofs.Ytodmjkhfckokhaa.Map32
set_option linter.unusedVariables false

/-- A row behind itself, so many times. -/
def tms (xs : List Nat) : Nat → List Nat
  | 0 => xs
  | k + 1 => tms xs k ++ xs
theorem tms_len (xs : List Nat) (k : Nat) : (tms xs k).length = xs.length + xs.length * k := by
  induction k with
  | zero => simp [tms]
  | succ k ih => rw [tms, List.length_append, ih, Nat.mul_succ]; omega
theorem tms_small {xs : List Nat} (h : ∀ j, xs.getD j 0 < 256) (k : Nat) : ∀ j, (tms xs k).getD j 0 < 256 := by
  induction k with
  | zero => exact h
  | succ k ih => exact small_app ih h
theorem own_nil {w : World} {base : Nat} {e : TypeId} {size n c : Nat} {A : Option Addr} {xs : List Value} (h : w.ownsRow base e size (.slice A n c) n xs) : A = none → n = 0 ∧ c = 0 := by
  intro hA
  rcases h.2 with ⟨hq, _⟩ | ⟨g, cap, cur, hq, _⟩
  · obtain ⟨_, h1, h2⟩ := Value.slice.inj hq
    exact ⟨h1, h2⟩
  · obtain ⟨h1, _, _⟩ := Value.slice.inj hq
    rw [hA] at h1; cases h1
def TRel (w : World) (xs : List Nat) (T : Nat) (v iv : Value) (wr : World) : Prop :=
  ∃ k : Nat, k ≤ T ∧ iv = .int .i64 (k : Int) ∧ Wire.Own w wr v (tms xs k) ∧ Ext w wr
set_option maxHeartbeats 16000000 in
set_option maxRecDepth 100000 in
theorem back (A : Option Addr) (N c n1 T : Nat) (xs : List Nat) (w : World) (hB : Bs w A N xs) (hN : N ≤ 5000) (hc1 : N ≤ c) (hc2 : c ≤ 9223372036854775807) (hn1 : n1 < 256) (hT : T = n1 % 8) (hNT : N * T ≤ 20000) :
    Calls Try.prog 10 #[.slice A N c, .int .u8 (n1 : Int)] w fun e w' => e = .returned (.bool true) ∧ Ext w w' := by
  have hx := hB.2.1
  have hxl : xs.length = N := hB.1
  have HB := Lib.hid hB; have HX := Lib.hid hx; have HXL := Lib.hid hxl
  have hT7 : T ≤ 7 := by omega
  have t1 : (n1 : Int).tmod 8 = (T : Int) := by rw [Int.tmod_eq_emod_of_nonneg (by omega)]; omega
  have t2 : (n1 : Int) % 8 = (T : Int) := by omega
  obtain ⟨P, hP⟩ : ∃ P, P = N * T := ⟨_, rfl⟩
  have t3 : (N : Int) * (T : Int) = (P : Int) := by rw [hP]; exact (Int.natCast_mul N T).symm
  have hP2 : P ≤ 20000 := by omega
  have HTL : Hid (∀ k, k ≤ T → (tms xs k).length ≤ 25000) := Lib.hid (fun k hk => by
    rw [tms_len, hxl]
    have := Nat.mul_le_mul_left N hk
    omega)
  obtain ⟨i0, hi0, hz0, hz1, hz2⟩ := info_parts info8
  have HI := Lib.hid (And.intro hi0 (And.intro hz0 (And.intro hz1 hz2))); clear hi0 hz0 hz1 hz2
  clear hB hx hxl hT hP hNT
  go_enter Try.func10, Try.ntmps10
  have z0 : ¬ (5000 : Int) < (N : Int) := by omega
  have z1 : ¬ (20000 : Int) < (P : Int) := by omega
  have HSR := Lib.hid (Bs.src HB.out Try.underlying22 c)
  go_wp2_with (at_builtin; refine wpList_app_own rfl _ (.tmp 26) 22 22 rfl 5 i0 (.int .u8 0) 1 1 Try.underlying22 HI.out.1 HI.out.2.1 HI.out.2.2.1 HI.out.2.2.2 rfl w.heap.size (.slice none 0 0) _ 0 [] rfl rfl (World.ownsRow_nil w _ _ _) N (c8 xs) HSR.out (by unfold maxLen; omega) (by omega) (Nat.le_refl _) ?_; intro v5 w5 hown5 hgr5; have HO5 : Hid (Wire.Own w w5 v5 (tms xs 0)) := Lib.hid (by unfold Wire.Own tms; rw [HXL.out]; simpa using hown5); have HE5 := Lib.hid (ext_grown (Ext.rfl' w) hgr5 (fun k hk => by cases hk)); clear hown5 hgr5)
  clear z1 t3
  go_loopw [5, 6] (fun v iv wr => TRel w xs T v iv wr) (fun _ iv _ => T - (intOf iv).toNat)
  case atStart => exact ⟨0, Nat.zero_le _, rfl, HO5.out, HE5.out⟩
  case round =>
    clear HO5 HE5 HSR
    obtain ⟨k, hk, rfl, hO, hE⟩ := hrel
    have hl := HTL.out k hk
    have HO := Lib.hid hO; have HE := Lib.hid hE; clear hO hE
    obtain ⟨wo, hwo⟩ : ∃ wo, wo = wr := ⟨_, rfl⟩
    subst hwo
    by_cases hkT : k < T
    · have y0 : (k : Int) < (T : Int) := by omega
      have HSR := Lib.hid (Bs.src (HB.out.ext HE.out) Try.underlying22 c)
      have hsz := HE.out.size
      obtain ⟨v, hv⟩ : ∃ v, v = u5 := ⟨_, rfl⟩
      go_wp2_with (at_builtin; refine wpList_app_own rfl (.tmp 35) (.tmp 36) 22 22 rfl 5 i0 (.int .u8 0) 1 1 Try.underlying22 HI.out.1 HI.out.2.1 HI.out.2.2.1 HI.out.2.2.2 rfl w.heap.size _ _ (tms xs k).length (c8 (tms xs k)) rfl rfl HO.out N (c8 xs) HSR.out (by unfold maxLen; omega) (by omega) hsz ?_; intro v6 w6 hown6 hgr6; have HO6 : Hid (Wire.Own w w6 v6 (tms xs (k + 1))) := Lib.hid (by unfold Wire.Own; rw [tms, List.length_append, HXL.out, c8_app]; exact hown6); have HE6 := Lib.hid (ext_grown HE.out hgr6 (own_ge HO.out)); clear hown6 hgr6)
      go_roundw
      case rel => exact ⟨k + 1, by omega, by go_num, HO6.out, HE6.out⟩
      case measure => simp [intOf]; omega
    · have y0 : ¬ (k : Int) < (T : Int) := by omega
      have HYS := Lib.hid (tms_small HX.out k)
      generalize tms xs k = ys at *
      obtain ⟨A1, k1, rfl, hk1, hk2, _⟩ := own_shape HO.out
      have B1 := Lib.hid (Own.bs HO.out HYS.out)
      have hk2' : k1 ≤ 9223372036854775807 := by unfold maxLen at hk2; omega
      obtain ⟨zs, hzs⟩ : ∃ zs, zs = pk ys 0 0 := ⟨_, rfl⟩
      have hzl := pk_len HYS.out _ 0 0 rfl (Nat.le_refl _) (Nat.zero_le _)
      rw [← hzs] at hzl
      have HP := Lib.hid (pack A1 ys.length k1 ys wo B1.out (by omega) hk1 hk2')
      rw [← hzs] at HP
      have HZS := Lib.hid (pk_byte HYS.out)
      rw [← hzs] at HZS
      have HU1 := Lib.hid (unp_pk HYS.out _ 0 0 rfl (Nat.le_refl _) (Nat.zero_le _))
      rw [List.take_zero, ← hzs] at HU1
      have HU2 : Hid (0 < ys.length → unp (ys.length - 1) [] zs = .bad 6) := Lib.hid (fun h0 => by
        have h := unp_low HYS.out (ys.length - 1) (by omega) _ 0 0 rfl (Nat.le_refl _) (Nat.zero_le _) (Nat.zero_le _)
        rw [List.take_zero, ← hzs] at h
        exact h)
      have HNO : Hid (ys.length = 0 → zs.length = 0) := Lib.hid (fun h0 => by omega)
      have HZL := Lib.hid hzl
      have hzl2 : zs.length ≤ 30000 := by omega
      clear hzl hzs hk2
      go_wp2_with fail
      refine HP.out.mono ?_
      rintro e w2 ⟨v2, rfl, hO2, hE2⟩
      obtain ⟨A2, k2, rfl, hj1, hj2, _⟩ := own_shape hO2
      have B2 := Lib.hid (Own.bs hO2 HZS.out)
      have HN2 := Lib.hid (own_nil hO2)
      have HE2 := Lib.hid (ext_trans HE.out hE2)
      have B12 := Lib.hid (B1.out.ext hE2)
      have HUN := Lib.hid (unpack A2 zs.length k2 zs (ys.length : Int) w2 B2.out HN2.out (by omega) (by omega) (by omega))
      rw [Int.toNat_natCast, HU1.out] at HUN
      clear hO2 hE2 hj2
      go_wp2_with fail
      refine HUN.out.mono ?_
      rintro e w3 ⟨hE3, ⟨v3, rfl, hO3⟩, _⟩
      obtain ⟨A3, k3, rfl, _⟩ := own_shape hO3
      have B3 := Lib.hid (Own.bs hO3 HYS.out)
      have HE3 := Lib.hid (ext_trans HE2.out hE3)
      have B13 := Lib.hid (B12.out.ext hE3)
      have B23 := Lib.hid (B2.out.ext hE3)
      have c3 := Com.conv8 B3.out k3
      have c1 := Com.conv8 B13.out k1
      have y1 : ¬ (ys.length : Int) + (ys.length : Int) / 64 + 1 < (zs.length : Int) := by have := HZL.out; omega
      generalize strOf ys = SY at *
      clear hO3 hE3
      by_cases h0 : 0 < ys.length
      · have y2 : (0 : Int) < (ys.length : Int) := by omega
        have HUM := Lib.hid (unpack A2 zs.length k2 zs ((ys.length : Int) - 1) w3 B23.out HN2.out (by omega) (by omega) (by omega))
        rw [show ((ys.length : Int) - 1).toNat = ys.length - 1 from by omega, HU2.out h0] at HUM
        go_wp2_with fail
        refine HUM.out.mono ?_
        rintro e w4 ⟨hE4, rfl, _⟩
        have HE4 := Lib.hid (ext_trans HE3.out hE4)
        clear hE4 c1 c3 y1
        have HQ0 : Hid (i0.bytes * ys.length ≤ 281474976710656) := Lib.hid (by rw [HI.out.2.2.2]; omega)
        have HQ1 : Hid (ys.length ≤ maxLen) := Lib.hid (by unfold maxLen; omega)
        have HZC : Hid ((madeCells (Value.int .u8 0).cells (ys.length * 1)).toList = c8 (List.replicate ys.length 0)) := Lib.hid (by
          rw [Nat.mul_one]
          have := toList_madeCells_one (.int .u8 0) ys.length
          rw [show (Value.int .u8 0).cells = #[.int .u8 0] from rfl, this]
          simp [c8])
        go_wp2_with (at_make; refine wpList_make_full w4 rfl (.tmp 80) (.tmp 80) 22 rfl w4.heap.size 5 i0 (.int .u8 0) 1 Try.underlying22 HI.out.1 HI.out.2.1 HI.out.2.2.1 .i64 .i64 (ys.length : Int) (ys.length : Int) ys.length rfl rfl rfl rfl HQ0.out HQ1.out (Nat.le_refl _) ?_; intro w5 hown5 hg5; rw [HZC.out] at hown5)
        have B5 := Lib.hid (Bs.own hown5 (zeros_small ys.length))
        have HE5 := Lib.hid (ext_grown HE4.out hg5 (fun k hk => by cases hk))
        have hrow := pk_row ys.length h0
        obtain ⟨rs, hrs⟩ : ∃ rs, rs = pk (List.replicate ys.length 0) 0 0 := ⟨_, rfl⟩
        rw [← hrs] at hrow
        have HPR := Lib.hid (pack _ ys.length ys.length _ w5 B5.out (by omega) (Nat.le_refl _) (by omega))
        rw [← hrs] at HPR
        have y5 : (rs.length : Int) ≤ 2 + 2 * ((ys.length : Int) / 66 + 1) + 2 := by omega
        have hrl : rs.length ≤ 30000 := by omega
        clear hown5 hg5 hrs hrow
        refine HPR.out.mono ?_
        rintro e w6 ⟨v6, rfl, hO6, hE6⟩
        obtain ⟨A6, k6, rfl, _⟩ := own_shape hO6
        have HE6 := Lib.hid (ext_trans HE5.out hE6)
        clear hO6 hE6
        go_wp2_with fail
        refine (wakes _).mono ?_
        rintro e w9 ⟨rfl, hE9⟩
        have HE9 := Lib.hid (ext_trans HE6.out hE9)
        clear hE9
        go_wp2_with fail
        go_ret
        exact ⟨rfl, HE9.out⟩
      · have y2 : ¬ (0 : Int) < (ys.length : Int) := by omega
        have y3 := HNO.out (by omega)
        have y4 : ((zs.length : Int) == 0) = true := by rw [y3]; rfl
        clear y3
        go_wp2_with fail
        refine (wakes _).mono ?_
        rintro e w9 ⟨rfl, hE9⟩
        have HE9 := Lib.hid (ext_trans HE3.out hE9)
        clear hE9
        go_wp2_with fail
        go_ret
        exact ⟨rfl, HE9.out⟩
end Go.Proofs.Ytodmjkhfckokhaa.Lz
