/- Tracks: TrackTells walked. -/
import Derived.Test.YtlldmpcamdginaaTrkU
import Derived.Test.YtlldmpcamdginaaTrkA1
import Derived.Test.YtlldmpcamdginaaTrkB2
namespace Go.Proofs.Ytlldmpcamdginaa.Trk
open Go.ChangeShapes Go.WideShapes Go.ChangeAt Go.RowKit
open Go.Proofs.Ytlldmpcamdginaa.Wire
open Go.Proofs.Ytlldmpcamdginaa.Rec
set_option linter.unusedVariables false
theorem cam_all (t : Tv) (x : Tk) (n player tick : Int) (w : World) (hT : TkV w t x) (hm : mayT n x = true) (hp1 : -9223372036854775808 ≤ player) (hp2 : player ≤ 9223372036854775807) (ht1 : -9223372036854775808 ≤ tick) (ht2 : tick ≤ 9223372036854775807) :
    Calls Try.prog 20 #[.agg t.cells, .int .i64 player, .int .i64 tick] w (CamPost w (camT x player tick).1 (camT x player tick).2.1 (camT x player tick).2.2) := by
  by_cases hp : player < 0 ∨ 3 < player
  · have e : camT x player tick = (0, 0, 2) := by rw [camT, if_pos hp]
    rw [e]
    exact camera_arg t player (by omega) tick w
  · obtain ⟨p, rfl⟩ : ∃ p : Nat, player = (p : Int) := ⟨player.toNat, by omega⟩
    have hlt : p < 4 := by omega
    obtain ⟨hO, h64⟩ := cam_may hm p hlt
    have hP : PtsV w (t.sl p).A (t.sl p).n (t.sl p).c (x.cam p) := by
      rcases lt5 (show p < 5 by omega) with rfl | rfl | rfl | rfl | rfl
      · exact hT.1
      · exact hT.2.1
      · exact hT.2.2.1
      · exact hT.2.2.2.1
      · omega
    have hl := hP.1.1
    have e : camT x (p : Int) tick = if (x.cam p).length = 0 then (0, 0, 9) else ((camAt tick (x.cam p)).1, (camAt tick (x.cam p)).2, 0) := by rw [camT, if_neg hp, Int.toNat_natCast]
    by_cases hz : (x.cam p).length = 0
    · rw [e, if_pos hz]
      have hn : (t.sl p).n = 0 := by omega
      exact camera_none t p hlt (t.sl p).A (t.sl p).c (by rw [sl_get t p (by omega), hn]) tick w
    · rw [e, if_neg hz]
      exact camera_in t p hlt _ _ _ (sl_get t p (by omega)) (x.cam p) tick w hP hO (by omega) (by omega) ht1 ht2
theorem camT_in {n : Int} {x : Tk} (hm : mayT n x = true) (player tick : Int) : 0 ≤ (camT x player tick).1 ∧ (camT x player tick).1 ≤ 16384 ∧ 0 ≤ (camT x player tick).2.1 ∧ (camT x player tick).2.1 ≤ 16384 := by
  unfold camT
  split
  · simp
  · split
    · simp
    · rename_i hp hz
      obtain ⟨p, rfl⟩ : ∃ p : Nat, player = (p : Int) := ⟨player.toNat, by omega⟩
      rw [Int.toNat_natCast] at hz ⊢
      obtain ⟨hO, _⟩ := cam_may hm p (by omega)
      obtain ⟨⟨q1, q2⟩, q3, q4⟩ := camAt_in hO tick
      exact ⟨q1, q2, q3, q4⟩
theorem insM_len (m : Mk) : ∀ qs : List Mk, (insM m qs).length = qs.length + 1
  | [] => rfl
  | q :: qs => by
    rw [insM]; split
    · rfl
    · rw [List.length_cons, insM_len m qs, List.length_cons]
theorem addT_cams (n : Int) (x : Tk) (m : Mk) : (addT n x m).1.cams = x.cams ∧ (addT n x m).1.marks.length ≤ x.marks.length + 1 := by
  unfold addT
  split
  · split
    · exact ⟨rfl, by simp only; omega⟩
    · exact ⟨rfl, by simp only; rw [insM_len]; omega⟩
  · exact ⟨rfl, by simp only; omega⟩
theorem dropT_cams (x : Tk) (i : Int) : (dropT x i).1.cams = x.cams ∧ (dropT x i).1.marks.length ≤ x.marks.length := by
  unfold dropT
  split
  · refine ⟨rfl, ?_⟩
    simp only [List.length_append, List.length_take, List.length_drop]; omega
  · exact ⟨rfl, Nat.le_refl _⟩
set_option maxHeartbeats 16000000 in
set_option maxRecDepth 100000 in
theorem trackTells (t : Tv) (x : Tk) (n player tick : Int) (m : Mk) (i : Int) (w : World) (hB : RfV w t x) (hz : Room x) (hn1 : -9223372036854775808 ≤ n) (hn2 : n ≤ 9223372036854775807) (hp1 : -9223372036854775808 ≤ player) (hp2 : player ≤ 9223372036854775807)
    (ht1 : -9223372036854775808 ≤ tick) (ht2 : tick ≤ 9223372036854775807) (hi1 : -9223372036854775808 ≤ i) (hi2 : i ≤ 9223372036854775807) (hms : m.name.size ≤ 9223372036854775807) :
    Calls Try.prog 4 #[.agg t.cells, .int .i64 n, .int .i64 player, .int .i64 tick, .agg #[.int .i64 m.tick, .string m.name], .int .i64 i] w fun e w' => e = .returned (.bool true) ∧ Ext w w' := by
  have HWK := Lib.hid wakes_tr
  have hx0 := ext_alloc (ext_alloc (Ext.rfl' w) (.cells t.cells 47)) (.cells #[.int .i64 m.tick, .string m.name] 49)
  have HE0 := Lib.hid hx0
  have HH0 := Lib.hid ((Blk.new w 47 t.cells).alloc (.cells #[.int .i64 m.tick, .string m.name] 49))
  have HM0 := Lib.hid (Blk.new1 w (.cells t.cells 47) 49 #[.int .i64 m.tick, .string m.name])
  have HX0 := Lib.hid (hB.ext hx0)
  have HOF := Lib.hid (of_tr t x _ HX0.out hz)
  have HGR := Lib.hid (fun (W : World) (e : RfV W t x) => great_tr t x W e)
  have HMY := Lib.hid (fun (W : World) (e : RfV W t x) => rmay_tr t x n W e hn1 hn2)
  have HRC := Lib.hid (fun (W : World) (e : RfV W t x) (hm : mayT n x = true) => rcam_tr t x n player tick W e hm hp1 hp2 ht1 ht2)
  have HRA := Lib.hid (fun (W : World) (e : RfV W t x) (hm : mayT n x = true) => radd_tr t x m n W e hn1 hn2 hm hms)
  have HRD := Lib.hid (fun (W : World) (e : RfV W t x) (hl : x.marks.length ≤ 1000000) => rdrop_tr t x i W e hl hi1 hi2)
  have HSE := Lib.hid (fun (W : World) (ta : Tv) (e : RfV W t x) (hA : TkV W ta x) h1 h2 => same_tr ta t x W hA e h1 h2)
  clear hB hz hx0
  obtain ⟨⟨E0, l0, g0⟩, ⟨E1, l1, g1⟩, ⟨E2, l2, g2⟩, ⟨E3, l3, g3⟩, ⟨Em, lm, gm⟩⟩ := t
  obtain ⟨mt, mn⟩ := m
  simp only [Tv.cells] at *
  go_enter Try.func4, Try.ntmps4
  go_upto_region 1 with fail
  obtain ⟨w0, hw0⟩ : ∃ q, q = (w.alloc (.cells #[.slice E0 l0 g0, .slice E1 l1 g1, .slice E2 l2 g2, .slice E3 l3 g3, .slice Em lm gm] 47)).alloc (.cells #[.int .i64 mt, .string mn] 49) := ⟨_, rfl⟩
  obtain ⟨db, hdb⟩ : ∃ q, q = w.heap.size := ⟨_, rfl⟩
  obtain ⟨mb, hmb⟩ : ∃ q, q = w.heap.size + 1 := ⟨_, rfl⟩
  rw [← hw0] at HE0 HH0 HX0 HOF HM0 ⊢
  rw [← hmb] at HM0 ⊢
  rw [← hdb] at HH0 ⊢
  clear hw0 hdb hmb
  have hd := fun i => HH0.out.cell i
  go_wp2_with fail
  refine (HOF.out).mono ?_
  rintro e w1 ⟨hE, ⟨⟨A0, n0, c0⟩, ⟨A1, n1, c1⟩, ⟨A2, n2, c2⟩, ⟨A3, n3, c3⟩, ⟨Am, nm, cm⟩⟩, b, rfl, hof⟩
  simp only [Tv.cells]
  clear hd HOF
  have hx1 := ext_trans hE (ext_alloc (Ext.rfl' w1) (.cells #[.slice A0 n0 c0, .slice A1 n1 c1, .slice A2 n2 c2, .slice A3 n3 c3, .slice Am nm cm] 54))
  have HB2 := Lib.hid (Blk.new w1 54 #[.slice A0 n0 c0, .slice A1 n1 c1, .slice A2 n2 c2, .slice A3 n3 c3, .slice Am nm cm])
  have HOF := Lib.hid (fun h : b = true => And.intro ((hof h).1.ext (ext_alloc (Ext.rfl' w1) (.cells #[.slice A0 n0 c0, .slice A1 n1 c1, .slice A2 n2 c2, .slice A3 n3 c3, .slice Am nm cm] 54))) (hof h).2)
  go_upto_region 2 with fail
  obtain ⟨w2, hw2⟩ : ∃ q : World, q = w1.alloc (.cells #[.slice A0 n0 c0, .slice A1 n1 c1, .slice A2 n2 c2, .slice A3 n3 c3, .slice Am nm cm] 54) := ⟨_, rfl⟩
  obtain ⟨ab, hab⟩ : ∃ q, q = w1.heap.size := ⟨_, rfl⟩
  rw [← hw2] at hx1 HB2 HOF ⊢
  rw [← hab] at HB2 ⊢
  clear hw2 hab hof hE
  have HE2 := Lib.hid (ext_trans HE0.out hx1); have HX2 := Lib.hid (HX0.out.ext hx1); have HH2 := Lib.hid (HH0.out.ext hx1); have HM2 := Lib.hid (HM0.out.ext hx1)
  clear hx1 HX0 HH0 HM0
  cases b with
  | false =>
    go_wp2_with fail
    refine (HWK.out _).mono ?_
    rintro e wz ⟨rfl, hz⟩
    go_wp2_with fail
    go_ret
    exact ⟨rfl, ext_trans HE2.out hz⟩
  | true =>
    obtain ⟨hT, hW⟩ := HOF.out rfl
    have HT2 := Lib.hid hT
    have HWN : Hid (∀ c ∈ x.cams, ∀ p ∈ c, (-2147483648 ≤ p.x ∧ p.x ≤ 2147483647) ∧ -2147483648 ≤ p.y ∧ p.y ≤ 2147483647) := Lib.hid (fun c hc p hp => by
      obtain ⟨⟨q1, q2⟩, q3, q4⟩ := hW c hc p hp; exact ⟨⟨by omega, by omega⟩, by omega, by omega⟩)
    clear hT hW HOF
    have HG := Lib.hid (HGR.out w2 HX2.out)
    have hd := fun i => HH2.out.cell i
    go_wp2_with fail
    refine (HG.out).mono ?_
    rintro e w3 ⟨g, rfl, hE, hsm⟩
    clear hd HG HGR
    have HE3 := Lib.hid (ext_trans HE2.out hE); have HX3 := Lib.hid (HX2.out.ext hE); have HB3 := Lib.hid (HB2.out.ext hE); have HT3 := Lib.hid (HT2.out.ext hE); have HH3 := Lib.hid (HH2.out.ext hE); have HM3 := Lib.hid (HM2.out.ext hE)
    cases g with
    | true =>
      go_wp2_with fail
      refine (HWK.out _).mono ?_
      rintro e wz ⟨rfl, hz⟩
      go_wp2_with fail
      go_ret
      exact ⟨rfl, ext_trans HE3.out hz⟩
    | false =>
      have HLL := Lib.hid (small_len (hsm rfl))
      have HSM := Lib.hid (hsm rfl)
      clear hE hsm HE2 HX2 HB2 HT2 HH2 HM2
      have m0 := HM3.out.cell 0; have m1 := HM3.out.cell 1
      simp only [List.getElem?_toArray, List.getElem?_cons_zero, List.getElem?_cons_succ] at m0 m1
      by_cases h2 : 200 < mn.size
      · have h2' : (200 : Int) < (mn.size : Int) := by omega
        go_wp2_with fail
        refine (HWK.out _).mono ?_
        rintro e wz ⟨rfl, hz⟩
        go_wp2_with fail
        go_ret
        exact ⟨rfl, ext_trans HE3.out hz⟩
      · have h2' : ¬ (200 : Int) < (mn.size : Int) := by omega
        have hd := fun i => HH3.out.cell i
        have HMC := Lib.hid (HMY.out w3 HX3.out)
        obtain ⟨mv, hmv⟩ : ∃ q, q = mayT n x := ⟨_, rfl⟩
        rw [← hmv] at HMC
        replace hmv := Lib.hid hmv
        go_wp2_with fail
        refine (HMC.out).mono ?_
        rintro e w4 ⟨rfl, hE⟩
        clear hd m0 m1 HMC HMY
        have HE4 := Lib.hid (ext_trans HE3.out hE); have HX4 := Lib.hid (HX3.out.ext hE); have HB4 := Lib.hid (HB3.out.ext hE); have HT4 := Lib.hid (HT3.out.ext hE); have HH4 := Lib.hid (HH3.out.ext hE); have HM4 := Lib.hid (HM3.out.ext hE)
        clear hE HE3 HX3 HB3 HT3 HH3 HM3
        cases mv with
        | false =>
          go_wp2_with fail
          refine (HWK.out _).mono ?_
          rintro e wz ⟨rfl, hz⟩
          go_wp2_with fail
          go_ret
          exact ⟨rfl, ext_trans HE4.out hz⟩
        | true =>
          have HMT : Hid (mayT n x = true) := Lib.hid hmv.out.symm
          clear hmv
          -- the cameras
          have HCA := Lib.hid (cam_all ⟨⟨A0, n0, c0⟩, ⟨A1, n1, c1⟩, ⟨A2, n2, c2⟩, ⟨A3, n3, c3⟩, ⟨Am, nm, cm⟩⟩ x n player tick w4 HT4.out HMT.out hp1 hp2 ht1 ht2)
          have HRC4 := Lib.hid (fun (W : World) (e : Ext w4 W) => HRC.out W (HX4.out.ext e) HMT.out)
          have hin := camT_in HMT.out player tick
          obtain ⟨⟨cx, cy, ce⟩, hct⟩ : ∃ q, q = camT x player tick := ⟨_, rfl⟩
          rw [← hct] at HCA HRC4 hin
          clear hct HRC
          simp only [Tv.cells, RcPost] at HCA HRC4 hin
          have HIN := Lib.hid hin
          clear hin
          have ha := fun i => HB4.out.cell i
          go_wp2_with fail
          refine (HCA.out).mono ?_
          rintro e w5 ⟨rfl, hE⟩
          clear ha HCA
          have hx := ext_trans hE (ext_alloc (Ext.rfl' w5) (.cells #[.int .i32 cx, .int .i32 cy] 61))
          have HP5 := Lib.hid (Blk.new w5 61 #[.int .i32 cx, .int .i32 cy])
          go_upto_region 5 with fail
          obtain ⟨w6, hw6⟩ : ∃ q : World, q = w5.alloc (.cells #[.int .i32 cx, .int .i32 cy] 61) := ⟨_, rfl⟩
          obtain ⟨pb, hpb⟩ : ∃ q, q = w5.heap.size := ⟨_, rfl⟩
          rw [← hw6] at hx HP5 ⊢
          rw [← hpb] at HP5 ⊢
          clear hw6 hpb hE
          have HE6 := Lib.hid (ext_trans HE4.out hx); have HX6 := Lib.hid (HX4.out.ext hx); have HB6 := Lib.hid (HB4.out.ext hx); have HT6 := Lib.hid (HT4.out.ext hx); have HH6 := Lib.hid (HH4.out.ext hx); have HM6 := Lib.hid (HM4.out.ext hx)
          have HRC6 := Lib.hid (HRC4.out w6 hx)
          clear hx HE4 HX4 HB4 HT4 HH4 HM4 HRC4
          have hd := fun i => HH6.out.cell i
          go_wp2_with fail
          refine (HRC6.out).mono ?_
          rintro e w7 ⟨rfl, hE⟩
          clear hd HRC6
          have HE7 := Lib.hid (ext_trans HE6.out hE); have HX7 := Lib.hid (HX6.out.ext hE); have HB7 := Lib.hid (HB6.out.ext hE); have HT7 := Lib.hid (HT6.out.ext hE); have HH7 := Lib.hid (HH6.out.ext hE); have HM7 := Lib.hid (HM6.out.ext hE); have HP7 := Lib.hid (HP5.out.ext hE)
          clear hE HE6 HX6 HB6 HT6 HH6 HM6 HP5
          have p0 := HP7.out.cell 0; have p1 := HP7.out.cell 1
          simp only [List.getElem?_toArray, List.getElem?_cons_zero, List.getElem?_cons_succ] at p0 p1
          have hin := HIN.out
          have W1 : IntKind.i64.wrap cx = cx := IntWalk.i64_in _ (by omega)
          have W2 : IntKind.i64.wrap cy = cy := IntWalk.i64_in _ (by omega)
          clear hin
          have HAD := Lib.hid (add_tr ⟨⟨A0, n0, c0⟩, ⟨A1, n1, c1⟩, ⟨A2, n2, c2⟩, ⟨A3, n3, c3⟩, ⟨Am, nm, cm⟩⟩ x ⟨mt, mn⟩ n w7 HT7.out HLL.out hn1 hn2 HMT.out hms)
          have HRA7 := Lib.hid (fun (W : World) (e : Ext w7 W) => HRA.out W (HX7.out.ext e) HMT.out)
          have hac := addT_cams n x ⟨mt, mn⟩
          obtain ⟨⟨xa, ea⟩, hat⟩ : ∃ q, q = addT n x ⟨mt, mn⟩ := ⟨_, rfl⟩
          rw [← hat] at HAD HRA7 hac
          clear hat HRA
          simp only [Tv.cells, GPost, RGPost] at HAD HRA7 hac
          have HAC := Lib.hid hac
          clear hac
          have ha := fun i => HB7.out.cell i
          have m0 := HM7.out.cell 0; have m1 := HM7.out.cell 1
          simp only [List.getElem?_toArray, List.getElem?_cons_zero, List.getElem?_cons_succ] at m0 m1
          go_wp2_with fail
          refine (HAD.out).mono ?_
          rintro e w8 ⟨hE, ⟨⟨Y0, r0, s0⟩, ⟨Y1, r1, s1⟩, ⟨Y2, r2, s2⟩, ⟨Y3, r3, s3⟩, ⟨Ym, rm, sm⟩⟩, rfl, hTY⟩
          clear ha m0 m1 p0 p1 W1 W2 HAD HP7
          have hx := ext_trans hE (ext_alloc (Ext.rfl' w8) (.cells #[.slice Y0 r0 s0, .slice Y1 r1 s1, .slice Y2 r2 s2, .slice Y3 r3 s3, .slice Ym rm sm] 54))
          have HY8 := Lib.hid (Blk.new w8 54 #[.slice Y0 r0 s0, .slice Y1 r1 s1, .slice Y2 r2 s2, .slice Y3 r3 s3, .slice Ym rm sm])
          have HTY := Lib.hid (hTY.ext (ext_alloc (Ext.rfl' w8) (.cells #[.slice Y0 r0 s0, .slice Y1 r1 s1, .slice Y2 r2 s2, .slice Y3 r3 s3, .slice Ym rm sm] 54)))
          simp only [Tv.cells]
          go_upto_region 9 with fail
          obtain ⟨w9, hw9⟩ : ∃ q : World, q = w8.alloc (.cells #[.slice Y0 r0 s0, .slice Y1 r1 s1, .slice Y2 r2 s2, .slice Y3 r3 s3, .slice Ym rm sm] 54) := ⟨_, rfl⟩
          obtain ⟨yb, hyb⟩ : ∃ q, q = w8.heap.size := ⟨_, rfl⟩
          rw [← hw9] at hx HY8 HTY ⊢
          rw [← hyb] at HY8 ⊢
          clear hw9 hyb hE hTY
          have HE9 := Lib.hid (ext_trans HE7.out hx); have HX9 := Lib.hid (HX7.out.ext hx); have HB9 := Lib.hid (HB7.out.ext hx); have HT9 := Lib.hid (HT7.out.ext hx); have HH9 := Lib.hid (HH7.out.ext hx); have HM9 := Lib.hid (HM7.out.ext hx)
          have HRA9 := Lib.hid (HRA7.out w9 hx)
          clear hx HE7 HX7 HB7 HT7 HH7 HM7 HRA7
          have hd := fun i => HH9.out.cell i
          have m0 := HM9.out.cell 0; have m1 := HM9.out.cell 1
          simp only [List.getElem?_toArray, List.getElem?_cons_zero, List.getElem?_cons_succ] at m0 m1
          go_wp2_with fail
          refine (HRA9.out).mono ?_
          rintro e wa ⟨hE, ⟨⟨V0, r0', s0'⟩, ⟨V1, r1', s1'⟩, ⟨V2, r2', s2'⟩, ⟨V3, r3', s3'⟩, ⟨Vm, rm', sm'⟩⟩, rfl, hRV⟩
          clear hd m0 m1 HRA9
          have hx := ext_trans hE (ext_alloc (Ext.rfl' wa) (.cells #[.slice V0 r0' s0', .slice V1 r1' s1', .slice V2 r2' s2', .slice V3 r3' s3', .slice Vm rm' sm'] 47))
          have HVa := Lib.hid (Blk.new wa 47 #[.slice V0 r0' s0', .slice V1 r1' s1', .slice V2 r2' s2', .slice V3 r3' s3', .slice Vm rm' sm'])
          have HRV := Lib.hid (hRV.ext (ext_alloc (Ext.rfl' wa) (.cells #[.slice V0 r0' s0', .slice V1 r1' s1', .slice V2 r2' s2', .slice V3 r3' s3', .slice Vm rm' sm'] 47)))
          simp only [Tv.cells]
          go_upto_region 10 with fail
          obtain ⟨wb, hwb⟩ : ∃ q : World, q = wa.alloc (.cells #[.slice V0 r0' s0', .slice V1 r1' s1', .slice V2 r2' s2', .slice V3 r3' s3', .slice Vm rm' sm'] 47) := ⟨_, rfl⟩
          obtain ⟨vb, hvb⟩ : ∃ q, q = wa.heap.size := ⟨_, rfl⟩
          rw [← hwb] at hx HVa HRV ⊢
          rw [← hvb] at HVa ⊢
          clear hwb hvb hE hRV
          have HEb := Lib.hid (ext_trans HE9.out hx); have HXb := Lib.hid (HX9.out.ext hx); have HBb := Lib.hid (HB9.out.ext hx); have HTb := Lib.hid (HT9.out.ext hx); have HHb := Lib.hid (HH9.out.ext hx); have HYb := Lib.hid (HY8.out.ext hx); have HTYb := Lib.hid (HTY.out.ext hx)
          clear hx HE9 HX9 HB9 HT9 HH9 HM9 HY8 HTY
          have HDR := Lib.hid (drop_tr ⟨⟨A0, n0, c0⟩, ⟨A1, n1, c1⟩, ⟨A2, n2, c2⟩, ⟨A3, n3, c3⟩, ⟨Am, nm, cm⟩⟩ x i wb HTb.out HLL.out hi1 hi2)
          have HRDb := Lib.hid (fun (W : World) (e : Ext wb W) => HRD.out W (HXb.out.ext e) HLL.out.2)
          have hdc := dropT_cams x i
          obtain ⟨⟨xd, ed⟩, hdt⟩ : ∃ q, q = dropT x i := ⟨_, rfl⟩
          rw [← hdt] at HDR HRDb hdc
          clear hdt HRD
          simp only [Tv.cells, GPost, RGPost] at HDR HRDb hdc
          have HDC := Lib.hid hdc
          clear hdc
          have ha := fun i => HBb.out.cell i
          go_wp2_with fail
          refine (HDR.out).mono ?_
          rintro e wc ⟨hE, ⟨⟨Z0, k0, f0⟩, ⟨Z1, k1, f1⟩, ⟨Z2, k2, f2⟩, ⟨Z3, k3, f3⟩, ⟨Zm, km, fm⟩⟩, rfl, hTZ⟩
          clear ha HDR
          have hx := ext_trans hE (ext_alloc (Ext.rfl' wc) (.cells #[.slice Z0 k0 f0, .slice Z1 k1 f1, .slice Z2 k2 f2, .slice Z3 k3 f3, .slice Zm km fm] 54))
          have HZc := Lib.hid (Blk.new wc 54 #[.slice Z0 k0 f0, .slice Z1 k1 f1, .slice Z2 k2 f2, .slice Z3 k3 f3, .slice Zm km fm])
          have HTZ := Lib.hid (hTZ.ext (ext_alloc (Ext.rfl' wc) (.cells #[.slice Z0 k0 f0, .slice Z1 k1 f1, .slice Z2 k2 f2, .slice Z3 k3 f3, .slice Zm km fm] 54)))
          simp only [Tv.cells]
          go_upto_region 11 with fail
          obtain ⟨wd, hwd⟩ : ∃ q : World, q = wc.alloc (.cells #[.slice Z0 k0 f0, .slice Z1 k1 f1, .slice Z2 k2 f2, .slice Z3 k3 f3, .slice Zm km fm] 54) := ⟨_, rfl⟩
          obtain ⟨zb, hzb⟩ : ∃ q, q = wc.heap.size := ⟨_, rfl⟩
          rw [← hwd] at hx HZc HTZ ⊢
          rw [← hzb] at HZc ⊢
          clear hwd hzb hE hTZ
          have HEd := Lib.hid (ext_trans HEb.out hx); have HXd := Lib.hid (HXb.out.ext hx); have HBd := Lib.hid (HBb.out.ext hx); have HTd := Lib.hid (HTb.out.ext hx); have HHd := Lib.hid (HHb.out.ext hx); have HYd := Lib.hid (HYb.out.ext hx); have HTYd := Lib.hid (HTYb.out.ext hx); have HVd := Lib.hid (HVa.out.ext hx); have HRVd := Lib.hid (HRV.out.ext hx)
          have HRDd := Lib.hid (HRDb.out wd hx)
          clear hx HEb HXb HBb HTb HHb HYb HTYb HVa HRV HRDb
          have hd := fun i => HHd.out.cell i
          go_wp2_with fail
          refine (HRDd.out).mono ?_
          rintro e we ⟨hE, ⟨⟨U0, k0', f0'⟩, ⟨U1, k1', f1'⟩, ⟨U2, k2', f2'⟩, ⟨U3, k3', f3'⟩, ⟨Um, km', fm'⟩⟩, rfl, hRU⟩
          clear hd HRDd
          have hx := ext_trans hE (ext_alloc (Ext.rfl' we) (.cells #[.slice U0 k0' f0', .slice U1 k1' f1', .slice U2 k2' f2', .slice U3 k3' f3', .slice Um km' fm'] 47))
          have HUe := Lib.hid (Blk.new we 47 #[.slice U0 k0' f0', .slice U1 k1' f1', .slice U2 k2' f2', .slice U3 k3' f3', .slice Um km' fm'])
          have HRU := Lib.hid (hRU.ext (ext_alloc (Ext.rfl' we) (.cells #[.slice U0 k0' f0', .slice U1 k1' f1', .slice U2 k2' f2', .slice U3 k3' f3', .slice Um km' fm'] 47)))
          simp only [Tv.cells]
          go_upto_region 12 with fail
          obtain ⟨wf, hwf⟩ : ∃ q : World, q = we.alloc (.cells #[.slice U0 k0' f0', .slice U1 k1' f1', .slice U2 k2' f2', .slice U3 k3' f3', .slice Um km' fm'] 47) := ⟨_, rfl⟩
          obtain ⟨ub, hub⟩ : ∃ q, q = we.heap.size := ⟨_, rfl⟩
          rw [← hwf] at hx HUe HRU ⊢
          rw [← hub] at HUe ⊢
          clear hwf hub hE hRU
          have HEf := Lib.hid (ext_trans HEd.out hx); have HXf := Lib.hid (HXd.out.ext hx); have HBf := Lib.hid (HBd.out.ext hx); have HTf := Lib.hid (HTd.out.ext hx); have HHf := Lib.hid (HHd.out.ext hx); have HYf := Lib.hid (HYd.out.ext hx); have HTYf := Lib.hid (HTYd.out.ext hx); have HVf := Lib.hid (HVd.out.ext hx); have HRVf := Lib.hid (HRVd.out.ext hx); have HZf := Lib.hid (HZc.out.ext hx); have HTZf := Lib.hid (HTZ.out.ext hx)
          clear hx HEd HXd HBd HTd HHd HYd HTYd HVd HRVd HZc HTZ
          have hsz := HSM.out.1
          have HS1 := Lib.hid (same_tr ⟨⟨Y0, r0, s0⟩, ⟨Y1, r1, s1⟩, ⟨Y2, r2, s2⟩, ⟨Y3, r3, s3⟩, ⟨Ym, rm, sm⟩⟩ ⟨⟨V0, r0', s0'⟩, ⟨V1, r1', s1'⟩, ⟨V2, r2', s2'⟩, ⟨V3, r3', s3'⟩, ⟨Vm, rm', sm'⟩⟩ xa wf HTYf.out HRVf.out (by rw [HAC.out.1]; exact HWN.out) (by rw [HAC.out.1]; exact ⟨HLL.out.1, by have := HAC.out.2; omega⟩))
          have HS2 := Lib.hid (fun (W : World) (e : Ext wf W) => same_tr ⟨⟨Z0, k0, f0⟩, ⟨Z1, k1, f1⟩, ⟨Z2, k2, f2⟩, ⟨Z3, k3, f3⟩, ⟨Zm, km, fm⟩⟩ ⟨⟨U0, k0', f0'⟩, ⟨U1, k1', f1'⟩, ⟨U2, k2', f2'⟩, ⟨U3, k3', f3'⟩, ⟨Um, km', fm'⟩⟩ xd W (HTZf.out.ext e) (HRU.out.ext e) (by rw [HDC.out.1]; exact HWN.out) (by rw [HDC.out.1]; exact ⟨HLL.out.1, by have := HDC.out.2; omega⟩))
          have HS3 := Lib.hid (fun (W : World) (e : Ext wf W) => HSE.out W ⟨⟨A0, n0, c0⟩, ⟨A1, n1, c1⟩, ⟨A2, n2, c2⟩, ⟨A3, n3, c3⟩, ⟨Am, nm, cm⟩⟩ (HXf.out.ext e) (HTf.out.ext e) HWN.out HLL.out)
          simp only [Tv.cells] at HS1 HS2 HS3
          clear hsz HSE HTYf HRVf HTZf HRU HXf HTf HAC HDC HSM
          have k1 := fun i => HYf.out.cell i
          have k2 := fun i => HVf.out.cell i
          go_wp2_with fail
          refine (HS1.out).mono ?_
          rintro e wg ⟨rfl, hE⟩
          have HEg := Lib.hid hE
          clear hE k1 k2 HS1
          have HS2g := Lib.hid (HS2.out wg HEg.out)
          have k1 := fun i => (HZf.out.ext HEg.out).cell i
          have k2 := fun i => (HUe.out.ext HEg.out).cell i
          go_wp2_with fail
          refine (HS2g.out).mono ?_
          rintro e wh ⟨rfl, hE⟩
          have HEh := Lib.hid (ext_trans HEg.out hE)
          clear hE k1 k2 HS2g HS2
          have HS3h := Lib.hid (HS3.out wh HEh.out)
          have k1 := fun i => (HBf.out.ext HEh.out).cell i
          have k2 := fun i => (HHf.out.ext HEh.out).cell i
          go_wp2_with fail
          refine (HS3h.out).mono ?_
          rintro e wi ⟨rfl, hE⟩
          have HEi := Lib.hid (ext_trans HEf.out (ext_trans HEh.out hE))
          clear hE k1 k2 HS3h HS3
          go_wp2_with fail
          refine (HWK.out _).mono ?_
          rintro e wz ⟨rfl, hz⟩
          go_wp2_with fail
          go_ret
          exact ⟨rfl, ext_trans HEi.out hz⟩
end Go.Proofs.Ytlldmpcamdginaa.Trk
