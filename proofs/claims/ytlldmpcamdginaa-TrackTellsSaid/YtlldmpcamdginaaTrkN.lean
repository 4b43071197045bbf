/- Tracks: the law's goes, walked. -/
import Derived.Test.YtlldmpcamdginaaT5
namespace Go.Proofs.Ytlldmpcamdginaa.Trk
open Go.ChangeShapes Go.WideShapes Go.ChangeAt Go.RowKit
open Go.Proofs.Ytlldmpcamdginaa.Rec
set_option linter.unusedVariables false
set_option maxHeartbeats 8000000 in
set_option maxRecDepth 100000 in
theorem goes_st (t : Tv) (k : Nat) (hk : k < 4) (A : Option Addr) (n c : Nat) (hs : t.cells[k]? = some (.slice A n c)) (ps : List Pt) (nn : Int) (w : World) (hP : PtsV w A n c ps) (hO : Ord ps) (hn : n ≤ 1000000) :
    Calls Try.prog 30 #[.agg t.cells, .int .i64 (k : Int), .int .i64 nn] w fun e w' => e = .returned (.bool true) ∧ Ext w w' := by
  have HE0 := Lib.hid (ext_alloc (Ext.rfl' w) (.cells t.cells 54))
  have HH0 := Lib.hid (Blk.new w 54 t.cells)
  have HCAM := Lib.hid (fun (tick : Int) (h1 : -9223372036854775808 ≤ tick) (h2 : tick ≤ 9223372036854775807) (h0 : 0 < n) (W : World) (e : Ext w W) => camera_in t k hk A n c hs ps tick W ⟨hP.1.ext e, hP.2⟩ hO hn h0 h1 h2)
  have HCE : Hid (∀ (W : World), Ext w W → ∀ j (hj : j < ps.length), ∃ b o, A = some ⟨b, o, none⟩ ∧ W.cell? ⟨b, o + j * 3, none⟩ = some (.int .i64 ps[j].tick) ∧ W.cell? ⟨b, o + j * 3 + 1, none⟩ = some (.int .i32 ps[j].x) ∧ W.cell? ⟨b, o + j * 3 + 2, none⟩ = some (.int .i32 ps[j].y)) := Lib.hid (fun W e j hj => by
    obtain ⟨b, o, hA, hbw, hcell⟩ := hP.1.2 (by have := hP.1.1; omega)
    exact ⟨b, o, hA, (e.cell (p := ⟨b, o + j * 3, none⟩) hbw).trans (hcell j hj 0 (by omega)), (e.cell (p := ⟨b, o + j * 3 + 1, none⟩) hbw).trans (hcell j hj 1 (by omega)), (e.cell (p := ⟨b, o + j * 3 + 2, none⟩) hbw).trans (hcell j hj 2 (by omega))⟩)
  have HO := Lib.hid hO
  have HLN := Lib.hid hP.1.1
  have HHS := Lib.hid ((HH0.out.cell k).trans hs)
  clear hP hO hs
  have y1 : (0 : Int) ≤ (k : Int) := by omega
  have y2 : (k : Int) < 4 := by omega
  obtain ⟨⟨A0, n0, c0⟩, ⟨A1, n1, c1⟩, ⟨A2, n2, c2⟩, ⟨A3, n3, c3⟩, ⟨Am, nm, cm⟩⟩ := t
  simp only [Tv.cells] at *
  go_enter Try.func30, Try.ntmps30
  go_upto_region 1 with fail
  obtain ⟨w0, hw0⟩ : ∃ q, q = w.alloc (.cells #[.slice A0 n0 c0, .slice A1 n1 c1, .slice A2 n2 c2, .slice A3 n3 c3, .slice Am nm cm] 54) := ⟨_, rfl⟩
  rw [← hw0] at HE0 HH0 HHS ⊢
  clear hw0
  obtain ⟨hb, hhb⟩ : ∃ q, q = w.heap.size := ⟨_, rfl⟩
  rw [← hhb] at HH0 HHS ⊢
  replace hhb := Lib.hid hhb
  have hh := HHS.out
  go_wp2_with fail
  clear hh HHS
  go_loopg [8] n (fun gh iv wr => ∃ (i : Nat), i + gh = n ∧ iv = .int .i64 (i : Int) ∧ Ext w0 wr)
  case atStart => exact ⟨0, by omega, rfl, Ext.rfl' _⟩
  case round =>
    obtain ⟨i, hi, rfl, hE⟩ := hrel
    obtain ⟨wi, rfl⟩ : ∃ wi : World, wi = wr := ⟨_, rfl⟩
    obtain ⟨gh, rfl⟩ : ∃ gh : Nat, gh = gk := ⟨_, rfl⟩
    have HE := Lib.hid hE
    clear hE
    have y3 : (0 : Int) ≤ (i : Int) := by omega
    by_cases hlt : i < n
    · have y4 : (i : Int) < (n : Int) := by omega
      have hip : i < ps.length := by rw [HLN.out]; exact hlt
      have HEW := Lib.hid (ext_trans HE0.out HE.out)
      obtain ⟨b, o, rfl, p0, p1, p2⟩ := HCE.out wi HEW.out i hip
      have hin := HO.out.at i hip
      have HAT := Lib.hid (camAt_at HO.out i hip)
      have HWY : Hid (∀ i' (h : i' + 1 = i) (t : Int), (ps[i']'(by omega)).tick ≤ t → t + 1 ≤ (ps[i]'hip).tick → Btw (camAt (t + 1) ps).1 (camAt t ps).1 (ps[i]'hip).x ∧ Btw (camAt (t + 1) ps).2 (camAt t ps).2 (ps[i]'hip).y) := Lib.hid (fun i' h t h1 h2 => by subst h; exact camAt_step HO.out i' hip t h1 h2)
      generalize hu : ps[i] = u at p0 p1 p2 hin HAT HWY
      replace hu := Lib.hid hu
      obtain ⟨t1, x1, z1⟩ := u
      simp only at p0 p1 p2 hin HAT HWY
      have HC1 := Lib.hid (fun (W : World) (e : Ext wi W) => HCAM.out t1 (by omega) (by omega) (by omega) W (ext_trans HEW.out e))
      rw [HAT.out] at HC1
      have HHi := Lib.hid (HH0.out.ext HE.out)
      have h0 := HHi.out.cell 0; have h1 := HHi.out.cell 1; have h2 := HHi.out.cell 2; have h3 := HHi.out.cell 3; have h4 := HHi.out.cell 4
      simp only [List.getElem?_toArray, List.getElem?_cons_zero, List.getElem?_cons_succ] at h0 h1 h2 h3 h4
      go_upto_region 5 with fail
      go_cut [9, 10] (fun s9 s10 wx => ∃ g1 : Nat, s9 = .pointer (some ⟨g1, 0, none⟩) ∧ s10 = .int .i64 0 ∧ Blk wx g1 61 #[.int .i32 x1, .int .i32 z1] ∧ Ext wi wx)
      case first =>
        have MKS := Lib.hid (fun (w' : World) (e : Ext wi w') => (⟨kc e p0, kc e h0, kc e h1, kc e h2, kc e h3, kc e h4, Lib.hid e⟩ : w'.cell? ⟨b, o + i * 3, none⟩ = some (.int .i64 t1) ∧ w'.cell? ⟨hb, 0, none⟩ = some (.slice A0 n0 c0) ∧ w'.cell? ⟨hb, 1, none⟩ = some (.slice A1 n1 c1) ∧ w'.cell? ⟨hb, 2, none⟩ = some (.slice A2 n2 c2) ∧ w'.cell? ⟨hb, 3, none⟩ = some (.slice A3 n3 c3) ∧ w'.cell? ⟨hb, 4, none⟩ = some (.slice Am nm cm) ∧ Hid (Ext wi w')))
        have zT := Lib.hid (Ext.rfl' wi)
        go_region_held3 (fun w' => w'.cell? ⟨b, o + i * 3, none⟩ = some (.int .i64 t1) ∧ w'.cell? ⟨hb, 0, none⟩ = some (.slice A0 n0 c0) ∧ w'.cell? ⟨hb, 1, none⟩ = some (.slice A1 n1 c1) ∧ w'.cell? ⟨hb, 2, none⟩ = some (.slice A2 n2 c2) ∧ w'.cell? ⟨hb, 3, none⟩ = some (.slice A3 n3 c3) ∧ w'.cell? ⟨hb, 4, none⟩ = some (.slice Am nm cm) ∧ Hid (Ext wi w'))
          ((refine MKS.out _ ?_; repeat (first | exact zT.out | refine ext_alloc ?_ _ | refine ext_drew ?_ | refine ext_set ?_ (by first | omega | (simp; done) | (simp; omega)) _)))
          (first | (go_at_call 20; ((with_reducible refine (HC1.out _ (by first | exact zT.out | exact ext_alloc zT.out _ | exact ext_drew zT.out | exact ext_alloc (ext_drew zT.out) _ | exact ext_drew (ext_alloc zT.out _))).mono ?_); rintro e w8 ⟨rfl, b8⟩; go_split_ands; have zT : Hid (Ext wi w8) := Lib.hid (ext_trans (Hid.out (by assumption)) b8); have hz := zT.out.size; obtain ⟨hcl, hfr⟩ := ecell b8)))
        all_goals
          go_wp2_with fail
          go_meet
          go_split_ands
          refine ⟨_, rfl, rfl, ?_, ?_⟩
          · first | exact Blk.new _ _ _ | exact (((Blk.drew (Blk.new wi _ #[.int .i32 0, .int .i32 0])).ext b8).set_ 0 _).set_ 1 _ | exact (((Blk.new wi _ #[.int .i32 0, .int .i32 0]).ext b8).set_ 0 _).set_ 1 _
          · first | exact ext_alloc zT.out _ | exact ext_set (ext_set zT.out (Nat.le_refl _) _) (Nat.le_refl _) _
      case rest =>
        obtain ⟨g1, rfl, rfl, k1, ex⟩ := hcut
        have HE2 := Lib.hid (ext_trans HE.out ex)
        have HHc := Lib.hid (HHi.out.ext ex)
        have HEW2 := Lib.hid (ext_trans HE0.out (ext_trans HE.out ex))
        clear h0 h1 h2 h3 h4 HHi HC1
        replace p0 := kc ex p0; replace p1 := kc ex p1; replace p2 := kc ex p2
        have a0 := k1.cell 0; have a1 := k1.cell 1
        simp only [List.getElem?_toArray, List.getElem?_cons_zero, List.getElem?_cons_succ] at a0 a1
        clear ex k1
        have MK2 := Lib.hid (fun (w' : World) (e : Ext wc w') => (⟨kc e a0, kc e a1, kc e p1, kc e p2, Lib.hid e⟩ : w'.cell? ⟨g1, 0, none⟩ = some (.int .i32 x1) ∧ w'.cell? ⟨g1, 1, none⟩ = some (.int .i32 z1) ∧ w'.cell? ⟨b, o + i * 3 + 1, none⟩ = some (.int .i32 x1) ∧ w'.cell? ⟨b, o + i * 3 + 2, none⟩ = some (.int .i32 z1) ∧ Hid (Ext wc w')))
        have zT := Lib.hid (Ext.rfl' wc)
        go_upto_region 6 with fail
        go_region_held3 (fun w' => w'.cell? ⟨g1, 0, none⟩ = some (.int .i32 x1) ∧ w'.cell? ⟨g1, 1, none⟩ = some (.int .i32 z1) ∧ w'.cell? ⟨b, o + i * 3 + 1, none⟩ = some (.int .i32 x1) ∧ w'.cell? ⟨b, o + i * 3 + 2, none⟩ = some (.int .i32 z1) ∧ Hid (Ext wc w'))
          ((refine MK2.out _ ?_; repeat (first | exact zT.out | refine ext_drew ?_)))
          (fail)
        obtain ⟨wd, hwd⟩ : ∃ q, q = wc.drew := ⟨_, rfl⟩
        replace HE2 : Hid (Ext w0 wd) := Lib.hid (by rw [hwd]; exact ext_drew HE2.out)
        replace HHc : Hid (Blk wd hb 54 #[.slice A0 n0 c0, .slice A1 n1 c1, .slice A2 n2 c2, .slice A3 n3 c3, .slice Am nm cm]) := Lib.hid (by rw [hwd]; exact HHc.out)
        replace HEW2 : Hid (Ext w wd) := Lib.hid (by rw [hwd]; exact ext_drew HEW2.out)
        replace p0 : wd.cell? ⟨b, o + i * 3, none⟩ = some (.int .i64 t1) := by rw [hwd]; exact p0
        replace p1 : wd.cell? ⟨b, o + i * 3 + 1, none⟩ = some (.int .i32 x1) := by rw [hwd]; exact p1
        replace p2 : wd.cell? ⟨b, o + i * 3 + 2, none⟩ = some (.int .i32 z1) := by rw [hwd]; exact p2
        rw [← hwd]
        clear hwd a0 a1 MK2 zT
        by_cases hi0 : i = 0
        · have hiz : (i : Int) = 0 := by omega
          go_wp2_with fail
          go_roundg (gh - 1)
          case measure => omega
          case rel => exact ⟨i + 1, by omega, by subst hi0; rfl, HE2.out⟩
        · have hz0 : ¬ (i : Int) = 0 := by omega
          obtain ⟨b', o', hA', q0, q1, q2⟩ := HCE.out wd HEW2.out (i - 1) (by omega)
          obtain ⟨rfl, rfl⟩ : b = b' ∧ o = o' := by cases hA'; exact ⟨rfl, rfl⟩
          clear hA'
          have hin0 := HO.out.at (i - 1) (by omega)
          have hlt01 := HO.out.lt (i - 1) i (by omega) hip
          have HAT0 := Lib.hid (camAt_at HO.out (i - 1) (by omega))
          have HWZ := Lib.hid (HWY.out (i - 1) (by omega))
          rw [hu.out] at hlt01
          generalize ps[i - 1] = v at q0 q1 q2 hin0 hlt01 HAT0 HWZ
          obtain ⟨t0, x0, z0⟩ := v
          simp only at q0 q1 q2 hin0 hlt01 HAT0 HWZ
          clear HWY HAT
          have y5 : (0 : Int) ≤ (i : Int) - 1 := by omega
          have y11 : (1 : Int) ≤ (i : Int) := by omega
          have y6 : (i : Int) - 1 < (n : Int) := by omega
          have y7 : IntKind.i64.wrap ((i : Int) - 1) = (i : Int) - 1 := IntWalk.i64_in _ (by omega)
          have y8 : ((i : Int) - 1).toNat = i - 1 := by omega
          go_upto_region 9 with fail
          go_cut [11, 12] (fun s11 s12 wx => ∃ g1 g2 : Nat, s11 = .pointer (some ⟨g1, 0, none⟩) ∧ s12 = .pointer (some ⟨g2, 0, none⟩) ∧ Blk wx g1 61 #[.int .i32 x0, .int .i32 z0] ∧ Blk wx g2 61 #[.int .i32 x1, .int .i32 z1] ∧ Ext wd wx)
          case first =>
            have MK9 := Lib.hid (fun (w' : World) (e : Ext wd w') => (⟨kc e q1, kc e q2, kc e p1, kc e p2, Lib.hid e⟩ : w'.cell? ⟨b, o + (i - 1) * 3 + 1, none⟩ = some (.int .i32 x0) ∧ w'.cell? ⟨b, o + (i - 1) * 3 + 2, none⟩ = some (.int .i32 z0) ∧ w'.cell? ⟨b, o + i * 3 + 1, none⟩ = some (.int .i32 x1) ∧ w'.cell? ⟨b, o + i * 3 + 2, none⟩ = some (.int .i32 z1) ∧ Hid (Ext wd w')))
            have zT := Lib.hid (Ext.rfl' wd)
            have hz : wd.heap.size ≤ wd.heap.size := Nat.le_refl _
            go_region_held3 (fun w' => w'.cell? ⟨b, o + (i - 1) * 3 + 1, none⟩ = some (.int .i32 x0) ∧ w'.cell? ⟨b, o + (i - 1) * 3 + 2, none⟩ = some (.int .i32 z0) ∧ w'.cell? ⟨b, o + i * 3 + 1, none⟩ = some (.int .i32 x1) ∧ w'.cell? ⟨b, o + i * 3 + 2, none⟩ = some (.int .i32 z1) ∧ Hid (Ext wd w'))
              ((refine MK9.out _ ?_; repeat (first | exact zT.out | refine ext_alloc ?_ _ | refine ext_drew ?_ | refine ext_set ?_ (by first | omega | (simp; done) | (simp; omega)) _)))
              (fail)
            all_goals
              go_wp2_with fail
              go_meet
              go_split_ands
              refine ⟨_, _, rfl, rfl, ?_, ?_, (by repeat (first | exact Ext.rfl' _ | refine ext_drew ?_ | refine ext_alloc ?_ _ | refine ext_set ?_ (Nat.le_refl _) _))⟩
              all_goals (repeat refine Blk.drew ?_); first | exact (Blk.new _ _ _).alloc _ | exact Blk.new1 _ _ _ _
          case rest =>
            obtain ⟨g11, g12, rfl, rfl, k11, k12, ex⟩ := hcut
            obtain ⟨wf, rfl⟩ : ∃ wf : World, wf = wc := ⟨_, rfl⟩
            have HE3 := Lib.hid (ext_trans HE2.out ex)
            have HH3 := Lib.hid (HHc.out.ext ex)
            have HEW3 := Lib.hid (ext_trans HEW2.out ex)
            have HK12 := Lib.hid k12
            replace p0 := kc ex p0; replace q0 := kc ex q0
            have r0 := k11.cell 0; have r1 := k11.cell 1
            simp only [List.getElem?_toArray, List.getElem?_cons_zero, List.getElem?_cons_succ] at r0 r1
            clear ex k11 k12 p1 p2 q1 q2 HE2 HHc HEW2
            go_upto_region 11 with fail
            obtain ⟨wg, hwg⟩ : ∃ q, q = wf.alloc (.cells #[.int .i32 x0, .int .i32 z0] 61) := ⟨_, rfl⟩
            rw [← hwg]
            have HX : Hid (Ext wf wg) := Lib.hid (by rw [hwg]; exact ext_alloc (Ext.rfl' _) _)
            have HK13 : Hid (Blk wg wf.heap.size 61 #[.int .i32 x0, .int .i32 z0]) := Lib.hid (by rw [hwg]; exact Blk.new _ _ _)
            clear hwg r0 r1
            have hgl : g12 < wf.heap.size := HK12.out.lt
            obtain ⟨g13, hg13⟩ : ∃ q, q = wf.heap.size := ⟨_, rfl⟩
            rw [← hg13] at HK13 hgl ⊢
            replace hgl := Lib.hid hgl
            replace hg13 := Lib.hid hg13
            have P0 := Lib.hid p0; have Q0 := Lib.hid q0
            replace p0 := kc HX.out p0; replace q0 := kc HX.out q0
            go_wp2_with fail
            clear p0 q0
            go_loopg [14] ((t1 + 1 - t0).toNat) (fun gh2 kv wr => ∃ (tk lx lz : Int), kv = .int .i64 tk ∧ t0 ≤ tk ∧ tk + (gh2 : Int) = t1 + 1 ∧ Ext wf wr ∧ Blk wr g13 61 #[.int .i32 lx, .int .i32 lz] ∧ (tk ≤ t1 → Btw (camAt tk ps).1 lx x1 ∧ Btw (camAt tk ps).2 lz z1) ∧ InMap (lx, lz))
            case atStart =>
              refine ⟨t0, x0, z0, rfl, Int.le_refl _, by omega, HX.out, HK13.out, fun _ => ?_, ⟨⟨hin0.2.2.1, hin0.2.2.2.1⟩, hin0.2.2.2.2.1, hin0.2.2.2.2.2⟩⟩
              rw [HAT0.out]
              exact ⟨⟨fun h => ⟨Int.le_refl _, h⟩, fun h => ⟨h, Int.le_refl _⟩⟩, fun h => ⟨Int.le_refl _, h⟩, fun h => ⟨h, Int.le_refl _⟩⟩
            case round =>
              obtain ⟨tk, lx, lz, rfl, htk, hsum, hEk, hKk, hBk, hIM⟩ := hrel
              obtain ⟨wk, rfl⟩ : ∃ wk : World, wk = wr := ⟨_, rfl⟩
              obtain ⟨gi, rfl⟩ : ∃ gi : Nat, gi = gk := ⟨_, rfl⟩
              have HEK := Lib.hid hEk; have HKK := Lib.hid hKk; have HBK := Lib.hid hBk; have HIM := Lib.hid hIM
              clear hEk hKk hBk hIM
              have p0 := kc HEK.out P0.out; have q0 := kc HEK.out Q0.out
              have w100 : IntKind.i64.wrap (t0 + 100) = t0 + 100 := IntWalk.i64_in _ (by omega)
              have HNX := Lib.hid (ext_trans HE3.out HEK.out)
              by_cases hc1 : tk ≤ t1
              · by_cases hc2 : tk < t0 + 100
                · have HC2 := Lib.hid (HCAM.out tk (by omega) (by omega) (by omega) wk (ext_trans HEW3.out HEK.out))
                  have HB := Lib.hid (HBK.out hc1)
                  have HIC := Lib.hid (camAt_in HO.out tk)
                  have HNB := Lib.hid (fun (h : tk + 1 ≤ t1) => HWZ.out tk htk h)
                  obtain ⟨cx, hcx⟩ : ∃ q, q = (camAt tk ps).1 := ⟨_, rfl⟩
                  obtain ⟨cz, hcz⟩ : ∃ q, q = (camAt tk ps).2 := ⟨_, rfl⟩
                  have HI1 : Hid (InMap (cx, cz)) := Lib.hid (by rw [hcx, hcz]; exact HIC.out)
                  rw [← hcx, ← hcz] at HC2 HB HNB
                  clear hcx hcz HIC
                  have HHk := Lib.hid (HH3.out.ext HEK.out)
                  have h0 := HHk.out.cell 0; have h1 := HHk.out.cell 1; have h2 := HHk.out.cell 2; have h3 := HHk.out.cell 3; have h4 := HHk.out.cell 4
                  simp only [List.getElem?_toArray, List.getElem?_cons_zero, List.getElem?_cons_succ] at h0 h1 h2 h3 h4
                  go_wp2_with fail
                  refine (HC2.out).mono ?_
                  rintro e w8 ⟨rfl, b8⟩
                  clear h0 h1 h2 h3 h4 p0 q0
                  go_upto_region 15 with fail
                  obtain ⟨w9, hw9⟩ : ∃ q, q = w8.alloc (.cells #[.int .i32 cx, .int .i32 cz] 61) := ⟨_, rfl⟩
                  obtain ⟨g15, hg15⟩ : ∃ q, q = w8.heap.size := ⟨_, rfl⟩
                  have hlt15 : g13 < g15 := by rw [hg15]; exact Nat.lt_of_lt_of_le HKK.out.lt b8.size
                  have HE9 : Hid (Ext wk w9) := Lib.hid (by rw [hw9]; exact ext_alloc b8 _)
                  have HK15 : Hid (Blk w9 g15 61 #[.int .i32 cx, .int .i32 cz]) := Lib.hid (by rw [hw9, hg15]; exact Blk.new _ _ _)
                  rw [← hw9, ← hg15]
                  clear hw9 b8
                  replace hg15 := Lib.hid hg15
                  have HK9 := Lib.hid (HKK.out.ext HE9.out)
                  have HM9 := Lib.hid ((HK12.out.ext HEK.out).ext HE9.out)
                  have d0 := HK15.out.cell 0; have d1 := HK15.out.cell 1
                  have e0 := HK9.out.cell 0; have e1 := HK9.out.cell 1; have e2 := HK9.out.frozen 0; have e3 := HK9.out.frozen 1
                  have f0 := HM9.out.cell 0; have f1 := HM9.out.cell 1
                  simp only [List.getElem?_toArray, List.getElem?_cons_zero, List.getElem?_cons_succ] at d0 d1 e0 e1 f0 f1
                  obtain ⟨⟨u1, u2⟩, u3, u4⟩ := HI1.out
                  obtain ⟨⟨v1, v2⟩, v3, v4⟩ := HIM.out
                  simp only at u1 u2 u3 u4 v1 v2 v3 v4
                  have W1 : IntKind.i64.wrap cx = cx := IntWalk.i64_in _ (by omega)
                  have W2 : IntKind.i64.wrap cz = cz := IntWalk.i64_in _ (by omega)
                  have W3 : IntKind.i64.wrap lx = lx := IntWalk.i64_in _ (by omega)
                  have W4 : IntKind.i64.wrap lz = lz := IntWalk.i64_in _ (by omega)
                  have W5 : IntKind.i64.wrap x1 = x1 := IntWalk.i64_in _ (by omega)
                  have W6 : IntKind.i64.wrap z1 = z1 := IntWalk.i64_in _ (by omega)
                  go_wp2_with fail
                  refine (near_st _ _ _ HB.out.1 _).mono ?_
                  rintro e wz ⟨rfl, rfl⟩
                  go_wp2_with fail
                  refine (near_st _ _ _ HB.out.2 _).mono ?_
                  rintro e wz ⟨rfl, rfl⟩
                  go_wp2_with fail
                  go_roundg (gi - 1)
                  case measure => omega
                  case rel =>
                    have hwf : wf.heap.size ≤ g13 := by have := hg13.out; omega
                    refine ⟨tk + 1, cx, cz, rfl, by omega, by omega, ext_set (ext_set (ext_trans HEK.out HE9.out) hwf _) hwf _, (HK9.out.set_ 0 (.int .i32 cx)).set_ 1 (.int .i32 cz), HNB.out, HI1.out⟩
                · go_wp2_with fail
                  go_roundg (gh - 1)
                  case measure => omega
                  case rel => exact ⟨i + 1, by omega, by go_num, HNX.out⟩
              · go_wp2_with fail
                go_roundg (gh - 1)
                case measure => omega
                case rel => exact ⟨i + 1, by omega, by go_num, HNX.out⟩
    · have y4 : ¬ (i : Int) < (n : Int) := by omega
      go_wp2_with fail
      go_ret
      exact ⟨rfl, ext_trans HE0.out HE.out⟩
end Go.Proofs.Ytlldmpcamdginaa.Trk
