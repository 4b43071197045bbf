/- Tracks: the law's Same, walked. -/
import Derived.Test.YtlldmpcamdginaaT3
import Derived.Deep.RegionHeld3
import Derived.Deep.DeepCutAuto
namespace Go.Proofs.Ytlldmpcamdginaa.Trk
open Go.ChangeShapes Go.WideShapes Go.ChangeAt Go.RowKit
open Go.Proofs.Ytlldmpcamdginaa.Rec
set_option linter.unusedVariables false
set_option maxHeartbeats 8000000 in
set_option maxRecDepth 100000 in
theorem same_tr (ta tb : Tv) (x : Tk) (w : World) (hA : TkV w ta x) (hB : RfV w tb x) (hr : ∀ c ∈ x.cams, ∀ p ∈ c, (-2147483648 ≤ p.x ∧ p.x ≤ 2147483647) ∧ -2147483648 ≤ p.y ∧ p.y ≤ 2147483647) (hl : (∀ c ∈ x.cams, c.length ≤ 1000000) ∧ x.marks.length ≤ 1000000) :
    Calls Try.prog 26 #[.agg ta.cells, .agg tb.cells] w fun e w' => e = .returned (.bool true) ∧ Ext w w' := by
  have HE0 := Lib.hid (ext_alloc (ext_alloc (Ext.rfl' w) (.cells ta.cells 54)) (.cells tb.cells 47))
  have HH0 := Lib.hid ((Blk.new w 54 ta.cells).alloc (.cells tb.cells 47))
  have HG0 := Lib.hid (Blk.new1 w (.cells ta.cells 54) 47 tb.cells)
  have HA := Lib.hid (hA.ext HE0.out); have HB := Lib.hid (hB.ext HE0.out)
  have HR := Lib.hid hr
  obtain ⟨⟨A0, n0, c0⟩, ⟨A1, n1, c1⟩, ⟨A2, n2, c2⟩, ⟨A3, n3, c3⟩, ⟨Am, nm, cm⟩⟩ := ta
  obtain ⟨⟨B0, m0, d0⟩, ⟨B1, m1, d1⟩, ⟨B2, m2, d2⟩, ⟨B3, m3, d3⟩, ⟨Bm, mm, dm⟩⟩ := tb
  obtain ⟨p0, p1, p2, p3, ms⟩ := x
  have e0 : p0.length = n0 := hA.1.1.1
  have e1 : p1.length = n1 := hA.2.1.1.1
  have e2 : p2.length = n2 := hA.2.2.1.1.1
  have e3 : p3.length = n3 := hA.2.2.2.1.1.1
  have em : ms.length = nm := hA.2.2.2.2.1.1
  obtain rfl : n0 = m0 := e0.symm.trans hB.1.1.1
  obtain rfl : n1 = m1 := e1.symm.trans hB.2.1.1.1
  obtain rfl : n2 = m2 := e2.symm.trans hB.2.2.1.1.1
  obtain rfl : n3 = m3 := e3.symm.trans hB.2.2.2.1.1.1
  obtain rfl : nm = mm := em.symm.trans hB.2.2.2.2.1.1
  have L0 : n0 ≤ 1000000 := by have := hl.1 p0 (by simp [Tk.cams]); omega
  have L1 : n1 ≤ 1000000 := by have := hl.1 p1 (by simp [Tk.cams]); omega
  have L2 : n2 ≤ 1000000 := by have := hl.1 p2 (by simp [Tk.cams]); omega
  have L3 : n3 ≤ 1000000 := by have := hl.1 p3 (by simp [Tk.cams]); omega
  have Lm : nm ≤ 1000000 := by have := hl.2; simp only at this; omega
  replace e0 := Lib.hid e0; replace e1 := Lib.hid e1; replace e2 := Lib.hid e2; replace e3 := Lib.hid e3; replace em := Lib.hid em
  clear hA hB hr hl
  simp only [Tv.cells] at *
  go_enter Try.func26, Try.ntmps26
  go_upto_region 1 with fail
  obtain ⟨w0, hw0⟩ : ∃ q, q = (w.alloc (.cells #[.slice A0 n0 c0, .slice A1 n1 c1, .slice A2 n2 c2, .slice A3 n3 c3, .slice Am nm cm] 54)).alloc (.cells #[.slice B0 n0 d0, .slice B1 n1 d1, .slice B2 n2 d2, .slice B3 n3 d3, .slice Bm nm dm] 47) := ⟨_, rfl⟩
  rw [← hw0] at HE0 HH0 HG0 HA HB ⊢
  clear hw0
  generalize w.heap.size = hb at *
  have h4 := HH0.out.cell 4; have g4 := HG0.out.cell 4
  simp only [List.getElem?_toArray, List.getElem?_cons_zero, List.getElem?_cons_succ] at h4 g4
  go_wp2_with fail
  clear h4 g4
  go_loopg [5] nm (fun gh iv wr => ∃ (k : Nat), k + gh = nm ∧ iv = .int .i64 (k : Int) ∧ Ext w0 wr)
  case atStart => exact ⟨0, by omega, rfl, Ext.rfl' _⟩
  case round =>
    obtain ⟨k, hk, rfl, hE⟩ := hrel
    obtain ⟨wi, rfl⟩ : ∃ wi : World, wi = wr := ⟨_, rfl⟩
    obtain ⟨gh, rfl⟩ : ∃ gh : Nat, gh = gk := ⟨_, rfl⟩
    have HE := Lib.hid hE
    clear hE
    have y1 : (0 : Int) ≤ (k : Int) := by omega
    have h4 := kc HE.out (HH0.out.cell 4); have g4 := kc HE.out (HG0.out.cell 4)
    by_cases hlt : k < nm
    · have hke : k < ms.length := by rw [em.out]; exact hlt
      obtain ⟨ab, ao, ha, hab, hc⟩ := HA.out.2.2.2.2.1.2 (show 0 < nm by omega)
      obtain ⟨bb, bo, hbb, hbw, hd⟩ := HB.out.2.2.2.2.1.2 (show 0 < nm by omega)
      simp only at ha hbb
      subst ha hbb
      have qa := fun i hi => (HE.out.cell (p := ⟨ab, ao + k * 2 + i, none⟩) hab).trans (hc k hke i hi)
      have qb := fun i hi => (HE.out.cell (p := ⟨bb, bo + k * 2 + i, none⟩) hbw).trans (hd k hke i hi)
      generalize ms[k] = u at qa qb
      obtain ⟨tk, s⟩ := u
      have a0 := qa 0 (by omega); have a1 := qa 1 (by omega); have b0 := qb 0 (by omega); have b1 := qb 1 (by omega)
      simp only [cM, Nat.add_zero, List.getElem?_cons_zero, List.getElem?_cons_succ] at a0 a1 b0 b1
      have y2 : (k : Int) < (nm : Int) := by omega
      clear hc hd qa qb hke
      go_upto_region 6 with fail
      have MK6 := Lib.hid (fun (w' : World) (e : Ext wi w') => (⟨kc e h4, kc e g4, kc e a0, kc e a1, kc e b0, kc e b1, Lib.hid e⟩ : w'.cell? ⟨hb, 4, none⟩ = some (.slice (some ⟨ab, ao, none⟩) nm cm) ∧ w'.cell? ⟨hb + 1, 4, none⟩ = some (.slice (some ⟨bb, bo, none⟩) nm dm) ∧ w'.cell? ⟨ab, ao + k * 2, none⟩ = some (.int .i64 tk) ∧ w'.cell? ⟨ab, ao + k * 2 + 1, none⟩ = some (.string s) ∧ w'.cell? ⟨bb, bo + k * 2, none⟩ = some (.int .i64 tk) ∧ w'.cell? ⟨bb, bo + k * 2 + 1, none⟩ = some (.string s) ∧ Hid (Ext wi w')))
      have zT := Lib.hid (Ext.rfl' wi)
      have hz : wi.heap.size ≤ wi.heap.size := Nat.le_refl _
      go_region_held3 (fun w' => w'.cell? ⟨hb, 4, none⟩ = some (.slice (some ⟨ab, ao, none⟩) nm cm) ∧ w'.cell? ⟨hb + 1, 4, none⟩ = some (.slice (some ⟨bb, bo, none⟩) nm dm) ∧ w'.cell? ⟨ab, ao + k * 2, none⟩ = some (.int .i64 tk) ∧ w'.cell? ⟨ab, ao + k * 2 + 1, none⟩ = some (.string s) ∧ w'.cell? ⟨bb, bo + k * 2, none⟩ = some (.int .i64 tk) ∧ w'.cell? ⟨bb, bo + k * 2 + 1, none⟩ = some (.string s) ∧ Hid (Ext wi w'))
        ((refine MK6.out _ ?_; repeat (first | exact zT.out | refine ext_alloc ?_ _ | refine ext_drew ?_ | refine ext_set ?_ (by first | omega | (simp; done) | (simp; omega)) _)))
        (fail)
      all_goals
        go_wp2_with fail
        go_roundg (gh - 1)
        case measure => omega
        case rel => exact ⟨k + 1, by omega, by go_num, by repeat (first | exact HE.out | refine ext_drew ?_)⟩
    · obtain rfl : gh = 0 := by omega
      obtain rfl : k = nm := by omega
      have y2 : ¬ (k : Int) < (k : Int) := by omega
      go_wp2_with fail
      clear h4 g4
      go_loopg [6] 4 (fun gh iv wr => ∃ (k : Nat), k + gh = 4 ∧ iv = .int .i64 (k : Int) ∧ Ext w0 wr)
      case atStart => exact ⟨0, by omega, rfl, HE.out⟩
      case round =>
        clear HE
        obtain ⟨k, hk, rfl, hE⟩ := hrel
        obtain ⟨wi, rfl⟩ : ∃ wi : World, wi = wr := ⟨_, rfl⟩
        obtain ⟨gh, rfl⟩ : ∃ gh : Nat, gh = gk := ⟨_, rfl⟩
        have HE := Lib.hid hE
        clear hE
        have hk5 : k = 0 ∨ k = 1 ∨ k = 2 ∨ k = 3 ∨ k = 4 := by omega
        rcases hk5 with rfl | rfl | rfl | rfl | rfl
        · have hj : wi.cell? ⟨hb, 0, none⟩ = some (.slice A0 n0 c0) := kc HE.out (HH0.out.cell 0)
          have gj : wi.cell? ⟨hb + 1, 0, none⟩ = some (.slice B0 n0 d0) := kc HE.out (HG0.out.cell 0)
          have HHJ : Hid (w0.cell? ⟨hb, 0, none⟩ = some (.slice A0 n0 c0)) := Lib.hid (HH0.out.cell 0)
          have HGJ : Hid (w0.cell? ⟨hb + 1, 0, none⟩ = some (.slice B0 n0 d0)) := Lib.hid (HG0.out.cell 0)
          go_upto_region 11 with fail
          have MKB := Lib.hid (fun (w' : World) (e : Ext wi w') => (⟨kc e hj, kc e gj, Lib.hid e⟩ : w'.cell? ⟨hb, 0, none⟩ = some (.slice A0 n0 c0) ∧ w'.cell? ⟨hb + 1, 0, none⟩ = some (.slice B0 n0 d0) ∧ Hid (Ext wi w')))
          have zT := Lib.hid (Ext.rfl' wi)
          have hz : wi.heap.size ≤ wi.heap.size := Nat.le_refl _
          go_region_held3 (fun w' => w'.cell? ⟨hb, 0, none⟩ = some (.slice A0 n0 c0) ∧ w'.cell? ⟨hb + 1, 0, none⟩ = some (.slice B0 n0 d0) ∧ Hid (Ext wi w'))
            ((refine MKB.out _ ?_; repeat (first | exact zT.out | refine ext_alloc ?_ _ | refine ext_drew ?_ | refine ext_set ?_ (by first | omega | (simp; done) | (simp; omega)) _)))
            (fail)
          clear hj gj MKB zT hz
          all_goals
            go_wp2_with fail
            go_loopg [7] n0 (fun gi iv wr => ∃ (i : Nat), i + gi = n0 ∧ iv = .int .i64 (i : Int) ∧ Ext w0 wr)
            case atStart => exact ⟨0, by omega, rfl, by repeat (first | exact HE.out | refine ext_drew ?_)⟩
            case round =>
              clear HE
              obtain ⟨i, hi, rfl, hE⟩ := hrel
              obtain ⟨wk, rfl⟩ : ∃ wk : World, wk = wr := ⟨_, rfl⟩
              obtain ⟨gi, rfl⟩ : ∃ gi : Nat, gi = gk := ⟨_, rfl⟩
              have HE := Lib.hid hE
              clear hE
              have hj := kc HE.out HHJ.out; have gj := kc HE.out HGJ.out
              have y1 : (0 : Int) ≤ (i : Int) := by omega
              by_cases hlt : i < n0
              · have hke : i < p0.length := by rw [e0.out]; exact hlt
                obtain ⟨ab, ao, ha, hab, hc⟩ := HA.out.1.1.2 (show 0 < n0 by omega)
                obtain ⟨bb, bo, hbb, hbw, hd⟩ := HB.out.1.1.2 (show 0 < n0 by omega)
                simp only at ha hbb
                subst ha hbb
                have qa := fun l hl => (HE.out.cell (p := ⟨ab, ao + i * 3 + l, none⟩) hab).trans (hc i hke l hl)
                have qb := fun l hl => (HE.out.cell (p := ⟨bb, bo + i * 3 + l, none⟩) hbw).trans (hd i hke l hl)
                have hrr := HR.out p0 (by simp [Tk.cams]) p0[i] (List.getElem_mem _)
                generalize p0[i] = u at qa qb hrr
                obtain ⟨tk, px, py⟩ := u
                have a0 := qa 0 (by omega); have a1 := qa 1 (by omega); have a2 := qa 2 (by omega); have b0 := qb 0 (by omega); have b1 := qb 1 (by omega); have b2 := qb 2 (by omega)
                simp only [cP, cR, Nat.add_zero, List.getElem?_cons_zero, List.getElem?_cons_succ] at a0 a1 a2 b0 b1 b2 hrr
                have y2 : (i : Int) < (n0 : Int) := by omega
                have W1 : IntKind.i64.wrap px = px := IntWalk.i64_in _ (by omega)
                have W2 : IntKind.i64.wrap py = py := IntWalk.i64_in _ (by omega)
                clear hc hd qa qb hke
                go_upto_region 16 with fail
                go_cut [8, 9] (fun s8 s9 wx => ∃ g1 g2 : Nat, s8 = .pointer (some ⟨g1, 0, none⟩) ∧ s9 = .pointer (some ⟨g2, 0, none⟩) ∧ Blk wx g1 115 #[.int .i64 tk, .int .i32 px, .int .i32 py] ∧ Blk wx g2 113 #[.int .i64 tk, .int .i64 px, .int .i64 py] ∧ Ext wk wx)
                case first =>
                  have MKC := Lib.hid (fun (w' : World) (e : Ext wk w') => (⟨kc e hj, kc e gj, kc e a0, kc e a1, kc e a2, kc e b0, kc e b1, kc e b2, Lib.hid e⟩ : w'.cell? ⟨hb, 0, none⟩ = some (.slice (some ⟨ab, ao, none⟩) n0 c0) ∧ w'.cell? ⟨hb + 1, 0, none⟩ = some (.slice (some ⟨bb, bo, none⟩) n0 d0) ∧ w'.cell? ⟨ab, ao + i * 3, none⟩ = some (.int .i64 tk) ∧ w'.cell? ⟨ab, ao + i * 3 + 1, none⟩ = some (.int .i32 px) ∧ w'.cell? ⟨ab, ao + i * 3 + 2, none⟩ = some (.int .i32 py) ∧ w'.cell? ⟨bb, bo + i * 3, none⟩ = some (.int .i64 tk) ∧ w'.cell? ⟨bb, bo + i * 3 + 1, none⟩ = some (.int .i64 px) ∧ w'.cell? ⟨bb, bo + i * 3 + 2, none⟩ = some (.int .i64 py) ∧ Hid (Ext wk w')))
                  have zT := Lib.hid (Ext.rfl' wk)
                  have hz : wk.heap.size ≤ wk.heap.size := Nat.le_refl _
                  go_region_held3 (fun w' => w'.cell? ⟨hb, 0, none⟩ = some (.slice (some ⟨ab, ao, none⟩) n0 c0) ∧ w'.cell? ⟨hb + 1, 0, none⟩ = some (.slice (some ⟨bb, bo, none⟩) n0 d0) ∧ w'.cell? ⟨ab, ao + i * 3, none⟩ = some (.int .i64 tk) ∧ w'.cell? ⟨ab, ao + i * 3 + 1, none⟩ = some (.int .i32 px) ∧ w'.cell? ⟨ab, ao + i * 3 + 2, none⟩ = some (.int .i32 py) ∧ w'.cell? ⟨bb, bo + i * 3, none⟩ = some (.int .i64 tk) ∧ w'.cell? ⟨bb, bo + i * 3 + 1, none⟩ = some (.int .i64 px) ∧ w'.cell? ⟨bb, bo + i * 3 + 2, none⟩ = some (.int .i64 py) ∧ Hid (Ext wk w'))
                    ((refine MKC.out _ ?_; repeat (first | exact zT.out | refine ext_alloc ?_ _ | refine ext_drew ?_ | refine ext_set ?_ (by first | omega | (simp; done) | (simp; omega)) _)))
                    (fail)
                  all_goals
                    go_wp2_with fail
                    go_meet
                    go_split_ands
                    refine ⟨_, _, rfl, rfl, ?_, ?_, (by repeat (first | exact Ext.rfl' _ | refine ext_drew ?_ | refine ext_alloc ?_ _ | refine ext_set ?_ (Nat.le_refl _) _))⟩
                    all_goals (repeat refine Blk.drew ?_); first | exact (Blk.new _ _ _).alloc _ | exact Blk.new1 _ _ _ _
                case rest =>
                  obtain ⟨g1, g2, rfl, rfl, k1, k2, ex⟩ := hcut
                  have HEX := Lib.hid (ext_trans HE.out ex)
                  have u0 := k1.cell 0; have u1 := k1.cell 1; have u2 := k1.cell 2
                  have v0 := k2.cell 0; have v1 := k2.cell 1; have v2 := k2.cell 2
                  simp only [List.getElem?_toArray, List.getElem?_cons_zero, List.getElem?_cons_succ] at u0 u1 u2 v0 v1 v2
                  clear ex k1 k2 a0 a1 a2 b0 b1 b2 hj gj
                  go_wp2_with fail
                  go_roundg (gi - 1)
                  case measure => omega
                  case rel => exact ⟨i + 1, by omega, by go_num, HEX.out⟩
              · obtain rfl : gi = 0 := by omega
                obtain rfl : i = n0 := by omega
                have y2 : ¬ (i : Int) < (i : Int) := by omega
                go_wp2_with fail
                go_roundg (gh - 1)
                case measure => omega
                case rel => exact ⟨1, by omega, by rfl, HE.out⟩
        · have hj : wi.cell? ⟨hb, 1, none⟩ = some (.slice A1 n1 c1) := kc HE.out (HH0.out.cell 1)
          have gj : wi.cell? ⟨hb + 1, 1, none⟩ = some (.slice B1 n1 d1) := kc HE.out (HG0.out.cell 1)
          have HHJ : Hid (w0.cell? ⟨hb, 1, none⟩ = some (.slice A1 n1 c1)) := Lib.hid (HH0.out.cell 1)
          have HGJ : Hid (w0.cell? ⟨hb + 1, 1, none⟩ = some (.slice B1 n1 d1)) := Lib.hid (HG0.out.cell 1)
          go_upto_region 11 with fail
          have MKB := Lib.hid (fun (w' : World) (e : Ext wi w') => (⟨kc e hj, kc e gj, Lib.hid e⟩ : w'.cell? ⟨hb, 1, none⟩ = some (.slice A1 n1 c1) ∧ w'.cell? ⟨hb + 1, 1, none⟩ = some (.slice B1 n1 d1) ∧ Hid (Ext wi w')))
          have zT := Lib.hid (Ext.rfl' wi)
          have hz : wi.heap.size ≤ wi.heap.size := Nat.le_refl _
          go_region_held3 (fun w' => w'.cell? ⟨hb, 1, none⟩ = some (.slice A1 n1 c1) ∧ w'.cell? ⟨hb + 1, 1, none⟩ = some (.slice B1 n1 d1) ∧ Hid (Ext wi w'))
            ((refine MKB.out _ ?_; repeat (first | exact zT.out | refine ext_alloc ?_ _ | refine ext_drew ?_ | refine ext_set ?_ (by first | omega | (simp; done) | (simp; omega)) _)))
            (fail)
          clear hj gj MKB zT hz
          all_goals
            go_wp2_with fail
            go_loopg [7] n1 (fun gi iv wr => ∃ (i : Nat), i + gi = n1 ∧ iv = .int .i64 (i : Int) ∧ Ext w0 wr)
            case atStart => exact ⟨0, by omega, rfl, by repeat (first | exact HE.out | refine ext_drew ?_)⟩
            case round =>
              clear HE
              obtain ⟨i, hi, rfl, hE⟩ := hrel
              obtain ⟨wk, rfl⟩ : ∃ wk : World, wk = wr := ⟨_, rfl⟩
              obtain ⟨gi, rfl⟩ : ∃ gi : Nat, gi = gk := ⟨_, rfl⟩
              have HE := Lib.hid hE
              clear hE
              have hj := kc HE.out HHJ.out; have gj := kc HE.out HGJ.out
              have y1 : (0 : Int) ≤ (i : Int) := by omega
              by_cases hlt : i < n1
              · have hke : i < p1.length := by rw [e1.out]; exact hlt
                obtain ⟨ab, ao, ha, hab, hc⟩ := HA.out.2.1.1.2 (show 0 < n1 by omega)
                obtain ⟨bb, bo, hbb, hbw, hd⟩ := HB.out.2.1.1.2 (show 0 < n1 by omega)
                simp only at ha hbb
                subst ha hbb
                have qa := fun l hl => (HE.out.cell (p := ⟨ab, ao + i * 3 + l, none⟩) hab).trans (hc i hke l hl)
                have qb := fun l hl => (HE.out.cell (p := ⟨bb, bo + i * 3 + l, none⟩) hbw).trans (hd i hke l hl)
                have hrr := HR.out p1 (by simp [Tk.cams]) p1[i] (List.getElem_mem _)
                generalize p1[i] = u at qa qb hrr
                obtain ⟨tk, px, py⟩ := u
                have a0 := qa 0 (by omega); have a1 := qa 1 (by omega); have a2 := qa 2 (by omega); have b0 := qb 0 (by omega); have b1 := qb 1 (by omega); have b2 := qb 2 (by omega)
                simp only [cP, cR, Nat.add_zero, List.getElem?_cons_zero, List.getElem?_cons_succ] at a0 a1 a2 b0 b1 b2 hrr
                have y2 : (i : Int) < (n1 : Int) := by omega
                have W1 : IntKind.i64.wrap px = px := IntWalk.i64_in _ (by omega)
                have W2 : IntKind.i64.wrap py = py := IntWalk.i64_in _ (by omega)
                clear hc hd qa qb hke
                go_upto_region 16 with fail
                go_cut [8, 9] (fun s8 s9 wx => ∃ g1 g2 : Nat, s8 = .pointer (some ⟨g1, 0, none⟩) ∧ s9 = .pointer (some ⟨g2, 0, none⟩) ∧ Blk wx g1 115 #[.int .i64 tk, .int .i32 px, .int .i32 py] ∧ Blk wx g2 113 #[.int .i64 tk, .int .i64 px, .int .i64 py] ∧ Ext wk wx)
                case first =>
                  have MKC := Lib.hid (fun (w' : World) (e : Ext wk w') => (⟨kc e hj, kc e gj, kc e a0, kc e a1, kc e a2, kc e b0, kc e b1, kc e b2, Lib.hid e⟩ : w'.cell? ⟨hb, 1, none⟩ = some (.slice (some ⟨ab, ao, none⟩) n1 c1) ∧ w'.cell? ⟨hb + 1, 1, none⟩ = some (.slice (some ⟨bb, bo, none⟩) n1 d1) ∧ w'.cell? ⟨ab, ao + i * 3, none⟩ = some (.int .i64 tk) ∧ w'.cell? ⟨ab, ao + i * 3 + 1, none⟩ = some (.int .i32 px) ∧ w'.cell? ⟨ab, ao + i * 3 + 2, none⟩ = some (.int .i32 py) ∧ w'.cell? ⟨bb, bo + i * 3, none⟩ = some (.int .i64 tk) ∧ w'.cell? ⟨bb, bo + i * 3 + 1, none⟩ = some (.int .i64 px) ∧ w'.cell? ⟨bb, bo + i * 3 + 2, none⟩ = some (.int .i64 py) ∧ Hid (Ext wk w')))
                  have zT := Lib.hid (Ext.rfl' wk)
                  have hz : wk.heap.size ≤ wk.heap.size := Nat.le_refl _
                  go_region_held3 (fun w' => w'.cell? ⟨hb, 1, none⟩ = some (.slice (some ⟨ab, ao, none⟩) n1 c1) ∧ w'.cell? ⟨hb + 1, 1, none⟩ = some (.slice (some ⟨bb, bo, none⟩) n1 d1) ∧ w'.cell? ⟨ab, ao + i * 3, none⟩ = some (.int .i64 tk) ∧ w'.cell? ⟨ab, ao + i * 3 + 1, none⟩ = some (.int .i32 px) ∧ w'.cell? ⟨ab, ao + i * 3 + 2, none⟩ = some (.int .i32 py) ∧ w'.cell? ⟨bb, bo + i * 3, none⟩ = some (.int .i64 tk) ∧ w'.cell? ⟨bb, bo + i * 3 + 1, none⟩ = some (.int .i64 px) ∧ w'.cell? ⟨bb, bo + i * 3 + 2, none⟩ = some (.int .i64 py) ∧ Hid (Ext wk w'))
                    ((refine MKC.out _ ?_; repeat (first | exact zT.out | refine ext_alloc ?_ _ | refine ext_drew ?_ | refine ext_set ?_ (by first | omega | (simp; done) | (simp; omega)) _)))
                    (fail)
                  all_goals
                    go_wp2_with fail
                    go_meet
                    go_split_ands
                    refine ⟨_, _, rfl, rfl, ?_, ?_, (by repeat (first | exact Ext.rfl' _ | refine ext_drew ?_ | refine ext_alloc ?_ _ | refine ext_set ?_ (Nat.le_refl _) _))⟩
                    all_goals (repeat refine Blk.drew ?_); first | exact (Blk.new _ _ _).alloc _ | exact Blk.new1 _ _ _ _
                case rest =>
                  obtain ⟨g1, g2, rfl, rfl, k1, k2, ex⟩ := hcut
                  have HEX := Lib.hid (ext_trans HE.out ex)
                  have u0 := k1.cell 0; have u1 := k1.cell 1; have u2 := k1.cell 2
                  have v0 := k2.cell 0; have v1 := k2.cell 1; have v2 := k2.cell 2
                  simp only [List.getElem?_toArray, List.getElem?_cons_zero, List.getElem?_cons_succ] at u0 u1 u2 v0 v1 v2
                  clear ex k1 k2 a0 a1 a2 b0 b1 b2 hj gj
                  go_wp2_with fail
                  go_roundg (gi - 1)
                  case measure => omega
                  case rel => exact ⟨i + 1, by omega, by go_num, HEX.out⟩
              · obtain rfl : gi = 0 := by omega
                obtain rfl : i = n1 := by omega
                have y2 : ¬ (i : Int) < (i : Int) := by omega
                go_wp2_with fail
                go_roundg (gh - 1)
                case measure => omega
                case rel => exact ⟨2, by omega, by rfl, HE.out⟩
        · have hj : wi.cell? ⟨hb, 2, none⟩ = some (.slice A2 n2 c2) := kc HE.out (HH0.out.cell 2)
          have gj : wi.cell? ⟨hb + 1, 2, none⟩ = some (.slice B2 n2 d2) := kc HE.out (HG0.out.cell 2)
          have HHJ : Hid (w0.cell? ⟨hb, 2, none⟩ = some (.slice A2 n2 c2)) := Lib.hid (HH0.out.cell 2)
          have HGJ : Hid (w0.cell? ⟨hb + 1, 2, none⟩ = some (.slice B2 n2 d2)) := Lib.hid (HG0.out.cell 2)
          go_upto_region 11 with fail
          have MKB := Lib.hid (fun (w' : World) (e : Ext wi w') => (⟨kc e hj, kc e gj, Lib.hid e⟩ : w'.cell? ⟨hb, 2, none⟩ = some (.slice A2 n2 c2) ∧ w'.cell? ⟨hb + 1, 2, none⟩ = some (.slice B2 n2 d2) ∧ Hid (Ext wi w')))
          have zT := Lib.hid (Ext.rfl' wi)
          have hz : wi.heap.size ≤ wi.heap.size := Nat.le_refl _
          go_region_held3 (fun w' => w'.cell? ⟨hb, 2, none⟩ = some (.slice A2 n2 c2) ∧ w'.cell? ⟨hb + 1, 2, none⟩ = some (.slice B2 n2 d2) ∧ Hid (Ext wi w'))
            ((refine MKB.out _ ?_; repeat (first | exact zT.out | refine ext_alloc ?_ _ | refine ext_drew ?_ | refine ext_set ?_ (by first | omega | (simp; done) | (simp; omega)) _)))
            (fail)
          clear hj gj MKB zT hz
          all_goals
            go_wp2_with fail
            go_loopg [7] n2 (fun gi iv wr => ∃ (i : Nat), i + gi = n2 ∧ iv = .int .i64 (i : Int) ∧ Ext w0 wr)
            case atStart => exact ⟨0, by omega, rfl, by repeat (first | exact HE.out | refine ext_drew ?_)⟩
            case round =>
              clear HE
              obtain ⟨i, hi, rfl, hE⟩ := hrel
              obtain ⟨wk, rfl⟩ : ∃ wk : World, wk = wr := ⟨_, rfl⟩
              obtain ⟨gi, rfl⟩ : ∃ gi : Nat, gi = gk := ⟨_, rfl⟩
              have HE := Lib.hid hE
              clear hE
              have hj := kc HE.out HHJ.out; have gj := kc HE.out HGJ.out
              have y1 : (0 : Int) ≤ (i : Int) := by omega
              by_cases hlt : i < n2
              · have hke : i < p2.length := by rw [e2.out]; exact hlt
                obtain ⟨ab, ao, ha, hab, hc⟩ := HA.out.2.2.1.1.2 (show 0 < n2 by omega)
                obtain ⟨bb, bo, hbb, hbw, hd⟩ := HB.out.2.2.1.1.2 (show 0 < n2 by omega)
                simp only at ha hbb
                subst ha hbb
                have qa := fun l hl => (HE.out.cell (p := ⟨ab, ao + i * 3 + l, none⟩) hab).trans (hc i hke l hl)
                have qb := fun l hl => (HE.out.cell (p := ⟨bb, bo + i * 3 + l, none⟩) hbw).trans (hd i hke l hl)
                have hrr := HR.out p2 (by simp [Tk.cams]) p2[i] (List.getElem_mem _)
                generalize p2[i] = u at qa qb hrr
                obtain ⟨tk, px, py⟩ := u
                have a0 := qa 0 (by omega); have a1 := qa 1 (by omega); have a2 := qa 2 (by omega); have b0 := qb 0 (by omega); have b1 := qb 1 (by omega); have b2 := qb 2 (by omega)
                simp only [cP, cR, Nat.add_zero, List.getElem?_cons_zero, List.getElem?_cons_succ] at a0 a1 a2 b0 b1 b2 hrr
                have y2 : (i : Int) < (n2 : Int) := by omega
                have W1 : IntKind.i64.wrap px = px := IntWalk.i64_in _ (by omega)
                have W2 : IntKind.i64.wrap py = py := IntWalk.i64_in _ (by omega)
                clear hc hd qa qb hke
                go_upto_region 16 with fail
                go_cut [8, 9] (fun s8 s9 wx => ∃ g1 g2 : Nat, s8 = .pointer (some ⟨g1, 0, none⟩) ∧ s9 = .pointer (some ⟨g2, 0, none⟩) ∧ Blk wx g1 115 #[.int .i64 tk, .int .i32 px, .int .i32 py] ∧ Blk wx g2 113 #[.int .i64 tk, .int .i64 px, .int .i64 py] ∧ Ext wk wx)
                case first =>
                  have MKC := Lib.hid (fun (w' : World) (e : Ext wk w') => (⟨kc e hj, kc e gj, kc e a0, kc e a1, kc e a2, kc e b0, kc e b1, kc e b2, Lib.hid e⟩ : w'.cell? ⟨hb, 2, none⟩ = some (.slice (some ⟨ab, ao, none⟩) n2 c2) ∧ w'.cell? ⟨hb + 1, 2, none⟩ = some (.slice (some ⟨bb, bo, none⟩) n2 d2) ∧ w'.cell? ⟨ab, ao + i * 3, none⟩ = some (.int .i64 tk) ∧ w'.cell? ⟨ab, ao + i * 3 + 1, none⟩ = some (.int .i32 px) ∧ w'.cell? ⟨ab, ao + i * 3 + 2, none⟩ = some (.int .i32 py) ∧ w'.cell? ⟨bb, bo + i * 3, none⟩ = some (.int .i64 tk) ∧ w'.cell? ⟨bb, bo + i * 3 + 1, none⟩ = some (.int .i64 px) ∧ w'.cell? ⟨bb, bo + i * 3 + 2, none⟩ = some (.int .i64 py) ∧ Hid (Ext wk w')))
                  have zT := Lib.hid (Ext.rfl' wk)
                  have hz : wk.heap.size ≤ wk.heap.size := Nat.le_refl _
                  go_region_held3 (fun w' => w'.cell? ⟨hb, 2, none⟩ = some (.slice (some ⟨ab, ao, none⟩) n2 c2) ∧ w'.cell? ⟨hb + 1, 2, none⟩ = some (.slice (some ⟨bb, bo, none⟩) n2 d2) ∧ w'.cell? ⟨ab, ao + i * 3, none⟩ = some (.int .i64 tk) ∧ w'.cell? ⟨ab, ao + i * 3 + 1, none⟩ = some (.int .i32 px) ∧ w'.cell? ⟨ab, ao + i * 3 + 2, none⟩ = some (.int .i32 py) ∧ w'.cell? ⟨bb, bo + i * 3, none⟩ = some (.int .i64 tk) ∧ w'.cell? ⟨bb, bo + i * 3 + 1, none⟩ = some (.int .i64 px) ∧ w'.cell? ⟨bb, bo + i * 3 + 2, none⟩ = some (.int .i64 py) ∧ Hid (Ext wk w'))
                    ((refine MKC.out _ ?_; repeat (first | exact zT.out | refine ext_alloc ?_ _ | refine ext_drew ?_ | refine ext_set ?_ (by first | omega | (simp; done) | (simp; omega)) _)))
                    (fail)
                  all_goals
                    go_wp2_with fail
                    go_meet
                    go_split_ands
                    refine ⟨_, _, rfl, rfl, ?_, ?_, (by repeat (first | exact Ext.rfl' _ | refine ext_drew ?_ | refine ext_alloc ?_ _ | refine ext_set ?_ (Nat.le_refl _) _))⟩
                    all_goals (repeat refine Blk.drew ?_); first | exact (Blk.new _ _ _).alloc _ | exact Blk.new1 _ _ _ _
                case rest =>
                  obtain ⟨g1, g2, rfl, rfl, k1, k2, ex⟩ := hcut
                  have HEX := Lib.hid (ext_trans HE.out ex)
                  have u0 := k1.cell 0; have u1 := k1.cell 1; have u2 := k1.cell 2
                  have v0 := k2.cell 0; have v1 := k2.cell 1; have v2 := k2.cell 2
                  simp only [List.getElem?_toArray, List.getElem?_cons_zero, List.getElem?_cons_succ] at u0 u1 u2 v0 v1 v2
                  clear ex k1 k2 a0 a1 a2 b0 b1 b2 hj gj
                  go_wp2_with fail
                  go_roundg (gi - 1)
                  case measure => omega
                  case rel => exact ⟨i + 1, by omega, by go_num, HEX.out⟩
              · obtain rfl : gi = 0 := by omega
                obtain rfl : i = n2 := by omega
                have y2 : ¬ (i : Int) < (i : Int) := by omega
                go_wp2_with fail
                go_roundg (gh - 1)
                case measure => omega
                case rel => exact ⟨3, by omega, by rfl, HE.out⟩
        · have hj : wi.cell? ⟨hb, 3, none⟩ = some (.slice A3 n3 c3) := kc HE.out (HH0.out.cell 3)
          have gj : wi.cell? ⟨hb + 1, 3, none⟩ = some (.slice B3 n3 d3) := kc HE.out (HG0.out.cell 3)
          have HHJ : Hid (w0.cell? ⟨hb, 3, none⟩ = some (.slice A3 n3 c3)) := Lib.hid (HH0.out.cell 3)
          have HGJ : Hid (w0.cell? ⟨hb + 1, 3, none⟩ = some (.slice B3 n3 d3)) := Lib.hid (HG0.out.cell 3)
          go_upto_region 11 with fail
          have MKB := Lib.hid (fun (w' : World) (e : Ext wi w') => (⟨kc e hj, kc e gj, Lib.hid e⟩ : w'.cell? ⟨hb, 3, none⟩ = some (.slice A3 n3 c3) ∧ w'.cell? ⟨hb + 1, 3, none⟩ = some (.slice B3 n3 d3) ∧ Hid (Ext wi w')))
          have zT := Lib.hid (Ext.rfl' wi)
          have hz : wi.heap.size ≤ wi.heap.size := Nat.le_refl _
          go_region_held3 (fun w' => w'.cell? ⟨hb, 3, none⟩ = some (.slice A3 n3 c3) ∧ w'.cell? ⟨hb + 1, 3, none⟩ = some (.slice B3 n3 d3) ∧ Hid (Ext wi w'))
            ((refine MKB.out _ ?_; repeat (first | exact zT.out | refine ext_alloc ?_ _ | refine ext_drew ?_ | refine ext_set ?_ (by first | omega | (simp; done) | (simp; omega)) _)))
            (fail)
          clear hj gj MKB zT hz
          all_goals
            go_wp2_with fail
            go_loopg [7] n3 (fun gi iv wr => ∃ (i : Nat), i + gi = n3 ∧ iv = .int .i64 (i : Int) ∧ Ext w0 wr)
            case atStart => exact ⟨0, by omega, rfl, by repeat (first | exact HE.out | refine ext_drew ?_)⟩
            case round =>
              clear HE
              obtain ⟨i, hi, rfl, hE⟩ := hrel
              obtain ⟨wk, rfl⟩ : ∃ wk : World, wk = wr := ⟨_, rfl⟩
              obtain ⟨gi, rfl⟩ : ∃ gi : Nat, gi = gk := ⟨_, rfl⟩
              have HE := Lib.hid hE
              clear hE
              have hj := kc HE.out HHJ.out; have gj := kc HE.out HGJ.out
              have y1 : (0 : Int) ≤ (i : Int) := by omega
              by_cases hlt : i < n3
              · have hke : i < p3.length := by rw [e3.out]; exact hlt
                obtain ⟨ab, ao, ha, hab, hc⟩ := HA.out.2.2.2.1.1.2 (show 0 < n3 by omega)
                obtain ⟨bb, bo, hbb, hbw, hd⟩ := HB.out.2.2.2.1.1.2 (show 0 < n3 by omega)
                simp only at ha hbb
                subst ha hbb
                have qa := fun l hl => (HE.out.cell (p := ⟨ab, ao + i * 3 + l, none⟩) hab).trans (hc i hke l hl)
                have qb := fun l hl => (HE.out.cell (p := ⟨bb, bo + i * 3 + l, none⟩) hbw).trans (hd i hke l hl)
                have hrr := HR.out p3 (by simp [Tk.cams]) p3[i] (List.getElem_mem _)
                generalize p3[i] = u at qa qb hrr
                obtain ⟨tk, px, py⟩ := u
                have a0 := qa 0 (by omega); have a1 := qa 1 (by omega); have a2 := qa 2 (by omega); have b0 := qb 0 (by omega); have b1 := qb 1 (by omega); have b2 := qb 2 (by omega)
                simp only [cP, cR, Nat.add_zero, List.getElem?_cons_zero, List.getElem?_cons_succ] at a0 a1 a2 b0 b1 b2 hrr
                have y2 : (i : Int) < (n3 : Int) := by omega
                have W1 : IntKind.i64.wrap px = px := IntWalk.i64_in _ (by omega)
                have W2 : IntKind.i64.wrap py = py := IntWalk.i64_in _ (by omega)
                clear hc hd qa qb hke
                go_upto_region 16 with fail
                go_cut [8, 9] (fun s8 s9 wx => ∃ g1 g2 : Nat, s8 = .pointer (some ⟨g1, 0, none⟩) ∧ s9 = .pointer (some ⟨g2, 0, none⟩) ∧ Blk wx g1 115 #[.int .i64 tk, .int .i32 px, .int .i32 py] ∧ Blk wx g2 113 #[.int .i64 tk, .int .i64 px, .int .i64 py] ∧ Ext wk wx)
                case first =>
                  have MKC := Lib.hid (fun (w' : World) (e : Ext wk w') => (⟨kc e hj, kc e gj, kc e a0, kc e a1, kc e a2, kc e b0, kc e b1, kc e b2, Lib.hid e⟩ : w'.cell? ⟨hb, 3, none⟩ = some (.slice (some ⟨ab, ao, none⟩) n3 c3) ∧ w'.cell? ⟨hb + 1, 3, none⟩ = some (.slice (some ⟨bb, bo, none⟩) n3 d3) ∧ w'.cell? ⟨ab, ao + i * 3, none⟩ = some (.int .i64 tk) ∧ w'.cell? ⟨ab, ao + i * 3 + 1, none⟩ = some (.int .i32 px) ∧ w'.cell? ⟨ab, ao + i * 3 + 2, none⟩ = some (.int .i32 py) ∧ w'.cell? ⟨bb, bo + i * 3, none⟩ = some (.int .i64 tk) ∧ w'.cell? ⟨bb, bo + i * 3 + 1, none⟩ = some (.int .i64 px) ∧ w'.cell? ⟨bb, bo + i * 3 + 2, none⟩ = some (.int .i64 py) ∧ Hid (Ext wk w')))
                  have zT := Lib.hid (Ext.rfl' wk)
                  have hz : wk.heap.size ≤ wk.heap.size := Nat.le_refl _
                  go_region_held3 (fun w' => w'.cell? ⟨hb, 3, none⟩ = some (.slice (some ⟨ab, ao, none⟩) n3 c3) ∧ w'.cell? ⟨hb + 1, 3, none⟩ = some (.slice (some ⟨bb, bo, none⟩) n3 d3) ∧ w'.cell? ⟨ab, ao + i * 3, none⟩ = some (.int .i64 tk) ∧ w'.cell? ⟨ab, ao + i * 3 + 1, none⟩ = some (.int .i32 px) ∧ w'.cell? ⟨ab, ao + i * 3 + 2, none⟩ = some (.int .i32 py) ∧ w'.cell? ⟨bb, bo + i * 3, none⟩ = some (.int .i64 tk) ∧ w'.cell? ⟨bb, bo + i * 3 + 1, none⟩ = some (.int .i64 px) ∧ w'.cell? ⟨bb, bo + i * 3 + 2, none⟩ = some (.int .i64 py) ∧ Hid (Ext wk w'))
                    ((refine MKC.out _ ?_; repeat (first | exact zT.out | refine ext_alloc ?_ _ | refine ext_drew ?_ | refine ext_set ?_ (by first | omega | (simp; done) | (simp; omega)) _)))
                    (fail)
                  all_goals
                    go_wp2_with fail
                    go_meet
                    go_split_ands
                    refine ⟨_, _, rfl, rfl, ?_, ?_, (by repeat (first | exact Ext.rfl' _ | refine ext_drew ?_ | refine ext_alloc ?_ _ | refine ext_set ?_ (Nat.le_refl _) _))⟩
                    all_goals (repeat refine Blk.drew ?_); first | exact (Blk.new _ _ _).alloc _ | exact Blk.new1 _ _ _ _
                case rest =>
                  obtain ⟨g1, g2, rfl, rfl, k1, k2, ex⟩ := hcut
                  have HEX := Lib.hid (ext_trans HE.out ex)
                  have u0 := k1.cell 0; have u1 := k1.cell 1; have u2 := k1.cell 2
                  have v0 := k2.cell 0; have v1 := k2.cell 1; have v2 := k2.cell 2
                  simp only [List.getElem?_toArray, List.getElem?_cons_zero, List.getElem?_cons_succ] at u0 u1 u2 v0 v1 v2
                  clear ex k1 k2 a0 a1 a2 b0 b1 b2 hj gj
                  go_wp2_with fail
                  go_roundg (gi - 1)
                  case measure => omega
                  case rel => exact ⟨i + 1, by omega, by go_num, HEX.out⟩
              · obtain rfl : gi = 0 := by omega
                obtain rfl : i = n3 := by omega
                have y2 : ¬ (i : Int) < (i : Int) := by omega
                go_wp2_with fail
                go_roundg (gh - 1)
                case measure => omega
                case rel => exact ⟨4, by omega, by rfl, HE.out⟩
        · obtain rfl : gh = 0 := by omega
          go_wp2_with fail
          go_ret
          exact ⟨rfl, ext_trans HE0.out HE.out⟩
end Go.Proofs.Ytlldmpcamdginaa.Trk
