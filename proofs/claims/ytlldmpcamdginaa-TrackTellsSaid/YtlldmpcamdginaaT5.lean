/- Tracks: where a camera is. -/
import Derived.Test.YtlldmpcamdginaaT4
import Derived.Test.YtlldmpcamdginaaFX
import Derived.Deep.RegionHeld3
import Derived.Deep.DeepCutAuto
namespace Go.Proofs.Ytlldmpcamdginaa.Trk
open Go.ChangeShapes Go.WideShapes Go.ChangeAt Go.RowKit
open Go.Proofs.Ytlldmpcamdginaa.Rec
open Go.Proofs.Ytlldmpcamdginaa.Log (results_cell2)
open Go.Proofs.Ytlldmpcamdginaa.Fix (Near pt P between_yes)
set_option linter.unusedVariables false
def camGo (p : Pt) (t : Int) : List Pt → Int × Int
  | [] => (p.x, p.y)
  | q :: qs => if t < q.tick then (p.x + pt (q.x - p.x) (t - p.tick) (q.tick - p.tick), p.y + pt (q.y - p.y) (t - p.tick) (q.tick - p.tick)) else camGo q t qs
/-- Where a camera is: its points are not none. -/
def camAt (t : Int) : List Pt → Int × Int
  | [] => (0, 0)
  | p :: qs => if t ≤ p.tick then (p.x, p.y) else camGo p t qs
/-- Points in order, on the map. -/
def Ord : List Pt → Prop
  | [] => True
  | p :: qs => (0 ≤ p.tick ∧ p.tick ≤ 4096 ∧ 0 ≤ p.x ∧ p.x ≤ 16384 ∧ 0 ≤ p.y ∧ p.y ≤ 16384) ∧ (∀ q ∈ qs, p.tick < q.tick) ∧ Ord qs
theorem ord_of {n : Int} (hn : n ≤ 4096) : ∀ (ps : List Pt) (last : Int), -1 ≤ last → mayC n last ps = true → Ord ps ∧ ∀ q ∈ ps, last < q.tick
  | [], _, _, _ => ⟨trivial, fun q h => by cases h⟩
  | p :: qs, last, hl, h => by
    rw [mayC, Bool.and_eq_true, decide_eq_true_iff] at h
    obtain ⟨⟨h1, h2, h3, h4, h5, h6⟩, h7⟩ := h
    obtain ⟨r1, r2⟩ := ord_of hn qs p.tick (by omega) h7
    refine ⟨⟨⟨by omega, by omega, h3, h4, h5, h6⟩, r2, r1⟩, fun q hq => ?_⟩
    rcases List.mem_cons.1 hq with rfl | hq
    · exact h1
    · have := r2 q hq; omega
theorem Ord.at {ps : List Pt} (h : Ord ps) : ∀ j (hj : j < ps.length), 0 ≤ ps[j].tick ∧ ps[j].tick ≤ 4096 ∧ 0 ≤ ps[j].x ∧ ps[j].x ≤ 16384 ∧ 0 ≤ ps[j].y ∧ ps[j].y ≤ 16384 := by
  induction ps with
  | nil => intro j hj; simp at hj
  | cons p qs ih =>
    intro j hj
    cases j with
    | zero => exact h.1
    | succ j => exact ih h.2.2 j (by simpa using hj)
theorem Ord.lt {ps : List Pt} (h : Ord ps) : ∀ i j (hi : i < j) (hj : j < ps.length), (ps[i]'(by omega)).tick < ps[j].tick := by
  induction ps with
  | nil => intro i j hi hj; simp at hj
  | cons p qs ih =>
    intro i j hi hj
    cases j with
    | zero => omega
    | succ j =>
      cases i with
      | zero => exact h.2.1 _ (List.getElem_mem _)
      | succ i => exact ih h.2.2 i j (by omega) (by simpa using hj)
theorem camGo_last (t : Int) : ∀ (qs : List Pt) (p : Pt), (∀ j (hj : j < (p :: qs).length), (p :: qs)[j].tick ≤ t) → camGo p t qs = (((p :: qs)[qs.length]'(by simp)).x, ((p :: qs)[qs.length]'(by simp)).y)
  | [], p, h => rfl
  | q :: qs, p, h => by
    have h1 : q.tick ≤ t := h 1 (by simp)
    rw [camGo, if_neg (by omega), camGo_last t qs q (fun j hj => h (j + 1) (by simpa using hj))]
    rfl
theorem camGo_mid (t : Int) : ∀ (qs : List Pt) (p : Pt) (k : Nat) (hk : k + 1 < (p :: qs).length), (∀ j (hj : j < (p :: qs).length), j ≤ k → (p :: qs)[j].tick ≤ t) → t < (p :: qs)[k + 1].tick →
    camGo p t qs = ((p :: qs)[k].x + pt ((p :: qs)[k + 1].x - (p :: qs)[k].x) (t - (p :: qs)[k].tick) ((p :: qs)[k + 1].tick - (p :: qs)[k].tick), (p :: qs)[k].y + pt ((p :: qs)[k + 1].y - (p :: qs)[k].y) (t - (p :: qs)[k].tick) ((p :: qs)[k + 1].tick - (p :: qs)[k].tick))
  | [], p, k, hk, _, _ => by simp at hk
  | q :: qs, p, 0, hk, h, h1 => by
    rw [camGo, if_pos (show t < q.tick from h1)]; rfl
  | q :: qs, p, k + 1, hk, h, h1 => by
    have h2 : q.tick ≤ t := h 1 (by simp) (by omega)
    rw [camGo, if_neg (by omega), camGo_mid t qs q k (by simpa using hk) (fun j hj hjk => h (j + 1) (by simpa using hj) (by omega)) h1]
    rfl
theorem Blk.put3 {w : World} {g : Nat} {t : TypeId} {a b c d e f : Value} (h : Blk w g t #[a, b, c]) : Blk (((w.setCell ⟨g, 0, none⟩ d).setCell ⟨g, 1, none⟩ e).setCell ⟨g, 2, none⟩ f) g t #[d, e, f] := ((h.set_ 0 d).set_ 1 e).set_ 2 f
theorem Blk.far3 {w : World} {g g' : Nat} {t : TypeId} {cs : Array Value} {d e f : Value} (h : Blk w g t cs) (hne : g ≠ g') : Blk (((w.setCell ⟨g', 0, none⟩ d).setCell ⟨g', 1, none⟩ e).setCell ⟨g', 2, none⟩ f) g t cs := ((h.far hne d).far hne e).far hne f
def CamPost (w : World) (x y e : Int) (r : Ending) (w' : World) : Prop := r = .returned (.tuple #[.agg #[.int .i32 x, .int .i32 y], .int .i64 e]) ∧ Ext w w'
set_option maxHeartbeats 8000000 in
set_option maxRecDepth 100000 in
theorem camera_in (t : Tv) (k : Nat) (hk : k < 4) (A : Option Addr) (n c : Nat) (hs : t.cells[k]? = some (.slice A n c)) (ps : List Pt) (tick : Int) (w : World) (hP : PtsV w A n c ps) (hO : Ord ps) (hn : n ≤ 1000000) (h0 : 0 < n) (ht1 : -9223372036854775808 ≤ tick) (ht2 : tick ≤ 9223372036854775807) :
    Calls Try.prog 20 #[.agg t.cells, .int .i64 (k : Int), .int .i64 tick] w (CamPost w (camAt tick ps).1 (camAt tick ps).2 0) := by
  have HE0 := Lib.hid (ext_alloc (ext_alloc (ext_alloc (Ext.rfl' w) (.cells t.cells 54)) (.cells #[.int .i64 tick] 3)) (.cells #[.int .i32 0, .int .i32 0] 61))
  have HH0 := Lib.hid (((Blk.new w 54 t.cells).alloc (.cells #[.int .i64 tick] 3)).alloc (.cells #[.int .i32 0, .int .i32 0] 61))
  have HT0 := Lib.hid ((Blk.new (w.alloc (.cells t.cells 54)) 3 #[.int .i64 tick]).alloc (.cells #[.int .i32 0, .int .i32 0] 61))
  have HZ0 := Lib.hid (Blk.new ((w.alloc (.cells t.cells 54)).alloc (.cells #[.int .i64 tick] 3)) 61 #[.int .i32 0, .int .i32 0])
  have z1 : (w.alloc (.cells t.cells 54)).heap.size = w.heap.size + 1 := World.size_alloc _ _
  have z2 : ((w.alloc (.cells t.cells 54)).alloc (.cells #[.int .i64 tick] 3)).heap.size = w.heap.size + 2 := by rw [World.size_alloc, z1]
  rw [z2] at HZ0
  rw [z1] at HT0
  clear z1 z2
  -- the points at hand
  obtain ⟨p, qs, rfl⟩ : ∃ p qs, ps = p :: qs := by
    cases ps with
    | nil => have := hP.1.1; simp at this; omega
    | cons p qs => exact ⟨p, qs, rfl⟩
  have hln : (p :: qs).length = n := hP.1.1
  obtain ⟨m, hmn⟩ : ∃ m, m = n - 1 := ⟨_, rfl⟩
  have hm : qs.length = m := by have : qs.length + 1 = n := by simpa using hln
                                omega
  obtain ⟨b, o, rfl, hbw, hcell⟩ := hP.1.2 h0
  have HCE : Hid (∀ (W : World), Ext w W → ∀ j (hj : j < (p :: qs).length), W.cell? ⟨b, o + j * 3, none⟩ = some (.int .i64 (p :: qs)[j].tick) ∧ W.cell? ⟨b, o + j * 3 + 1, none⟩ = some (.int .i32 (p :: qs)[j].x) ∧ W.cell? ⟨b, o + j * 3 + 2, none⟩ = some (.int .i32 (p :: qs)[j].y)) := Lib.hid (fun W e j hj =>
    ⟨(e.cell (p := ⟨b, o + j * 3, none⟩) hbw).trans (hcell j hj 0 (by omega)), (e.cell (p := ⟨b, o + j * 3 + 1, none⟩) hbw).trans (hcell j hj 1 (by omega)), (e.cell (p := ⟨b, o + j * 3 + 2, none⟩) hbw).trans (hcell j hj 2 (by omega))⟩)
  have HO := Lib.hid hO; have HPV := Lib.hid hP; have HLN := Lib.hid hln
  obtain ⟨q, hq⟩ : ∃ q, q = (p :: qs)[m]'(by omega) := ⟨_, rfl⟩
  have HQ := Lib.hid (show (p :: qs)[m]'(by omega) = q from hq.symm)
  have HIX := Lib.hid (fun (tb : Nat) (W : World) (e : Ext w W) (h : W.cell? ⟨tb, 0, none⟩ = some (.int .i64 tick)) (htb : tb < W.heap.size) => idxP_st (some ⟨b, o, none⟩) n c (p :: qs) tick tb W (hP.1.ext e) (by omega) h htb)
  -- what the answer is
  have HA1 : Hid (tick ≤ p.tick → camAt tick (p :: qs) = (p.x, p.y)) := Lib.hid (fun h => by rw [camAt, if_pos h])
  have HA2 : Hid (¬ tick ≤ p.tick → q.tick ≤ tick → camAt tick (p :: qs) = (q.x, q.y)) := Lib.hid (fun h h2 => by
    rw [camAt, if_neg h, camGo_last]
    · subst hm; rw [hq]
    · intro j hj
      by_cases hjm : j = m
      · subst hjm; rw [← hq]; exact h2
      · have := hO.lt j m (by omega) (by omega); rw [← hq] at this; omega)
  have HA3 : Hid (¬ tick ≤ p.tick → ¬ q.tick ≤ tick → ∀ r, Fst Pt.tick tick (p :: qs) r → ∃ j, ∃ h : j + 1 < (p :: qs).length, r = ((j + 1 : Nat) : Int) ∧ (p :: qs)[j].tick ≤ tick ∧ tick < (p :: qs)[j + 1].tick ∧ camAt tick (p :: qs) = ((p :: qs)[j].x + pt ((p :: qs)[j + 1].x - (p :: qs)[j].x) (tick - (p :: qs)[j].tick) ((p :: qs)[j + 1].tick - (p :: qs)[j].tick), (p :: qs)[j].y + pt ((p :: qs)[j + 1].y - (p :: qs)[j].y) (tick - (p :: qs)[j].tick) ((p :: qs)[j + 1].tick - (p :: qs)[j].tick))) := Lib.hid (fun h h2 r hr => by
    rcases hr with ⟨i, rfl, ⟨hi, hi2⟩, hi3⟩ | ⟨_, hr⟩
    · cases i with
      | zero => exact absurd (show tick < p.tick from hi2) (by omega)
      | succ j =>
        refine ⟨j, hi, rfl, hi3 j (by omega) (by omega), hi2, ?_⟩
        rw [camAt, if_neg h, camGo_mid tick qs p j hi (fun i hi4 hij => hi3 i hi4 (by omega)) hi2]
    · exact absurd (hr m (by omega)) (by rw [← hq]; exact h2))
  have HCA : Hid (∀ (a0 a1 : Int), camAt tick (p :: qs) = (a0, a1) → (camAt tick (p :: qs)).1 = a0 ∧ (camAt tick (p :: qs)).2 = a1) := Lib.hid (fun a0 a1 h => by rw [h]; exact ⟨rfl, rfl⟩)
  generalize (camAt tick (p :: qs)).1 = rx at *
  generalize (camAt tick (p :: qs)).2 = ry at *
  generalize camAt tick (p :: qs) = rr at *
  have hpt := hO.1
  have hqt := hO.at m (by omega)
  rw [← hq] at hqt
  have k0 := (HCE.out _ HE0.out 0 (by simp)).1; have k1 := (HCE.out _ HE0.out 0 (by simp)).2.1; have k2 := (HCE.out _ HE0.out 0 (by simp)).2.2
  have l0 := (HCE.out _ HE0.out m (by omega)).1; have l1 := (HCE.out _ HE0.out m (by omega)).2.1; have l2 := (HCE.out _ HE0.out m (by omega)).2.2
  rw [HQ.out] at l0 l1 l2
  simp only [List.getElem_cons_zero, Nat.zero_mul, Nat.add_zero] at k0 k1 k2
  clear hq hO hP hcell hbw
  have hh := (HH0.out.cell k).trans hs
  clear hs
  obtain ⟨pt0, px, py⟩ := p
  obtain ⟨qt0, qx, qy⟩ := q
  simp only at *
  subst hmn
  go_enter Try.func20, Try.ntmps20
  have y1 : (0 : Int) ≤ (k : Int) := by omega
  have y2 : (k : Int) < 4 := by omega
  go_upto_region 1 with fail
  obtain ⟨w0, hw0⟩ : ∃ q, q = ((w.alloc (.cells t.cells 54)).alloc (.cells #[.int .i64 tick] 3)).alloc (.cells #[.int .i32 0, .int .i32 0] 61) := ⟨_, rfl⟩
  rw [← hw0] at HE0 HH0 HT0 HZ0 hh k0 k1 k2 l0 l1 l2 ⊢
  clear hw0
  obtain ⟨hb, hhb⟩ : ∃ q, q = w.heap.size := ⟨_, rfl⟩
  rw [← hhb] at HH0 HT0 HZ0 hh ⊢
  replace hhb := Lib.hid hhb
  replace HZ0 : Hid (Blk w0 (hb + 1 + 1) 61 #[.int .i32 0, .int .i32 0]) := HZ0
  have t0 := HT0.out.cell 0
  simp only [List.getElem?_toArray, List.getElem?_cons_zero] at t0
  replace hm := Lib.hid hm
  replace hln := Lib.hid hln
  have y3 : (0 : Int) ≤ (n : Int) - 1 := by omega
  have y11 : (1 : Int) ≤ (n : Int) := by omega
  have y4 : (n : Int) - 1 < (n : Int) := by omega
  have y5 : ¬ (n : Int) = 0 := by omega
  have y6 : (0 : Int) < (n : Int) := by omega
  have y8 : ((n : Int) - 1).toNat = n - 1 := by omega
  have y7 : IntKind.i64.wrap ((n : Int) - 1) = (n : Int) - 1 := IntWalk.i64_in _ (by omega)
  go_upto_region 6 with fail
  go_cut [9, 10] (fun s9 s10 wx => ∃ g1 g2 : Nat, s9 = .pointer (some ⟨g1, 0, none⟩) ∧ s10 = .pointer (some ⟨g2, 0, none⟩) ∧ Blk wx g1 115 #[.int .i64 pt0, .int .i32 px, .int .i32 py] ∧ Blk wx g2 115 #[.int .i64 qt0, .int .i32 qx, .int .i32 qy] ∧ Ext w0 wx)
  case first =>
    have MKS := Lib.hid (fun (w' : World) (e : Ext w0 w') => (⟨kc e k0, kc e k1, kc e k2, kc e l0, kc e l1, kc e l2, Lib.hid e⟩ : w'.cell? ⟨b, o, none⟩ = some (.int .i64 pt0) ∧ w'.cell? ⟨b, o + 1, none⟩ = some (.int .i32 px) ∧ w'.cell? ⟨b, o + 2, none⟩ = some (.int .i32 py) ∧ w'.cell? ⟨b, o + (n - 1) * 3, none⟩ = some (.int .i64 qt0) ∧ w'.cell? ⟨b, o + (n - 1) * 3 + 1, none⟩ = some (.int .i32 qx) ∧ w'.cell? ⟨b, o + (n - 1) * 3 + 2, none⟩ = some (.int .i32 qy) ∧ Hid (Ext w0 w')))
    have zT := Lib.hid (Ext.rfl' w0)
    have hz : w0.heap.size ≤ w0.heap.size := Nat.le_refl _
    go_region_held3 (fun w' => w'.cell? ⟨b, o, none⟩ = some (.int .i64 pt0) ∧ w'.cell? ⟨b, o + 1, none⟩ = some (.int .i32 px) ∧ w'.cell? ⟨b, o + 2, none⟩ = some (.int .i32 py) ∧ w'.cell? ⟨b, o + (n - 1) * 3, none⟩ = some (.int .i64 qt0) ∧ w'.cell? ⟨b, o + (n - 1) * 3 + 1, none⟩ = some (.int .i32 qx) ∧ w'.cell? ⟨b, o + (n - 1) * 3 + 2, none⟩ = some (.int .i32 qy) ∧ Hid (Ext w0 w'))
      ((refine MKS.out _ ?_; repeat (first | exact zT.out | refine ext_alloc ?_ _ | refine ext_drew ?_ | refine ext_set ?_ (by first | omega | (simp; done) | (simp; omega)) _)))
      (fail)
    all_goals
      go_wp2_with fail
      go_meet
      go_split_ands
      refine ⟨_, _, rfl, rfl, ?_, ?_, ext_drew (ext_alloc (ext_alloc (Ext.rfl' _) _) _)⟩
      all_goals first | exact Blk.drew ((Blk.new _ _ _).alloc _) | exact Blk.drew (Blk.new1 _ _ _ _)
  case rest =>
    obtain ⟨g1, g2, rfl, rfl, k4, k5, ex⟩ := hcut
    have HE1 := Lib.hid (ext_trans HE0.out ex)
    have HZ1 := Lib.hid (HZ0.out.ext ex)
    have HT1 := Lib.hid (HT0.out.ext ex)
    have K4 := Lib.hid k4; have K5 := Lib.hid k5
    clear ex k0 k1 k2 l0 l1 l2 t0 hh k4 k5 HH0 HT0 HZ0 HE0
    have t0 := HT1.out.cell 0
    have a0 := K4.out.cell 0; have a1 := K4.out.cell 1; have a2 := K4.out.cell 2
    have b0 := K5.out.cell 0; have b1 := K5.out.cell 1; have b2 := K5.out.cell 2
    have f0 := HZ1.out.frozen 0; have f1 := HZ1.out.frozen 1; have c0 := HZ1.out.cell 0; have c1 := HZ1.out.cell 1
    simp only [List.getElem?_toArray, List.getElem?_cons_zero, List.getElem?_cons_succ] at t0 a0 a1 a2 b0 b1 b2 c0 c1
    have HRR : Hid (∀ (a0 a1 : Int) (W : World), rr = (a0, a1) → Ext w W → CamPost w rx ry 0 (.returned (.tuple #[.agg #[.int .i32 a0, .int .i32 a1], .int .i64 0])) W) := Lib.hid (fun a0 a1 W h hE => by
      obtain ⟨rfl, rfl⟩ := HCA.out a0 a1 h
      exact ⟨rfl, hE⟩)
    have hwb : w.heap.size ≤ hb + 1 + 1 := by have := hhb.out; omega
    replace hwb := Lib.hid hwb
    by_cases c1 : tick ≤ pt0
    · have HA := Lib.hid (HA1.out c1)
      go_wp2_with fail
      have hbk := (HZ1.out.set_ 0 (.int .i32 px)).set_ 1 (.int .i32 py)
      refine bodyPost_ret (v := .tuple #[.agg #[.int .i32 px, .int .i32 py], .int .i64 0]) (results_cell2 Try.results20 _ _ (hb + 1 + 1) 61 _ (0, 0) _ rfl hbk _ rfl Try.underlying61 rfl (by kernel_rfl)) rfl ?_
      exact HRR.out _ _ _ HA.out (ext_set (ext_set HE1.out hwb.out _) hwb.out _)
    · by_cases c2 : qt0 ≤ tick
      · have HA := Lib.hid (HA2.out c1 c2)
        go_wp2_with fail
        have hbk := (HZ1.out.set_ 0 (.int .i32 qx)).set_ 1 (.int .i32 qy)
        refine bodyPost_ret (v := .tuple #[.agg #[.int .i32 qx, .int .i32 qy], .int .i64 0]) (results_cell2 Try.results20 _ _ (hb + 1 + 1) 61 _ (0, 0) _ rfl hbk _ rfl Try.underlying61 rfl (by kernel_rfl)) rfl ?_
        exact HRR.out _ _ _ HA.out (ext_set (ext_set HE1.out hwb.out _) hwb.out _)
      · have HA := Lib.hid (HA3.out c1 c2)
        have HCL := Lib.hid (HIX.out (hb + 1) _ HE1.out t0 HT1.out.lt)
        clear HA1 HA2 HA3 HIX
        go_wp2_with fail
        refine (HCL.out).mono ?_
        rintro e wd ⟨r, rfl, hr, hE2⟩
        obtain ⟨j, hj, rfl, hj1, hj2, hj3⟩ := HA.out r hr
        have HE2 := Lib.hid (ext_trans HE1.out hE2)
        have HZ2 := Lib.hid (HZ1.out.ext hE2)
        have HT2 := Lib.hid (HT1.out.ext hE2)
        clear hE2 HE1 HZ1 HT1 HCL HA t0 a0 a1 a2 b0 b1 b2 c0 c1 f0 f1 K4 K5
        have x0 := (HCE.out _ HE2.out j (by omega)).1; have x1 := (HCE.out _ HE2.out j (by omega)).2.1; have x2 := (HCE.out _ HE2.out j (by omega)).2.2
        have z0 := (HCE.out _ HE2.out (j + 1) hj).1; have z1 := (HCE.out _ HE2.out (j + 1) hj).2.1; have z2 := (HCE.out _ HE2.out (j + 1) hj).2.2
        have hUA := HO.out.at j (by omega)
        have hVA := HO.out.at (j + 1) hj
        generalize ((⟨pt0, px, py⟩ : Pt) :: qs)[j] = u at *
        generalize ((⟨pt0, px, py⟩ : Pt) :: qs)[j + 1] = v at *
        have hji : j + 1 < n := by have := hln.out; omega
        clear hj
        obtain ⟨u0, u1, u2⟩ := u
        obtain ⟨v0, v1, v2⟩ := v
        simp only at *
        obtain ⟨i, hi⟩ : ∃ i, i = j + 1 := ⟨_, rfl⟩
        have hi0 : 0 < i := by omega
        obtain rfl : j = i - 1 := by omega
        have hi1 : i - 1 + 1 = i := by omega
        rw [hi1] at z0 z1 z2 hji ⊢
        clear hi hi1
        have HJ3 := Lib.hid hj3
        clear hj3 hr
        have t0 := HT2.out.cell 0
        simp only [List.getElem?_toArray, List.getElem?_cons_zero, List.getElem?_cons_succ] at t0
        have y3 : (0 : Int) ≤ (i : Int) - 1 := by omega
        have y11 : (1 : Int) ≤ (i : Int) := by omega
        have y4 : (i : Int) - 1 < (n : Int) := by omega
        have y9 : (i : Int) < (n : Int) := by omega
        have y10 : (0 : Int) ≤ (i : Int) := by omega
        have y8 : ((i : Int) - 1).toNat = i - 1 := by omega
        have y7 : IntKind.i64.wrap ((i : Int) - 1) = (i : Int) - 1 := IntWalk.i64_in _ (by omega)
        go_upto_region 12 with fail
        go_cut [12, 13] (fun s12 s13 wx => ∃ g1 g2 : Nat, s12 = .pointer (some ⟨g1, 0, none⟩) ∧ s13 = .pointer (some ⟨g2, 0, none⟩) ∧ Blk wx g1 115 #[.int .i64 u0, .int .i32 u1, .int .i32 u2] ∧ Blk wx g2 115 #[.int .i64 v0, .int .i32 v1, .int .i32 v2] ∧ Ext wd wx)
        case first =>
          have MKS := Lib.hid (fun (w' : World) (e : Ext wd w') => (⟨kc e x0, kc e x1, kc e x2, kc e z0, kc e z1, kc e z2, Lib.hid e⟩ : w'.cell? ⟨b, o + (i - 1) * 3, none⟩ = some (.int .i64 u0) ∧ w'.cell? ⟨b, o + (i - 1) * 3 + 1, none⟩ = some (.int .i32 u1) ∧ w'.cell? ⟨b, o + (i - 1) * 3 + 2, none⟩ = some (.int .i32 u2) ∧ w'.cell? ⟨b, o + i * 3, none⟩ = some (.int .i64 v0) ∧ w'.cell? ⟨b, o + i * 3 + 1, none⟩ = some (.int .i32 v1) ∧ w'.cell? ⟨b, o + i * 3 + 2, none⟩ = some (.int .i32 v2) ∧ Hid (Ext wd w')))
          have zT := Lib.hid (Ext.rfl' wd)
          have hz : wd.heap.size ≤ wd.heap.size := Nat.le_refl _
          go_region_held3 (fun w' => w'.cell? ⟨b, o + (i - 1) * 3, none⟩ = some (.int .i64 u0) ∧ w'.cell? ⟨b, o + (i - 1) * 3 + 1, none⟩ = some (.int .i32 u1) ∧ w'.cell? ⟨b, o + (i - 1) * 3 + 2, none⟩ = some (.int .i32 u2) ∧ w'.cell? ⟨b, o + i * 3, none⟩ = some (.int .i64 v0) ∧ w'.cell? ⟨b, o + i * 3 + 1, none⟩ = some (.int .i32 v1) ∧ w'.cell? ⟨b, o + i * 3 + 2, none⟩ = some (.int .i32 v2) ∧ Hid (Ext wd w'))
            ((refine MKS.out _ ?_; repeat (first | exact zT.out | refine ext_alloc ?_ _ | refine ext_drew ?_ | refine ext_set ?_ (by first | omega | (simp; done) | (simp; omega)) _)))
            (fail)
          all_goals
            go_wp2_with fail
            go_meet
            go_split_ands
            refine ⟨_, _, rfl, rfl, ?_, ?_, ext_drew (ext_alloc (ext_alloc (Ext.rfl' _) _) _)⟩
            all_goals first | exact Blk.drew ((Blk.new _ _ _).alloc _) | exact Blk.drew (Blk.new1 _ _ _ _)
        case rest =>
          obtain ⟨g3, g4, rfl, rfl, k4, k5, ex⟩ := hcut
          have HE3 := Lib.hid (ext_trans HE2.out ex)
          have HZ3 := Lib.hid (HZ2.out.ext ex)
          have HT3 := Lib.hid (HT2.out.ext ex)
          have K4 := Lib.hid k4; have K5 := Lib.hid k5
          clear ex x0 x1 x2 z0 z1 z2 t0 k4 k5 HZ2 HT2 HE2
          have t0 := HT3.out.cell 0
          have a0 := K4.out.cell 0; have a1 := K4.out.cell 1; have a2 := K4.out.cell 2
          have b0 := K5.out.cell 0; have b1 := K5.out.cell 1; have b2 := K5.out.cell 2
          simp only [List.getElem?_toArray, List.getElem?_cons_zero, List.getElem?_cons_succ] at t0 a0 a1 a2 b0 b1 b2
          have HBW := Lib.hid (fun (W : World) => between_yes u1 u2 v1 v2 (tick - u0) (v0 - u0) ⟨by omega, by omega, by omega, by omega⟩ ⟨by omega, by omega, by omega, by omega⟩ (by omega) (by omega) (by omega) (by omega) W)
          go_wp2_with fail
          refine (HBW.out wc).mono ?_
          rintro e we ⟨rfl, hE4⟩
          have HE4 := Lib.hid (ext_trans HE3.out hE4)
          have HZ4 := Lib.hid (HZ3.out.ext hE4)
          clear hE4 t0 a0 a1 a2 b0 b1 b2 HBW HE3 HZ3
          have f0 := HZ4.out.frozen 0; have f1 := HZ4.out.frozen 1; have c0 := HZ4.out.cell 0; have c1 := HZ4.out.cell 1
          simp only [List.getElem?_toArray, List.getElem?_cons_zero, List.getElem?_cons_succ] at c0 c1
          generalize u1 + pt (v1 - u1) (tick - u0) (v0 - u0) = ax at *
          generalize u2 + pt (v2 - u2) (tick - u0) (v0 - u0) = ay at *
          simp only [P]
          go_wp2_with fail
          have hbk := (HZ4.out.set_ 0 (.int .i32 ax)).set_ 1 (.int .i32 ay)
          refine bodyPost_ret (v := .tuple #[.agg #[.int .i32 ax, .int .i32 ay], .int .i64 0]) (results_cell2 Try.results20 _ _ (hb + 1 + 1) 61 _ (0, 0) _ rfl hbk _ rfl Try.underlying61 rfl (by kernel_rfl)) rfl ?_
          exact HRR.out _ _ _ HJ3.out (ext_set (ext_set HE4.out hwb.out _) hwb.out _)
end Go.Proofs.Ytlldmpcamdginaa.Trk
namespace Go.Proofs.Ytlldmpcamdginaa.Trk
open Go.ChangeShapes Go.WideShapes Go.ChangeAt Go.RowKit
open Go.Proofs.Ytlldmpcamdginaa.Rec
open Go.Proofs.Ytlldmpcamdginaa.Log (results_cell2)
set_option linter.unusedVariables false
theorem camera_arg (t : Tv) (k : Int) (hk : k < 0 ∨ 4 ≤ k) (tick : Int) (w : World) :
    Calls Try.prog 20 #[.agg t.cells, .int .i64 k, .int .i64 tick] w (CamPost w 0 0 2) := by
  have HE0 := Lib.hid (ext_alloc (ext_alloc (ext_alloc (Ext.rfl' w) (.cells t.cells 54)) (.cells #[.int .i64 tick] 3)) (.cells #[.int .i32 0, .int .i32 0] 61))
  have HZ0 := Lib.hid (Blk.new ((w.alloc (.cells t.cells 54)).alloc (.cells #[.int .i64 tick] 3)) 61 #[.int .i32 0, .int .i32 0])
  have z2 : ((w.alloc (.cells t.cells 54)).alloc (.cells #[.int .i64 tick] 3)).heap.size = w.heap.size + 1 + 1 := by rw [World.size_alloc, World.size_alloc]
  rw [z2] at HZ0
  clear z2
  have hwb : w.heap.size ≤ w.heap.size + 1 + 1 := by omega
  replace hwb := Lib.hid hwb
  rcases hk with hk | hk
  · go_enter Try.func20, Try.ntmps20
    go_wp2_with fail
    have hbk := HZ0.out
    refine bodyPost_ret (v := .tuple #[.agg #[.int .i32 0, .int .i32 0], .int .i64 2]) (results_cell2 Try.results20 _ _ (w.heap.size + 1 + 1) 61 _ (0, 0) _ rfl hbk _ rfl Try.underlying61 rfl (by kernel_rfl)) rfl ?_
    exact ⟨rfl, HE0.out⟩
  · have hk2 : ¬ k < 0 := by omega
    go_enter Try.func20, Try.ntmps20
    go_wp2_with fail
    have hbk := HZ0.out
    refine bodyPost_ret (v := .tuple #[.agg #[.int .i32 0, .int .i32 0], .int .i64 2]) (results_cell2 Try.results20 _ _ (w.heap.size + 1 + 1) 61 _ (0, 0) _ rfl hbk _ rfl Try.underlying61 rfl (by kernel_rfl)) rfl ?_
    exact ⟨rfl, HE0.out⟩
theorem camera_none (t : Tv) (k : Nat) (hk : k < 4) (A : Option Addr) (c : Nat) (hs : t.cells[k]? = some (.slice A 0 c)) (tick : Int) (w : World) :
    Calls Try.prog 20 #[.agg t.cells, .int .i64 (k : Int), .int .i64 tick] w (CamPost w 0 0 9) := by
  have HE0 := Lib.hid (ext_alloc (ext_alloc (ext_alloc (Ext.rfl' w) (.cells t.cells 54)) (.cells #[.int .i64 tick] 3)) (.cells #[.int .i32 0, .int .i32 0] 61))
  have HH0 := Lib.hid (((Blk.new w 54 t.cells).alloc (.cells #[.int .i64 tick] 3)).alloc (.cells #[.int .i32 0, .int .i32 0] 61))
  have HZ0 := Lib.hid (Blk.new ((w.alloc (.cells t.cells 54)).alloc (.cells #[.int .i64 tick] 3)) 61 #[.int .i32 0, .int .i32 0])
  have z2 : ((w.alloc (.cells t.cells 54)).alloc (.cells #[.int .i64 tick] 3)).heap.size = w.heap.size + 1 + 1 := by rw [World.size_alloc, World.size_alloc]
  rw [z2] at HZ0
  clear z2
  have hwb : w.heap.size ≤ w.heap.size + 1 + 1 := by omega
  replace hwb := Lib.hid hwb
  have hh := (HH0.out.cell k).trans hs
  clear hs
  have y1 : (0 : Int) ≤ (k : Int) := by omega
  have y2 : (k : Int) < 4 := by omega
  go_enter Try.func20, Try.ntmps20
  go_upto_region 1 with fail
  obtain ⟨w0, hw0⟩ : ∃ q, q = ((w.alloc (.cells t.cells 54)).alloc (.cells #[.int .i64 tick] 3)).alloc (.cells #[.int .i32 0, .int .i32 0] 61) := ⟨_, rfl⟩
  rw [← hw0] at HE0 HZ0 hh ⊢
  clear hw0 HH0
  have f0 := HZ0.out.frozen 0; have f1 := HZ0.out.frozen 1; have c0 := HZ0.out.cell 0; have c1 := HZ0.out.cell 1
  simp only [List.getElem?_toArray, List.getElem?_cons_zero, List.getElem?_cons_succ] at c0 c1
  go_wp2_with fail
  have hbk := (HZ0.out.set_ 0 (.int .i32 0)).set_ 1 (.int .i32 0)
  refine bodyPost_ret (v := .tuple #[.agg #[.int .i32 0, .int .i32 0], .int .i64 9]) (results_cell2 Try.results20 _ _ (w.heap.size + 1 + 1) 61 _ (0, 0) _ rfl hbk _ rfl Try.underlying61 rfl (by kernel_rfl)) rfl ?_
  exact ⟨rfl, ext_set (ext_set HE0.out hwb.out _) hwb.out _⟩
end Go.Proofs.Ytlldmpcamdginaa.Trk
namespace Go.Proofs.Ytlldmpcamdginaa.Trk
open Go.ChangeShapes Go.WideShapes Go.ChangeAt Go.RowKit
open Go.Proofs.Ytlldmpcamdginaa.Rec
open Go.Proofs.Ytlldmpcamdginaa.Fix (pt part_pos part_neg)
set_option linter.unusedVariables false
def Btw (v a b : Int) : Prop := (a ≤ b → a ≤ v ∧ v ≤ b) ∧ (b ≤ a → b ≤ v ∧ v ≤ a)
theorem near_st (v a b : Int) (h : Btw v a b) (w : World) :
    Calls Try.prog 61 #[.int .i64 v, .int .i64 a, .int .i64 b] w fun e w' => e = .returned (.bool true) ∧ w = w' := by
  obtain ⟨h1, h2⟩ := h
  by_cases hab : a ≤ b
  · obtain ⟨q1, q2⟩ := h1 hab
    clear h1 h2
    by_cases hba : b ≤ a
    · obtain rfl : a = b := by omega
      obtain rfl : a = v := by omega
      go_enter Try.func61, Try.ntmps61
      go_wp2_with fail
      go_ret
      exact ⟨rfl, rfl⟩
    · have q3 : a < b := by omega
      go_enter Try.func61, Try.ntmps61
      go_wp2_with fail
      go_ret
      exact ⟨rfl, rfl⟩
  · obtain ⟨q1, q2⟩ := h2 (by omega)
    have q3 : b < a := by omega
    clear h1 h2
    go_enter Try.func61, Try.ntmps61
    go_wp2_with fail
    go_ret
    exact ⟨rfl, rfl⟩
/-- Between two points at a tick. -/
theorem pt_zero (d b : Int) : pt d 0 b = 0 := by simp [pt]
theorem pt_all (d b : Int) (hb : 1 ≤ b) : pt d b b = d := by
  unfold pt
  exact Int.mul_tdiv_cancel d (by omega)
theorem pt_btw (x y a b : Int) (ha : 0 ≤ a) (hab : a ≤ b) (hb : 1 ≤ b) : Btw (x + pt (y - x) a b) x y := by
  unfold Btw pt
  refine ⟨fun h => ?_, fun h => ?_⟩
  · obtain ⟨h1, h2, _⟩ := part_pos (d := y - x) (by omega) ha hab hb
    omega
  · obtain ⟨h1, h2, _⟩ := part_neg (d := y - x) (by omega) ha hab hb
    omega
theorem pt_step (x y a b : Int) (ha : 0 ≤ a) (hab : a + 1 ≤ b) (hb : 1 ≤ b) : Btw (x + pt (y - x) (a + 1) b) (x + pt (y - x) a b) y := by
  unfold Btw pt
  by_cases hd : 0 ≤ y - x
  · obtain ⟨h1, h2, h3⟩ := part_pos (d := y - x) hd ha (by omega) hb
    obtain ⟨k1, k2, k3⟩ := part_pos (d := y - x) (a := a + 1) hd (by omega) hab hb
    have : (y - x) * a / b ≤ (y - x) * (a + 1) / b := Int.ediv_le_ediv (by omega) (Int.mul_le_mul_of_nonneg_left (by omega) hd)
    refine ⟨fun h => ?_, fun h => ?_⟩ <;> omega
  · obtain ⟨h1, h2, h3⟩ := part_neg (d := y - x) (by omega) ha (by omega) hb
    obtain ⟨k1, k2, k3⟩ := part_neg (d := y - x) (a := a + 1) (by omega) (by omega) hab hb
    have : -(y - x) * a / b ≤ -(y - x) * (a + 1) / b := Int.ediv_le_ediv (by omega) (Int.mul_le_mul_of_nonneg_left (by omega) (by omega))
    refine ⟨fun h => ?_, fun h => ?_⟩ <;> omega
/-- A camera is at its points. -/
theorem camAt_at {ps : List Pt} (hO : Ord ps) (i : Nat) (hi : i < ps.length) : camAt ps[i].tick ps = (ps[i].x, ps[i].y) := by
  cases ps with
  | nil => simp at hi
  | cons p qs =>
    cases i with
    | zero => show camAt p.tick (p :: qs) = _; rw [camAt, if_pos (Int.le_refl _)]; rfl
    | succ i =>
      have h0 := hO.lt 0 (i + 1) (by omega) hi
      rw [camAt, if_neg (show ¬ (p :: qs)[i + 1].tick ≤ p.tick by simp only [List.getElem_cons_zero] at h0; omega)]
      by_cases hl : i + 1 + 1 < (p :: qs).length
      · rw [camGo_mid _ qs p (i + 1) hl (fun j hj hji => by
          by_cases h : j = i + 1
          · subst h; exact Int.le_refl _
          · exact Int.le_of_lt (hO.lt j (i + 1) (by omega) hi)) (hO.lt (i + 1) (i + 1 + 1) (by omega) hl)]
        simp only [Int.sub_self, pt_zero, Int.add_zero]
      · have hq : qs.length = i + 1 := by simp at hi hl; omega
        rw [camGo_last _ qs p (fun j hj => by
          by_cases h : j = i + 1
          · subst h; exact Int.le_refl _
          · exact Int.le_of_lt (hO.lt j (i + 1) (by simp at hj; omega) hi))]
        simp only [hq]
/-- And between two of them on the way. -/
theorem camAt_way {ps : List Pt} (hO : Ord ps) (i : Nat) (hi : i + 1 < ps.length) (t : Int) (h1 : ps[i].tick ≤ t) (h2 : t ≤ ps[i + 1].tick) :
    camAt t ps = (ps[i].x + pt (ps[i + 1].x - ps[i].x) (t - ps[i].tick) (ps[i + 1].tick - ps[i].tick), ps[i].y + pt (ps[i + 1].y - ps[i].y) (t - ps[i].tick) (ps[i + 1].tick - ps[i].tick)) := by
  have hlt := hO.lt i (i + 1) (by omega) hi
  by_cases he : t = ps[i + 1].tick
  · subst he
    rw [camAt_at hO (i + 1) hi, pt_all _ _ (by omega), pt_all _ _ (by omega)]
    simp only [Prod.mk.injEq]
    omega
  · by_cases he0 : t = ps[i].tick
    · rw [he0, camAt_at hO i (by omega)]
      simp only [Int.sub_self, pt_zero, Int.add_zero]
    · cases ps with
      | nil => simp at hi
      | cons p qs =>
        have h0 : p.tick ≤ (p :: qs)[i].tick := by
          cases i with
          | zero => exact Int.le_refl _
          | succ i => exact Int.le_of_lt (hO.lt 0 (i + 1) (by omega) (by omega))
        rw [camAt, if_neg (by omega)]
        exact camGo_mid t qs p i hi (fun j hj hji => by
          by_cases h : j = i
          · subst h; exact h1
          · have := hO.lt j i (by omega) (by omega); omega) (by omega)
/-- From a tick to the next a camera goes on. -/
theorem camAt_step {ps : List Pt} (hO : Ord ps) (i : Nat) (hi : i + 1 < ps.length) (t : Int) (h1 : ps[i].tick ≤ t) (h2 : t + 1 ≤ ps[i + 1].tick) :
    Btw (camAt (t + 1) ps).1 (camAt t ps).1 ps[i + 1].x ∧ Btw (camAt (t + 1) ps).2 (camAt t ps).2 ps[i + 1].y := by
  have hlt := hO.lt i (i + 1) (by omega) hi
  rw [camAt_way hO i hi t h1 (by omega), camAt_way hO i hi (t + 1) (by omega) h2, show t + 1 - ps[i].tick = (t - ps[i].tick) + 1 by omega]
  exact ⟨pt_step _ _ _ _ (by omega) (by omega) (by omega), pt_step _ _ _ _ (by omega) (by omega) (by omega)⟩
/-- Where a camera is lies on the map. -/
def InMap (v : Int × Int) : Prop := (0 ≤ v.1 ∧ v.1 ≤ 16384) ∧ 0 ≤ v.2 ∧ v.2 ≤ 16384
theorem btw_in {v a b : Int} (h : Btw v a b) (ha : 0 ≤ a ∧ a ≤ 16384) (hb : 0 ≤ b ∧ b ≤ 16384) : 0 ≤ v ∧ v ≤ 16384 := by
  obtain ⟨h1, h2⟩ := h
  by_cases hab : a ≤ b
  · have := h1 hab; omega
  · have := h2 (by omega); omega
theorem camGo_in (t : Int) : ∀ (qs : List Pt) (p : Pt), Ord (p :: qs) → p.tick ≤ t → InMap (camGo p t qs)
  | [], p, h, _ => by obtain ⟨_, _, h3, h4, h5, h6⟩ := h.1; exact ⟨⟨h3, h4⟩, h5, h6⟩
  | q :: qs, p, h, ht => by
    rw [camGo]
    obtain ⟨_, _, h3, h4, h5, h6⟩ := h.1
    obtain ⟨_, _, k3, k4, k5, k6⟩ := h.2.2.1
    have hlt := h.2.1 q (by simp)
    split
    · exact ⟨btw_in (pt_btw p.x q.x _ _ (by omega) (by omega) (by omega)) ⟨h3, h4⟩ ⟨k3, k4⟩, btw_in (pt_btw p.y q.y _ _ (by omega) (by omega) (by omega)) ⟨h5, h6⟩ ⟨k5, k6⟩⟩
    · exact camGo_in t qs q h.2.2 (by omega)
theorem camAt_in {ps : List Pt} (hO : Ord ps) (t : Int) : InMap (camAt t ps) := by
  cases ps with
  | nil => show InMap (0, 0); exact ⟨⟨by omega, by omega⟩, by omega, by omega⟩
  | cons p qs =>
    rw [camAt]
    split
    · obtain ⟨_, _, h3, h4, h5, h6⟩ := hO.1; exact ⟨⟨h3, h4⟩, h5, h6⟩
    · exact camGo_in t qs p hO (by omega)
end Go.Proofs.Ytlldmpcamdginaa.Trk
