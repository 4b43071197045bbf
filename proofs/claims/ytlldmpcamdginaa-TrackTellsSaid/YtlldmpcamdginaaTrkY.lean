/- Tracks: Add of a bookmark, in general; Drop. -/
import Derived.Test.YtlldmpcamdginaaT4
import Derived.Test.YtlldmpcamdginaaTrkT
import Derived.Test.YtlldmpcamdginaaTrkX
namespace Go.Proofs.Ytlldmpcamdginaa.Trk
open Go.ChangeShapes Go.WideShapes Go.ChangeAt Go.RowKit
open Go.Proofs.Ytlldmpcamdginaa.Rec
open Go.Proofs.Ytlldmpcamdginaa.Log (results_cell2 OwnR_keep)
set_option linter.unusedVariables false
/-- A bookmark behind all of its tick. -/
def insM (m : Mk) : List Mk → List Mk
  | [] => [m]
  | q :: qs => if m.tick < q.tick then m :: q :: qs else q :: insM m qs
theorem mem_insM {m q : Mk} : ∀ {qs : List Mk}, q ∈ insM m qs → q = m ∨ q ∈ qs
  | [], h => by rw [insM, List.mem_singleton] at h; exact .inl h
  | p :: qs, h => by
    rw [insM] at h
    split at h
    · rcases List.mem_cons.1 h with h | h
      · exact .inl h
      · exact .inr h
    · rcases List.mem_cons.1 h with h | h
      · exact .inr (by rw [h]; exact List.mem_cons_self ..)
      · rcases mem_insM h with h | h
        · exact .inl h
        · exact .inr (List.mem_cons_of_mem _ h)
theorem insM_end {m : Mk} : ∀ {qs : List Mk}, (∀ j (hj : j < qs.length), qs[j].tick ≤ m.tick) → insM m qs = qs ++ [m]
  | [], _ => rfl
  | p :: qs, h => by
    have h0 := h 0 (by simp)
    simp only [List.getElem_cons_zero] at h0
    rw [insM, if_neg (by omega), insM_end (fun j hj => by have := h (j + 1) (by simp; omega); simpa using this)]
    rfl
theorem insM_at {m : Mk} : ∀ {qs : List Mk} {k : Nat} (hk : k < qs.length), m.tick < qs[k].tick → (∀ j (hj : j < qs.length), j < k → qs[j].tick ≤ m.tick) → insM m qs = qs.take k ++ m :: qs.drop k
  | [], k, hk, _, _ => absurd hk (by simp)
  | p :: qs, 0, _, h, _ => by
    simp only [List.getElem_cons_zero] at h
    rw [insM, if_pos h]; rfl
  | p :: qs, k + 1, hk, h, h3 => by
    have h0 := h3 0 (by simp) (by omega)
    simp only [List.getElem_cons_zero] at h0
    rw [insM, if_neg (by omega), insM_at (k := k) (by simpa using hk) (by simpa using h) (fun j hj hjk => by have := h3 (j + 1) (by simp; omega) (by omega); simpa using this)]
    simp
def addT (n : Int) (x : Tk) (m : Mk) : Tk × Int := if okM n m then (if x.marks.length = 32 then (x, 7) else (⟨x.c0, x.c1, x.c2, x.c3, insM m x.marks⟩, 0)) else (x, 2)
def GPost (w : World) (y : Tk × Int) (e : Ending) (w' : World) : Prop := Ext w w' ∧ ∃ t : Tv, e = .returned (.tuple #[.agg t.cells, .int .i64 y.2]) ∧ TkV w' t y.1
set_option maxHeartbeats 16000000 in
set_option maxRecDepth 100000 in
theorem add_tr (t : Tv) (x : Tk) (m : Mk) (n : Int) (w : World) (hB : TkV w t x) (hl : (∀ c ∈ x.cams, c.length ≤ 1000000) ∧ x.marks.length ≤ 1000000) (hn1 : -9223372036854775808 ≤ n) (hn2 : n ≤ 9223372036854775807) (hy : mayT n x = true) (hms : m.name.size ≤ 9223372036854775807) :
    Calls Try.prog 22 #[.agg t.cells, .agg #[.int .i64 m.tick, .string m.name], .int .i64 n] w (GPost w (addT n x m)) := by
  have HE0 := Lib.hid (ext_alloc (ext_alloc (ext_alloc (Ext.rfl' w) (.cells t.cells 54)) (.cells #[.int .i64 m.tick, .string m.name] 68)) (.cells zeroT 54))
  have HH0 := Lib.hid (((Blk.new w 54 t.cells).alloc (.cells #[.int .i64 m.tick, .string m.name] 68)).alloc (.cells zeroT 54))
  have HM0 := Lib.hid ((Blk.new (w.alloc (.cells t.cells 54)) 68 #[.int .i64 m.tick, .string m.name]).alloc (.cells zeroT 54))
  have HZ0 := Lib.hid (Blk.new ((w.alloc (.cells t.cells 54)).alloc (.cells #[.int .i64 m.tick, .string m.name] 68)) 54 zeroT)
  have z1 : (w.alloc (.cells t.cells 54)).heap.size = w.heap.size + 1 := World.size_alloc _ _
  have z2 : ((w.alloc (.cells t.cells 54)).alloc (.cells #[.int .i64 m.tick, .string m.name] 68)).heap.size = w.heap.size + 1 + 1 := by rw [World.size_alloc, z1]
  rw [z2] at HZ0
  rw [z1] at HM0
  clear z1 z2
  have HCP := Lib.hid (fun (W : World) (e : Ext w W) => copied_st t x W (hB.ext e) hl)
  have HMY := Lib.hid (fun (t' : Tv) (W : World) (h : TkV W t' x) => may_st t' x n W h hn1 hn2)
  have HL32 := Lib.hid (mayT_parts hy).2.1
  rw [hy] at HMY
  have HMM := Lib.hid (fun (W : World) => markMay_st m n W hms)
  obtain ⟨ok, hok⟩ : ∃ b, b = decide (okM n m) := ⟨_, rfl⟩
  rw [← hok] at HMM
  have HOK := Lib.hid hok; have HMS := Lib.hid hms
  clear hB hl hy hok hms
  obtain ⟨⟨A0, n0, c0⟩, ⟨A1, n1, c1⟩, ⟨A2, n2, c2⟩, ⟨A3, n3, c3⟩, ⟨Am, nm, cm⟩⟩ := t
  obtain ⟨mt, mn⟩ := m
  simp only [Tv.cells, zeroT] at *
  go_enter Try.func22, Try.ntmps22
  go_upto_region 1 with fail
  obtain ⟨w0, hw0⟩ : ∃ q, q = ((w.alloc (.cells #[.slice A0 n0 c0, .slice A1 n1 c1, .slice A2 n2 c2, .slice A3 n3 c3, .slice Am nm cm] 54)).alloc (.cells #[.int .i64 mt, .string mn] 68)).alloc (.cells #[.slice none 0 0, .slice none 0 0, .slice none 0 0, .slice none 0 0, .slice none 0 0] 54) := ⟨_, rfl⟩
  rw [← hw0] at HE0 HH0 HM0 HZ0 ⊢
  clear hw0
  obtain ⟨hb, hhb⟩ : ∃ q, q = w.heap.size := ⟨_, rfl⟩
  rw [← hhb] at HH0 HM0 HZ0 ⊢
  replace hhb := Lib.hid hhb
  have HCL := Lib.hid (HCP.out w0 HE0.out)
  have h0 := HH0.out.cell 0; have h1 := HH0.out.cell 1; have h2 := HH0.out.cell 2; have h3 := HH0.out.cell 3; have h4 := HH0.out.cell 4
  simp only [List.getElem?_toArray, List.getElem?_cons_zero, List.getElem?_cons_succ] at h0 h1 h2 h3 h4
  go_wp2_with fail
  refine (HCL.out).mono ?_
  rintro e w1 ⟨hE1, ⟨⟨A0', n0', c0'⟩, ⟨A1', n1', c1'⟩, ⟨A2', n2', c2'⟩, ⟨A3', n3', c3'⟩, ⟨Am', nm', cm'⟩⟩, B, rfl, hT, hB1, hB2, hO, hbl⟩
  clear h0 h1 h2 h3 h4 HCP HCL
  simp only [Tv.cells] at *
  have HE1 := Lib.hid (ext_trans HE0.out hE1)
  have HH1 := Lib.hid (HH0.out.ext hE1); have HM1 := Lib.hid (HM0.out.ext hE1); have HZ1 := Lib.hid (HZ0.out.ext hE1)
  have HT := Lib.hid hT; have HO := Lib.hid hO; have HBL := Lib.hid hbl
  have HSZ := Lib.hid (show w0.heap.size ≤ B ∧ B ≤ w1.heap.size from ⟨hB1, hB2⟩)
  clear hE1 hT hB1 hB2 hO hbl
  have f0 := HH1.out.frozen 0; have f1 := HH1.out.frozen 1; have f2 := HH1.out.frozen 2; have f3 := HH1.out.frozen 3; have f4 := HH1.out.frozen 4
  have h0 := HH1.out.cell 0; have h1 := HH1.out.cell 1; have h2 := HH1.out.cell 2; have h3 := HH1.out.cell 3; have h4 := HH1.out.cell 4
  simp only [List.getElem?_toArray, List.getElem?_cons_zero, List.getElem?_cons_succ] at h0 h1 h2 h3 h4
  go_upto_region 2 with fail
  have hne1 : hb + 1 ≠ hb := by omega
  have hne2 : hb + 1 + 1 ≠ hb := by omega
  have hLb : hb + 1 + 1 < w0.heap.size := HZ0.out.lt
  obtain ⟨w2, hw2⟩ : ∃ q, q = (((((w1.setCell ⟨hb, 0, none⟩ (.slice A0' n0' c0')).setCell ⟨hb, 1, none⟩ (.slice A1' n1' c1')).setCell ⟨hb, 2, none⟩ (.slice A2' n2' c2')).setCell ⟨hb, 3, none⟩ (.slice A3' n3' c3')).setCell ⟨hb, 4, none⟩ (.slice Am' nm' cm')) := ⟨_, rfl⟩
  have hk : ∀ k, k ≠ hb → w2.heap[k]? = w1.heap[k]? := fun k h1 => by
    rw [hw2, Below.heap_setCell _ ⟨hb, 4, none⟩ _ _ h1, Below.heap_setCell _ ⟨hb, 3, none⟩ _ _ h1, Below.heap_setCell _ ⟨hb, 2, none⟩ _ _ h1, Below.heap_setCell _ ⟨hb, 1, none⟩ _ _ h1, Below.heap_setCell _ ⟨hb, 0, none⟩ _ _ h1]
  have hs2 : w1.heap.size = w2.heap.size := by rw [hw2]; simp [World.setCell]
  have HH2 : Hid (Blk w2 hb 54 #[.slice A0' n0' c0', .slice A1' n1' c1', .slice A2' n2' c2', .slice A3' n3' c3', .slice Am' nm' cm']) := Lib.hid (by rw [hw2]; exact ((((HH1.out.set_ 0 _).set_ 1 _).set_ 2 _).set_ 3 _).set_ 4 _)
  have HM2 : Hid (Blk w2 (hb + 1) 68 #[.int .i64 mt, .string mn]) := Lib.hid ((hk _ hne1).trans HM1.out)
  have HZ2 : Hid (Blk w2 (hb + 1 + 1) 54 #[.slice none 0 0, .slice none 0 0, .slice none 0 0, .slice none 0 0, .slice none 0 0]) := Lib.hid ((hk _ hne2).trans HZ1.out)
  have hwhb : w.heap.size ≤ hb := by have := hhb.out; omega
  have HE2 : Hid (Ext w w2) := Lib.hid (by rw [hw2]; exact ext_set (ext_set (ext_set (ext_set (ext_set HE1.out hwhb _) hwhb _) hwhb _) hwhb _) hwhb _)
  have HO2 := Lib.hid (OwnR_keep HO.out (fun k h1 _ => hk k (by have := HSZ.out; omega)))
  have HT2 : Hid (TkV w2 ⟨⟨A0', n0', c0'⟩, ⟨A1', n1', c1'⟩, ⟨A2', n2', c2'⟩, ⟨A3', n3', c3'⟩, ⟨Am', nm', cm'⟩⟩ x) := Lib.hid <| by
    obtain ⟨b0, b1, b2, b3⟩ := HBL.out
    simp only at b0 b1 b2 b3
    have q := HT.out
    have hs3 : w1.heap.size ≤ w2.heap.size := by omega
    exact ⟨⟨q.1.1.keep hs3 (fun a ha _ => hk _ (by have := (b0 a ha).1; omega)), q.1.2⟩, ⟨q.2.1.1.keep hs3 (fun a ha _ => hk _ (by have := (b1 a ha).1; omega)), q.2.1.2⟩, ⟨q.2.2.1.1.keep hs3 (fun a ha _ => hk _ (by have := (b2 a ha).1; omega)), q.2.2.1.2⟩, ⟨q.2.2.2.1.1.keep hs3 (fun a ha _ => hk _ (by have := (b3 a ha).1; omega)), q.2.2.2.1.2⟩, OwnR.row cM_len HO2.out, q.2.2.2.2.2⟩
  have HSZ2 := Lib.hid (show w0.heap.size ≤ B ∧ B ≤ w2.heap.size by have := HSZ.out; omega)
  rw [← hw2]
  clear hw2 hk hs2 h0 h1 h2 h3 h4 f0 f1 f2 f3 f4 HH1 HM1 HZ1 HE1 HO HT HSZ
  have HY := Lib.hid (HMY.out ⟨⟨A0', n0', c0'⟩, ⟨A1', n1', c1'⟩, ⟨A2', n2', c2'⟩, ⟨A3', n3', c3'⟩, ⟨Am', nm', cm'⟩⟩ w2 HT2.out)
  simp only [Tv.cells] at HY
  have h0 := HH2.out.cell 0; have h1 := HH2.out.cell 1; have h2 := HH2.out.cell 2; have h3 := HH2.out.cell 3; have h4 := HH2.out.cell 4
  simp only [List.getElem?_toArray, List.getElem?_cons_zero, List.getElem?_cons_succ] at h0 h1 h2 h3 h4
  go_wp2_with fail
  refine (HY.out).mono ?_
  rintro e w3 ⟨rfl, hE3⟩
  clear h0 h1 h2 h3 h4 HY HMY
  have HX3 := Lib.hid hE3
  have m0 := kc hE3 (HM2.out.cell 0); have m1 := kc hE3 (HM2.out.cell 1)
  clear hE3
  go_wp2_with fail
  refine (HMM.out w3).mono ?_
  rintro e w4 ⟨rfl, hE4⟩
  have HX4 := Lib.hid (ext_trans HX3.out hE4)
  clear hE4 HX3 m0 m1 HMM
  have HH4 := Lib.hid (HH2.out.ext HX4.out); have HM4 := Lib.hid (HM2.out.ext HX4.out); have HZ4 := Lib.hid (HZ2.out.ext HX4.out)
  have HT4 := Lib.hid (HT2.out.ext HX4.out); have HO4 := Lib.hid (HO2.out.ext HX4.out); have HE4 := Lib.hid (ext_trans HE2.out HX4.out)
  have HB4 := Lib.hid (Nat.le_trans HSZ2.out.2 HX4.out.size)
  have HLM := Lib.hid HT4.out.2.2.2.2.1.1
  have HML : Hid (x.marks.length ≤ 32) := Lib.hid HL32.out
  simp only at HLM
  cases ok with
  | false =>
    have HAT : Hid (addT n x ⟨mt, mn⟩ = (x, 2)) := Lib.hid (by rw [addT, if_neg (of_decide_eq_false HOK.out.symm)])
    have h0 := HH4.out.cell 0; have h1 := HH4.out.cell 1; have h2 := HH4.out.cell 2; have h3 := HH4.out.cell 3; have h4 := HH4.out.cell 4
    have z0 := HZ4.out.cell 0; have z1 := HZ4.out.cell 1; have z2 := HZ4.out.cell 2; have z3 := HZ4.out.cell 3; have z4 := HZ4.out.cell 4
    have y0 := HZ4.out.frozen 0; have y1 := HZ4.out.frozen 1; have y2 := HZ4.out.frozen 2; have y3 := HZ4.out.frozen 3; have y4 := HZ4.out.frozen 4
    simp only [List.getElem?_toArray, List.getElem?_cons_zero, List.getElem?_cons_succ] at h0 h1 h2 h3 h4 z0 z1 z2 z3 z4

    go_wp2_with fail
    have hbk := (((((HZ4.out.set_ 0 (.slice A0' n0' c0')).set_ 1 (.slice A1' n1' c1')).set_ 2 (.slice A2' n2' c2')).set_ 3 (.slice A3' n3' c3')).set_ 4 (.slice Am' nm' cm'))
    refine bodyPost_ret (v := .tuple #[.agg (Tv.cells ⟨⟨A0', n0', c0'⟩, ⟨A1', n1', c1'⟩, ⟨A2', n2', c2'⟩, ⟨A3', n3', c3'⟩, ⟨Am', nm', cm'⟩⟩), .int .i64 2]) (results_cell2 Try.results22 _ _ (hb + 1 + 1) 54 _ (0, 0) _ rfl hbk _ rfl Try.underlying54 rfl (by kernel_rfl)) rfl ?_
    clear hbk h0 h1 h2 h3 h4 z0 z1 z2 z3 z4 y0 y1 y2 y3 y4
    have hbb := hhb.out
    have hrw : w.heap.size ≤ hb + 1 + 1 := by omega
    have hEE := ext_set (ext_set (ext_set (ext_set (ext_set HE4.out (p := ⟨hb + 1 + 1, 0, none⟩) hrw (.slice A0' n0' c0')) (p := ⟨hb + 1 + 1, 1, none⟩) hrw (.slice A1' n1' c1')) (p := ⟨hb + 1 + 1, 2, none⟩) hrw (.slice A2' n2' c2')) (p := ⟨hb + 1 + 1, 3, none⟩) hrw (.slice A3' n3' c3')) (p := ⟨hb + 1 + 1, 4, none⟩) hrw (.slice Am' nm' cm')
    obtain ⟨hs, hk⟩ := five_off w4 (hb + 1 + 1) (.slice A0' n0' c0') (.slice A1' n1' c1') (.slice A2' n2' c2') (.slice A3' n3' c3') (.slice Am' nm' cm')
    generalize (((((w4.setCell ⟨hb + 1 + 1, 0, none⟩ (.slice A0' n0' c0')).setCell ⟨hb + 1 + 1, 1, none⟩ (.slice A1' n1' c1')).setCell ⟨hb + 1 + 1, 2, none⟩ (.slice A2' n2' c2')).setCell ⟨hb + 1 + 1, 3, none⟩ (.slice A3' n3' c3')).setCell ⟨hb + 1 + 1, 4, none⟩ (.slice Am' nm' cm')) = W at *
    obtain ⟨b0, b1, b2, b3⟩ := HBL.out
    simp only at b0 b1 b2 b3
    have q := HT4.out
    have kO := OwnR_keep HO4.out (fun k hk1 _ => hk k (by have := HSZ2.out; omega))
    have hTW : TkV W ⟨⟨A0', n0', c0'⟩, ⟨A1', n1', c1'⟩, ⟨A2', n2', c2'⟩, ⟨A3', n3', c3'⟩, ⟨Am', nm', cm'⟩⟩ x := ⟨⟨q.1.1.keep hs (fun a ha _ => hk _ (by have := (b0 a ha).1; omega)), q.1.2⟩, ⟨q.2.1.1.keep hs (fun a ha _ => hk _ (by have := (b1 a ha).1; omega)), q.2.1.2⟩, ⟨q.2.2.1.1.keep hs (fun a ha _ => hk _ (by have := (b2 a ha).1; omega)), q.2.2.1.2⟩, ⟨q.2.2.2.1.1.keep hs (fun a ha _ => hk _ (by have := (b3 a ha).1; omega)), q.2.2.2.1.2⟩, OwnR.row cM_len kO, q.2.2.2.2.2⟩
    refine ⟨hEE, _, by rw [HAT.out], ?_⟩
    rw [HAT.out]; exact hTW
  | true =>
    by_cases h32 : nm' = 32
    · have h32' : (nm' : Int) = 32 := by omega
      have HAT : Hid (addT n x ⟨mt, mn⟩ = (x, 7)) := Lib.hid (by rw [addT, if_pos (of_decide_eq_true HOK.out.symm), if_pos (by rw [HLM.out]; exact h32)])
      subst h32
      clear h32'
      have h0 := HH4.out.cell 0; have h1 := HH4.out.cell 1; have h2 := HH4.out.cell 2; have h3 := HH4.out.cell 3; have h4 := HH4.out.cell 4
      have z0 := HZ4.out.cell 0; have z1 := HZ4.out.cell 1; have z2 := HZ4.out.cell 2; have z3 := HZ4.out.cell 3; have z4 := HZ4.out.cell 4
      have y0 := HZ4.out.frozen 0; have y1 := HZ4.out.frozen 1; have y2 := HZ4.out.frozen 2; have y3 := HZ4.out.frozen 3; have y4 := HZ4.out.frozen 4
      simp only [List.getElem?_toArray, List.getElem?_cons_zero, List.getElem?_cons_succ] at h0 h1 h2 h3 h4 z0 z1 z2 z3 z4

      go_wp2_with fail
      have hbk := (((((HZ4.out.set_ 0 (.slice A0' n0' c0')).set_ 1 (.slice A1' n1' c1')).set_ 2 (.slice A2' n2' c2')).set_ 3 (.slice A3' n3' c3')).set_ 4 (.slice Am' 32 cm'))
      refine bodyPost_ret (v := .tuple #[.agg (Tv.cells ⟨⟨A0', n0', c0'⟩, ⟨A1', n1', c1'⟩, ⟨A2', n2', c2'⟩, ⟨A3', n3', c3'⟩, ⟨Am', 32, cm'⟩⟩), .int .i64 7]) (results_cell2 Try.results22 _ _ (hb + 1 + 1) 54 _ (0, 0) _ rfl hbk _ rfl Try.underlying54 rfl (by kernel_rfl)) rfl ?_
      clear hbk h0 h1 h2 h3 h4 z0 z1 z2 z3 z4 y0 y1 y2 y3 y4
      have hbb := hhb.out
      have hrw : w.heap.size ≤ hb + 1 + 1 := by omega
      have hEE := ext_set (ext_set (ext_set (ext_set (ext_set HE4.out (p := ⟨hb + 1 + 1, 0, none⟩) hrw (.slice A0' n0' c0')) (p := ⟨hb + 1 + 1, 1, none⟩) hrw (.slice A1' n1' c1')) (p := ⟨hb + 1 + 1, 2, none⟩) hrw (.slice A2' n2' c2')) (p := ⟨hb + 1 + 1, 3, none⟩) hrw (.slice A3' n3' c3')) (p := ⟨hb + 1 + 1, 4, none⟩) hrw (.slice Am' 32 cm')
      obtain ⟨hs, hk⟩ := five_off w4 (hb + 1 + 1) (.slice A0' n0' c0') (.slice A1' n1' c1') (.slice A2' n2' c2') (.slice A3' n3' c3') (.slice Am' 32 cm')
      generalize (((((w4.setCell ⟨hb + 1 + 1, 0, none⟩ (.slice A0' n0' c0')).setCell ⟨hb + 1 + 1, 1, none⟩ (.slice A1' n1' c1')).setCell ⟨hb + 1 + 1, 2, none⟩ (.slice A2' n2' c2')).setCell ⟨hb + 1 + 1, 3, none⟩ (.slice A3' n3' c3')).setCell ⟨hb + 1 + 1, 4, none⟩ (.slice Am' 32 cm')) = W at *
      obtain ⟨b0, b1, b2, b3⟩ := HBL.out
      simp only at b0 b1 b2 b3
      have q := HT4.out
      have kO := OwnR_keep HO4.out (fun k hk1 _ => hk k (by have := HSZ2.out; omega))
      have hTW : TkV W ⟨⟨A0', n0', c0'⟩, ⟨A1', n1', c1'⟩, ⟨A2', n2', c2'⟩, ⟨A3', n3', c3'⟩, ⟨Am', 32, cm'⟩⟩ x := ⟨⟨q.1.1.keep hs (fun a ha _ => hk _ (by have := (b0 a ha).1; omega)), q.1.2⟩, ⟨q.2.1.1.keep hs (fun a ha _ => hk _ (by have := (b1 a ha).1; omega)), q.2.1.2⟩, ⟨q.2.2.1.1.keep hs (fun a ha _ => hk _ (by have := (b2 a ha).1; omega)), q.2.2.1.2⟩, ⟨q.2.2.2.1.1.keep hs (fun a ha _ => hk _ (by have := (b3 a ha).1; omega)), q.2.2.2.1.2⟩, OwnR.row cM_len kO, q.2.2.2.2.2⟩
      refine ⟨hEE, _, by rw [HAT.out], ?_⟩
      rw [HAT.out]; exact hTW
    · have hn32 : nm' < 32 := by have := HLM.out; have := HML.out; omega
      have hn32' : ¬ (nm' : Int) = 32 := by omega
      have HAT : Hid (addT n x ⟨mt, mn⟩ = (⟨x.c0, x.c1, x.c2, x.c3, insM ⟨mt, mn⟩ x.marks⟩, 0)) := Lib.hid (by rw [addT, if_pos (of_decide_eq_true HOK.out.symm), if_neg (by rw [HLM.out]; exact h32)])
      clear HH2 HM2 HZ2 HE2 HO2 HT2 HX4
      have h4 := HH4.out.cell 4; have m0 := HM4.out.cell 0; have m1 := HM4.out.cell 1
      simp only [List.getElem?_toArray, List.getElem?_cons_zero, List.getElem?_cons_succ] at h4 m0 m1
      have HIX := Lib.hid (idxM_st Am' nm' cm' x.marks mt (hb + 1) w4 HT4.out.2.2.2.2.1 (by omega) m0 HM4.out.lt)
      go_wp2_with fail
      refine (HIX.out).mono ?_
      rintro e w5 ⟨r, rfl, hr, hE5⟩
      have HR := Lib.hid hr
      clear hr HIX h4 m0 m1
      have HH5 := Lib.hid (HH4.out.ext hE5); have HM5 := Lib.hid (HM4.out.ext hE5); have HZ5 := Lib.hid (HZ4.out.ext hE5)
      have HT5 := Lib.hid (HT4.out.ext hE5); have HO5 := Lib.hid (HO4.out.ext hE5); have HE5 := Lib.hid (ext_trans HE4.out hE5)
      have HB5 := Lib.hid (Nat.le_trans HB4.out hE5.size)
      clear hE5 HH4 HM4 HZ4 HT4 HO4 HE4 HB4
      have HSRC := Lib.hid (src_rec (P := Try.prog) (e' := 68) Try.underlying52 w5 (cM ⟨mt, mn⟩) rfl (by intro u hu; simp [cM] at hu; rcases hu with rfl | rfl <;> rfl) 1)
      have hEA := ext_alloc (Ext.rfl' w5) (.cells (cM ⟨mt, mn⟩).toArray 68)
      rcases HR.out with ⟨k, rfl, ⟨hk, hk2⟩, hk3⟩ | ⟨rfl, hr⟩
      · have hkn : k < nm' := by rw [← HLM.out]; exact hk
        have HIM := Lib.hid (insM_at (m := ⟨mt, mn⟩) hk hk2 hk3)
        obtain ⟨g9, hg9⟩ : ∃ g, Am' = some ⟨g, 0, none⟩ ∧ g < w5.heap.size := by
          have ho := HO5.out
          rcases ho.2 with ⟨h, _⟩ | ⟨g, cap, cur, h1, h2, h3, _⟩
          · obtain ⟨_, e2, _⟩ := Value.slice.inj h; omega
          · obtain ⟨e1, _, _⟩ := Value.slice.inj h1
            exact ⟨g, e1, (Array.getElem?_eq_some_iff.1 h3).1⟩
        obtain ⟨hg9, hg10⟩ := hg9
        subst hg9
        have HIN := Lib.hid (insert_mid B g9 nm' cm' k x.marks ⟨mt, mn⟩ w5.heap.size 1 _ (HO5.out.ext hEA) (Nat.le_trans HB5.out hEA.size) (Blk.new w5 68 (cM ⟨mt, mn⟩).toArray) (by omega) (by omega) HLM.out hkn)
        rw [← HIM.out] at HIN
        have HEA := Lib.hid hEA
        have y1 : (0 : Int) ≤ (k : Int) := by omega
        clear hEA hk hk2 hk3 hg10 HR HIM
        have h4 := HH5.out.cell 4; have m0 := HM5.out.cell 0; have m1 := HM5.out.cell 1
        simp only [List.getElem?_toArray, List.getElem?_cons_zero, List.getElem?_cons_succ] at h4 m0 m1
        simp only [cM] at HIN
        go_wp2_with fail
        refine (HIN.out).mono ?_
        rintro e w6 ⟨v', rfl, hO6, hG6⟩
        obtain ⟨A9, c9, hv, hl1, hl2, hl3, hl4⟩ := hO6.shape
        subst hv
        have hob : ∀ k, (Value.slice (some ⟨g9, 0, none⟩) nm' cm').ownBlock = some k → B ≤ k := fun k e => (World.ownsRow.lt HO5.out k e).1
        have hkeep : ∀ k, k < B → w6.heap[k]? = w5.heap[k]? := fun k hk => (hG6.block k (Nat.lt_of_lt_of_le hk (Nat.le_trans HB5.out HEA.out.size)) (fun e => by have := hob k e.symm; omega)).trans (HEA.out.block k (Nat.lt_of_lt_of_le hk HB5.out))
        have hBB := HSZ2.out.1
        have HE6 := Lib.hid (ext_grown (ext_trans HE5.out HEA.out) hG6 (fun q e => by have := hob q e; have := hhb.out; omega))
        have HH6 : Hid (Blk w6 hb 54 #[.slice A0' n0' c0', .slice A1' n1' c1', .slice A2' n2' c2', .slice A3' n3' c3', .slice (some ⟨g9, 0, none⟩) nm' cm']) := Lib.hid ((hkeep _ (by omega)).trans HH5.out)
        have HZ6 : Hid (Blk w6 (hb + 1 + 1) 54 #[.slice none 0 0, .slice none 0 0, .slice none 0 0, .slice none 0 0, .slice none 0 0]) := Lib.hid ((hkeep _ (by omega)).trans HZ5.out)
        have hs56 : w5.heap.size ≤ w6.heap.size := Nat.le_trans HEA.out.size hG6.size
        have HC6 : Hid (PtsV w6 A0' n0' c0' x.c0 ∧ PtsV w6 A1' n1' c1' x.c1 ∧ PtsV w6 A2' n2' c2' x.c2 ∧ PtsV w6 A3' n3' c3' x.c3) := Lib.hid <| by
          obtain ⟨b0, b1, b2, b3⟩ := HBL.out
          simp only at b0 b1 b2 b3
          have q := HT5.out
          exact ⟨⟨q.1.1.keep hs56 (fun a ha _ => hkeep _ (b0 a ha).2), q.1.2⟩, ⟨q.2.1.1.keep hs56 (fun a ha _ => hkeep _ (b1 a ha).2), q.2.1.2⟩, ⟨q.2.2.1.1.keep hs56 (fun a ha _ => hkeep _ (b2 a ha).2), q.2.2.1.2⟩, ⟨q.2.2.2.1.1.keep hs56 (fun a ha _ => hkeep _ (b3 a ha).2), q.2.2.2.1.2⟩⟩
        have HO6 := Lib.hid hO6
        have HL6 : Hid ((insM ⟨mt, mn⟩ x.marks).length ≤ c9 ∧ c9 ≤ 9223372036854775807 ∧ (A9 = none → (insM ⟨mt, mn⟩ x.marks).length = 0 ∧ c9 = 0)) := Lib.hid ⟨hl1, hl2, hl3⟩
        have HNM : Hid (∀ q ∈ (insM ⟨mt, mn⟩ x.marks), q.name.size ≤ 9223372036854775807) := Lib.hid (fun q hq => by
          rcases mem_insM hq with rfl | hq
          · exact HMS.out
          · exact HT5.out.2.2.2.2.2.2.2.2 q hq)
        clear hob hkeep hG6 hO6 hl1 hl2 hl3 hl4 h4 m0 m1 HH5 HM5 HZ5 HT5 HE5 HSRC HIN HEA HO5
        generalize hnx : (insM ⟨mt, mn⟩ x.marks).length = nx at *
        replace hnx := Lib.hid hnx
        have h0 := HH6.out.cell 0; have h1 := HH6.out.cell 1; have h2 := HH6.out.cell 2; have h3 := HH6.out.cell 3; have h4 := HH6.out.cell 4
        have f4 := HH6.out.frozen 4
        have z0 := HZ6.out.cell 0; have z1 := HZ6.out.cell 1; have z2 := HZ6.out.cell 2; have z3 := HZ6.out.cell 3; have z4 := HZ6.out.cell 4
        have y0 := HZ6.out.frozen 0; have y1 := HZ6.out.frozen 1; have y2 := HZ6.out.frozen 2; have y3 := HZ6.out.frozen 3; have y4 := HZ6.out.frozen 4
        simp only [List.getElem?_toArray, List.getElem?_cons_zero, List.getElem?_cons_succ] at h0 h1 h2 h3 h4 z0 z1 z2 z3 z4
        have hne3 : hb ≠ hb + 1 + 1 := by omega
        go_wp2_with fail
        have hbk := ((((((HZ6.out.far (p := ⟨hb, 4, none⟩) hne2 (.slice A9 nx c9)).set_ 0 (.slice A0' n0' c0')).set_ 1 (.slice A1' n1' c1')).set_ 2 (.slice A2' n2' c2')).set_ 3 (.slice A3' n3' c3')).set_ 4 (.slice A9 nx c9))
        refine bodyPost_ret (v := .tuple #[.agg (Tv.cells ⟨⟨A0', n0', c0'⟩, ⟨A1', n1', c1'⟩, ⟨A2', n2', c2'⟩, ⟨A3', n3', c3'⟩, ⟨A9, nx, c9⟩⟩), .int .i64 0]) (results_cell2 Try.results22 _ _ (hb + 1 + 1) 54 _ (0, 0) _ rfl hbk _ rfl Try.underlying54 rfl (by kernel_rfl)) rfl ?_
        clear hbk h0 h1 h2 h3 h4 f4 z0 z1 z2 z3 z4 y0 y1 y2 y3 y4
        have hrw : w.heap.size ≤ hb + 1 + 1 := by omega
        have hEE := ext_set (ext_set (ext_set (ext_set (ext_set (ext_set HE6.out (p := ⟨hb, 4, none⟩) hwhb (.slice A9 nx c9)) (p := ⟨hb + 1 + 1, 0, none⟩) hrw (.slice A0' n0' c0')) (p := ⟨hb + 1 + 1, 1, none⟩) hrw (.slice A1' n1' c1')) (p := ⟨hb + 1 + 1, 2, none⟩) hrw (.slice A2' n2' c2')) (p := ⟨hb + 1 + 1, 3, none⟩) hrw (.slice A3' n3' c3')) (p := ⟨hb + 1 + 1, 4, none⟩) hrw (.slice A9 nx c9)
        refine ⟨hEE, _, by rw [HAT.out], ?_⟩
        have hk : ∀ k, k ≠ hb → k ≠ hb + 1 + 1 → ((((((w6.setCell ⟨hb, 4, none⟩ (.slice A9 nx c9)).setCell ⟨hb + 1 + 1, 0, none⟩ (.slice A0' n0' c0')).setCell ⟨hb + 1 + 1, 1, none⟩ (.slice A1' n1' c1')).setCell ⟨hb + 1 + 1, 2, none⟩ (.slice A2' n2' c2')).setCell ⟨hb + 1 + 1, 3, none⟩ (.slice A3' n3' c3')).setCell ⟨hb + 1 + 1, 4, none⟩ (.slice A9 nx c9)).heap[k]? = w6.heap[k]? := fun k h1 h2 => by
          rw [Below.heap_setCell _ ⟨hb + 1 + 1, 4, none⟩ _ _ h2, Below.heap_setCell _ ⟨hb + 1 + 1, 3, none⟩ _ _ h2, Below.heap_setCell _ ⟨hb + 1 + 1, 2, none⟩ _ _ h2, Below.heap_setCell _ ⟨hb + 1 + 1, 1, none⟩ _ _ h2, Below.heap_setCell _ ⟨hb + 1 + 1, 0, none⟩ _ _ h2, Below.heap_setCell _ ⟨hb, 4, none⟩ _ _ h1]
        have hs : w6.heap.size ≤ ((((((w6.setCell ⟨hb, 4, none⟩ (.slice A9 nx c9)).setCell ⟨hb + 1 + 1, 0, none⟩ (.slice A0' n0' c0')).setCell ⟨hb + 1 + 1, 1, none⟩ (.slice A1' n1' c1')).setCell ⟨hb + 1 + 1, 2, none⟩ (.slice A2' n2' c2')).setCell ⟨hb + 1 + 1, 3, none⟩ (.slice A3' n3' c3')).setCell ⟨hb + 1 + 1, 4, none⟩ (.slice A9 nx c9)).heap.size := by simp [World.setCell]
        generalize ((((((w6.setCell ⟨hb, 4, none⟩ (.slice A9 nx c9)).setCell ⟨hb + 1 + 1, 0, none⟩ (.slice A0' n0' c0')).setCell ⟨hb + 1 + 1, 1, none⟩ (.slice A1' n1' c1')).setCell ⟨hb + 1 + 1, 2, none⟩ (.slice A2' n2' c2')).setCell ⟨hb + 1 + 1, 3, none⟩ (.slice A3' n3' c3')).setCell ⟨hb + 1 + 1, 4, none⟩ (.slice A9 nx c9)) = W at *
        rw [HAT.out]
        obtain ⟨b0, b1, b2, b3⟩ := HBL.out
        simp only at b0 b1 b2 b3
        obtain ⟨q0, q1, q2, q3⟩ := HC6.out
        have kO := OwnR_keep HO6.out (fun k hk1 _ => hk k (by omega) (by omega))
        exact ⟨⟨q0.1.keep hs (fun a ha _ => hk _ (by have := (b0 a ha).1; omega) (by have := (b0 a ha).1; omega)), q0.2⟩, ⟨q1.1.keep hs (fun a ha _ => hk _ (by have := (b1 a ha).1; omega) (by have := (b1 a ha).1; omega)), q1.2⟩, ⟨q2.1.keep hs (fun a ha _ => hk _ (by have := (b2 a ha).1; omega) (by have := (b2 a ha).1; omega)), q2.2⟩, ⟨q3.1.keep hs (fun a ha _ => hk _ (by have := (b3 a ha).1; omega) (by have := (b3 a ha).1; omega)), q3.2⟩, OwnR.row cM_len kO, HL6.out.1, HL6.out.2.1, HL6.out.2.2, HNM.out⟩
      · have HIN := Lib.hid (insert_end B Am' nm' cm' x.marks ⟨mt, mn⟩ ⟨w5.heap.size, 0, none⟩ 1 _ (HO5.out.ext hEA) (Nat.le_trans HB5.out hEA.size) HSRC.out (by omega) HLM.out)
        have HIM := Lib.hid (insM_end (m := ⟨mt, mn⟩) hr)
        rw [← HIM.out] at HIN
        have HEA := Lib.hid hEA
        clear hEA hr HR HIM
        have h4 := HH5.out.cell 4; have m0 := HM5.out.cell 0; have m1 := HM5.out.cell 1
        simp only [List.getElem?_toArray, List.getElem?_cons_zero, List.getElem?_cons_succ] at h4 m0 m1
        simp only [cM] at HIN
        go_wp2_with fail
        refine (HIN.out).mono ?_
        rintro e w6 ⟨v', rfl, hO6, hG6⟩
        obtain ⟨A9, c9, hv, hl1, hl2, hl3, hl4⟩ := hO6.shape
        subst hv
        have hob : ∀ k, (Value.slice Am' nm' cm').ownBlock = some k → B ≤ k := fun k e => (World.ownsRow.lt HO5.out k e).1
        have hkeep : ∀ k, k < B → w6.heap[k]? = w5.heap[k]? := fun k hk => (hG6.block k (Nat.lt_of_lt_of_le hk (Nat.le_trans HB5.out HEA.out.size)) (fun e => by have := hob k e.symm; omega)).trans (HEA.out.block k (Nat.lt_of_lt_of_le hk HB5.out))
        have hBB := HSZ2.out.1
        have HE6 := Lib.hid (ext_grown (ext_trans HE5.out HEA.out) hG6 (fun q e => by have := hob q e; have := hhb.out; omega))
        have HH6 : Hid (Blk w6 hb 54 #[.slice A0' n0' c0', .slice A1' n1' c1', .slice A2' n2' c2', .slice A3' n3' c3', .slice Am' nm' cm']) := Lib.hid ((hkeep _ (by omega)).trans HH5.out)
        have HZ6 : Hid (Blk w6 (hb + 1 + 1) 54 #[.slice none 0 0, .slice none 0 0, .slice none 0 0, .slice none 0 0, .slice none 0 0]) := Lib.hid ((hkeep _ (by omega)).trans HZ5.out)
        have hs56 : w5.heap.size ≤ w6.heap.size := Nat.le_trans HEA.out.size hG6.size
        have HC6 : Hid (PtsV w6 A0' n0' c0' x.c0 ∧ PtsV w6 A1' n1' c1' x.c1 ∧ PtsV w6 A2' n2' c2' x.c2 ∧ PtsV w6 A3' n3' c3' x.c3) := Lib.hid <| by
          obtain ⟨b0, b1, b2, b3⟩ := HBL.out
          simp only at b0 b1 b2 b3
          have q := HT5.out
          exact ⟨⟨q.1.1.keep hs56 (fun a ha _ => hkeep _ (b0 a ha).2), q.1.2⟩, ⟨q.2.1.1.keep hs56 (fun a ha _ => hkeep _ (b1 a ha).2), q.2.1.2⟩, ⟨q.2.2.1.1.keep hs56 (fun a ha _ => hkeep _ (b2 a ha).2), q.2.2.1.2⟩, ⟨q.2.2.2.1.1.keep hs56 (fun a ha _ => hkeep _ (b3 a ha).2), q.2.2.2.1.2⟩⟩
        have HO6 := Lib.hid hO6
        have HL6 : Hid ((insM ⟨mt, mn⟩ x.marks).length ≤ c9 ∧ c9 ≤ 9223372036854775807 ∧ (A9 = none → (insM ⟨mt, mn⟩ x.marks).length = 0 ∧ c9 = 0)) := Lib.hid ⟨hl1, hl2, hl3⟩
        have HNM : Hid (∀ q ∈ (insM ⟨mt, mn⟩ x.marks), q.name.size ≤ 9223372036854775807) := Lib.hid (fun q hq => by
          rcases mem_insM hq with rfl | hq
          · exact HMS.out
          · exact HT5.out.2.2.2.2.2.2.2.2 q hq)
        clear hob hkeep hG6 hO6 hl1 hl2 hl3 hl4 h4 m0 m1 HH5 HM5 HZ5 HT5 HE5 HSRC HIN HEA HO5
        generalize hnx : (insM ⟨mt, mn⟩ x.marks).length = nx at *
        replace hnx := Lib.hid hnx
        have h0 := HH6.out.cell 0; have h1 := HH6.out.cell 1; have h2 := HH6.out.cell 2; have h3 := HH6.out.cell 3; have h4 := HH6.out.cell 4
        have f4 := HH6.out.frozen 4
        have z0 := HZ6.out.cell 0; have z1 := HZ6.out.cell 1; have z2 := HZ6.out.cell 2; have z3 := HZ6.out.cell 3; have z4 := HZ6.out.cell 4
        have y0 := HZ6.out.frozen 0; have y1 := HZ6.out.frozen 1; have y2 := HZ6.out.frozen 2; have y3 := HZ6.out.frozen 3; have y4 := HZ6.out.frozen 4
        simp only [List.getElem?_toArray, List.getElem?_cons_zero, List.getElem?_cons_succ] at h0 h1 h2 h3 h4 z0 z1 z2 z3 z4
        have hne3 : hb ≠ hb + 1 + 1 := by omega
        go_wp2_with fail
        have hbk := ((((((HZ6.out.far (p := ⟨hb, 4, none⟩) hne2 (.slice A9 nx c9)).set_ 0 (.slice A0' n0' c0')).set_ 1 (.slice A1' n1' c1')).set_ 2 (.slice A2' n2' c2')).set_ 3 (.slice A3' n3' c3')).set_ 4 (.slice A9 nx c9))
        refine bodyPost_ret (v := .tuple #[.agg (Tv.cells ⟨⟨A0', n0', c0'⟩, ⟨A1', n1', c1'⟩, ⟨A2', n2', c2'⟩, ⟨A3', n3', c3'⟩, ⟨A9, nx, c9⟩⟩), .int .i64 0]) (results_cell2 Try.results22 _ _ (hb + 1 + 1) 54 _ (0, 0) _ rfl hbk _ rfl Try.underlying54 rfl (by kernel_rfl)) rfl ?_
        clear hbk h0 h1 h2 h3 h4 f4 z0 z1 z2 z3 z4 y0 y1 y2 y3 y4
        have hrw : w.heap.size ≤ hb + 1 + 1 := by omega
        have hEE := ext_set (ext_set (ext_set (ext_set (ext_set (ext_set HE6.out (p := ⟨hb, 4, none⟩) hwhb (.slice A9 nx c9)) (p := ⟨hb + 1 + 1, 0, none⟩) hrw (.slice A0' n0' c0')) (p := ⟨hb + 1 + 1, 1, none⟩) hrw (.slice A1' n1' c1')) (p := ⟨hb + 1 + 1, 2, none⟩) hrw (.slice A2' n2' c2')) (p := ⟨hb + 1 + 1, 3, none⟩) hrw (.slice A3' n3' c3')) (p := ⟨hb + 1 + 1, 4, none⟩) hrw (.slice A9 nx c9)
        refine ⟨hEE, _, by rw [HAT.out], ?_⟩
        have hk : ∀ k, k ≠ hb → k ≠ hb + 1 + 1 → ((((((w6.setCell ⟨hb, 4, none⟩ (.slice A9 nx c9)).setCell ⟨hb + 1 + 1, 0, none⟩ (.slice A0' n0' c0')).setCell ⟨hb + 1 + 1, 1, none⟩ (.slice A1' n1' c1')).setCell ⟨hb + 1 + 1, 2, none⟩ (.slice A2' n2' c2')).setCell ⟨hb + 1 + 1, 3, none⟩ (.slice A3' n3' c3')).setCell ⟨hb + 1 + 1, 4, none⟩ (.slice A9 nx c9)).heap[k]? = w6.heap[k]? := fun k h1 h2 => by
          rw [Below.heap_setCell _ ⟨hb + 1 + 1, 4, none⟩ _ _ h2, Below.heap_setCell _ ⟨hb + 1 + 1, 3, none⟩ _ _ h2, Below.heap_setCell _ ⟨hb + 1 + 1, 2, none⟩ _ _ h2, Below.heap_setCell _ ⟨hb + 1 + 1, 1, none⟩ _ _ h2, Below.heap_setCell _ ⟨hb + 1 + 1, 0, none⟩ _ _ h2, Below.heap_setCell _ ⟨hb, 4, none⟩ _ _ h1]
        have hs : w6.heap.size ≤ ((((((w6.setCell ⟨hb, 4, none⟩ (.slice A9 nx c9)).setCell ⟨hb + 1 + 1, 0, none⟩ (.slice A0' n0' c0')).setCell ⟨hb + 1 + 1, 1, none⟩ (.slice A1' n1' c1')).setCell ⟨hb + 1 + 1, 2, none⟩ (.slice A2' n2' c2')).setCell ⟨hb + 1 + 1, 3, none⟩ (.slice A3' n3' c3')).setCell ⟨hb + 1 + 1, 4, none⟩ (.slice A9 nx c9)).heap.size := by simp [World.setCell]
        generalize ((((((w6.setCell ⟨hb, 4, none⟩ (.slice A9 nx c9)).setCell ⟨hb + 1 + 1, 0, none⟩ (.slice A0' n0' c0')).setCell ⟨hb + 1 + 1, 1, none⟩ (.slice A1' n1' c1')).setCell ⟨hb + 1 + 1, 2, none⟩ (.slice A2' n2' c2')).setCell ⟨hb + 1 + 1, 3, none⟩ (.slice A3' n3' c3')).setCell ⟨hb + 1 + 1, 4, none⟩ (.slice A9 nx c9)) = W at *
        rw [HAT.out]
        obtain ⟨b0, b1, b2, b3⟩ := HBL.out
        simp only at b0 b1 b2 b3
        obtain ⟨q0, q1, q2, q3⟩ := HC6.out
        have kO := OwnR_keep HO6.out (fun k hk1 _ => hk k (by omega) (by omega))
        exact ⟨⟨q0.1.keep hs (fun a ha _ => hk _ (by have := (b0 a ha).1; omega) (by have := (b0 a ha).1; omega)), q0.2⟩, ⟨q1.1.keep hs (fun a ha _ => hk _ (by have := (b1 a ha).1; omega) (by have := (b1 a ha).1; omega)), q1.2⟩, ⟨q2.1.keep hs (fun a ha _ => hk _ (by have := (b2 a ha).1; omega) (by have := (b2 a ha).1; omega)), q2.2⟩, ⟨q3.1.keep hs (fun a ha _ => hk _ (by have := (b3 a ha).1; omega) (by have := (b3 a ha).1; omega)), q3.2⟩, OwnR.row cM_len kO, HL6.out.1, HL6.out.2.1, HL6.out.2.2, HNM.out⟩
def dropT (x : Tk) (i : Int) : Tk × Int := if 0 ≤ i ∧ i < x.marks.length then (⟨x.c0, x.c1, x.c2, x.c3, x.marks.take i.toNat ++ x.marks.drop (i.toNat + 1)⟩, 0) else (x, 9)
set_option maxHeartbeats 16000000 in
set_option maxRecDepth 100000 in
theorem drop_tr (t : Tv) (x : Tk) (i : Int) (w : World) (hB : TkV w t x) (hl : (∀ c ∈ x.cams, c.length ≤ 1000000) ∧ x.marks.length ≤ 1000000) (hi1 : -9223372036854775808 ≤ i) (hi2 : i ≤ 9223372036854775807) :
    Calls Try.prog 24 #[.agg t.cells, .int .i64 i] w (GPost w (dropT x i)) := by
  have HE0 := Lib.hid (ext_alloc (ext_alloc (Ext.rfl' w) (.cells t.cells 54)) (.cells zeroT 54))
  have HH0 := Lib.hid ((Blk.new w 54 t.cells).alloc (.cells zeroT 54))
  have HZ0 := Lib.hid (Blk.new (w.alloc (.cells t.cells 54)) 54 zeroT)
  have z1 : (w.alloc (.cells t.cells 54)).heap.size = w.heap.size + 1 := World.size_alloc _ _
  rw [z1] at HZ0
  clear z1
  have HCP := Lib.hid (fun (W : World) (e : Ext w W) => copied_st t x W (hB.ext e) hl)
  have HL32 := Lib.hid hl.2
  clear hB hl
  obtain ⟨⟨A0, n0, c0⟩, ⟨A1, n1, c1⟩, ⟨A2, n2, c2⟩, ⟨A3, n3, c3⟩, ⟨Am, nm, cm⟩⟩ := t
  simp only [Tv.cells, zeroT] at *
  go_enter Try.func24, Try.ntmps24
  go_upto_region 1 with fail
  obtain ⟨w0, hw0⟩ : ∃ q, q = ((w.alloc (.cells #[.slice A0 n0 c0, .slice A1 n1 c1, .slice A2 n2 c2, .slice A3 n3 c3, .slice Am nm cm] 54))).alloc (.cells #[.slice none 0 0, .slice none 0 0, .slice none 0 0, .slice none 0 0, .slice none 0 0] 54) := ⟨_, rfl⟩
  rw [← hw0] at HE0 HH0 HZ0 ⊢
  clear hw0
  obtain ⟨hb, hhb⟩ : ∃ q, q = w.heap.size := ⟨_, rfl⟩
  rw [← hhb] at HH0 HZ0 ⊢
  replace hhb := Lib.hid hhb
  have HCL := Lib.hid (HCP.out w0 HE0.out)
  have h0 := HH0.out.cell 0; have h1 := HH0.out.cell 1; have h2 := HH0.out.cell 2; have h3 := HH0.out.cell 3; have h4 := HH0.out.cell 4
  simp only [List.getElem?_toArray, List.getElem?_cons_zero, List.getElem?_cons_succ] at h0 h1 h2 h3 h4
  go_wp2_with fail
  refine (HCL.out).mono ?_
  rintro e w1 ⟨hE1, ⟨⟨A0', n0', c0'⟩, ⟨A1', n1', c1'⟩, ⟨A2', n2', c2'⟩, ⟨A3', n3', c3'⟩, ⟨Am', nm', cm'⟩⟩, B, rfl, hT, hB1, hB2, hO, hbl⟩
  clear h0 h1 h2 h3 h4 HCP HCL
  simp only [Tv.cells] at *
  have HE1 := Lib.hid (ext_trans HE0.out hE1)
  have HH1 := Lib.hid (HH0.out.ext hE1); have HZ1 := Lib.hid (HZ0.out.ext hE1)
  have HT := Lib.hid hT; have HO := Lib.hid hO; have HBL := Lib.hid hbl
  have HSZ := Lib.hid (show w0.heap.size ≤ B ∧ B ≤ w1.heap.size from ⟨hB1, hB2⟩)
  clear hE1 hT hB1 hB2 hO hbl
  have f0 := HH1.out.frozen 0; have f1 := HH1.out.frozen 1; have f2 := HH1.out.frozen 2; have f3 := HH1.out.frozen 3; have f4 := HH1.out.frozen 4
  have h0 := HH1.out.cell 0; have h1 := HH1.out.cell 1; have h2 := HH1.out.cell 2; have h3 := HH1.out.cell 3; have h4 := HH1.out.cell 4
  simp only [List.getElem?_toArray, List.getElem?_cons_zero, List.getElem?_cons_succ] at h0 h1 h2 h3 h4
  go_upto_region 2 with fail
  have hne2 : hb + 1 ≠ hb := by omega
  have hLb : hb + 1 < w0.heap.size := HZ0.out.lt
  obtain ⟨w2, hw2⟩ : ∃ q, q = (((((w1.setCell ⟨hb, 0, none⟩ (.slice A0' n0' c0')).setCell ⟨hb, 1, none⟩ (.slice A1' n1' c1')).setCell ⟨hb, 2, none⟩ (.slice A2' n2' c2')).setCell ⟨hb, 3, none⟩ (.slice A3' n3' c3')).setCell ⟨hb, 4, none⟩ (.slice Am' nm' cm')) := ⟨_, rfl⟩
  have hk : ∀ k, k ≠ hb → w2.heap[k]? = w1.heap[k]? := fun k h1 => by
    rw [hw2, Below.heap_setCell _ ⟨hb, 4, none⟩ _ _ h1, Below.heap_setCell _ ⟨hb, 3, none⟩ _ _ h1, Below.heap_setCell _ ⟨hb, 2, none⟩ _ _ h1, Below.heap_setCell _ ⟨hb, 1, none⟩ _ _ h1, Below.heap_setCell _ ⟨hb, 0, none⟩ _ _ h1]
  have hs2 : w1.heap.size = w2.heap.size := by rw [hw2]; simp [World.setCell]
  have HH2 : Hid (Blk w2 hb 54 #[.slice A0' n0' c0', .slice A1' n1' c1', .slice A2' n2' c2', .slice A3' n3' c3', .slice Am' nm' cm']) := Lib.hid (by rw [hw2]; exact ((((HH1.out.set_ 0 _).set_ 1 _).set_ 2 _).set_ 3 _).set_ 4 _)
  have HZ2 : Hid (Blk w2 (hb + 1) 54 #[.slice none 0 0, .slice none 0 0, .slice none 0 0, .slice none 0 0, .slice none 0 0]) := Lib.hid ((hk _ hne2).trans HZ1.out)
  have hwhb : w.heap.size ≤ hb := by have := hhb.out; omega
  have HE2 : Hid (Ext w w2) := Lib.hid (by rw [hw2]; exact ext_set (ext_set (ext_set (ext_set (ext_set HE1.out hwhb _) hwhb _) hwhb _) hwhb _) hwhb _)
  have HO2 := Lib.hid (OwnR_keep HO.out (fun k h1 _ => hk k (by have := HSZ.out; omega)))
  have HT2 : Hid (TkV w2 ⟨⟨A0', n0', c0'⟩, ⟨A1', n1', c1'⟩, ⟨A2', n2', c2'⟩, ⟨A3', n3', c3'⟩, ⟨Am', nm', cm'⟩⟩ x) := Lib.hid <| by
    obtain ⟨b0, b1, b2, b3⟩ := HBL.out
    simp only at b0 b1 b2 b3
    have q := HT.out
    have hs3 : w1.heap.size ≤ w2.heap.size := by omega
    exact ⟨⟨q.1.1.keep hs3 (fun a ha _ => hk _ (by have := (b0 a ha).1; omega)), q.1.2⟩, ⟨q.2.1.1.keep hs3 (fun a ha _ => hk _ (by have := (b1 a ha).1; omega)), q.2.1.2⟩, ⟨q.2.2.1.1.keep hs3 (fun a ha _ => hk _ (by have := (b2 a ha).1; omega)), q.2.2.1.2⟩, ⟨q.2.2.2.1.1.keep hs3 (fun a ha _ => hk _ (by have := (b3 a ha).1; omega)), q.2.2.2.1.2⟩, OwnR.row cM_len HO2.out, q.2.2.2.2.2⟩
  have HSZ2 := Lib.hid (show w0.heap.size ≤ B ∧ B ≤ w2.heap.size by have := HSZ.out; omega)
  rw [← hw2]
  clear hw2 hk hs2 h0 h1 h2 h3 h4 f0 f1 f2 f3 f4 HH1 HZ1 HE1 HO HT HSZ
  obtain ⟨w4, rfl⟩ : ∃ q, q = w2 := ⟨_, rfl⟩
  have HH4 := HH2; have HZ4 := HZ2; have HT4 := HT2; have HO4 := HO2; have HE4 := HE2
  have HB4 := Lib.hid HSZ2.out.2
  clear HH2 HZ2 HT2 HO2 HE2
  have HLM := Lib.hid HT4.out.2.2.2.2.1.1
  simp only at HLM
  have hl6 : nm' ≤ 1000000 := by rw [← HLM.out]; exact HL32.out
  by_cases hi0 : i < 0
  · have HAT : Hid (dropT x i = (x, 9)) := Lib.hid (by rw [dropT, if_neg (by omega)])
    have h0 := HH4.out.cell 0; have h1 := HH4.out.cell 1; have h2 := HH4.out.cell 2; have h3 := HH4.out.cell 3; have h4 := HH4.out.cell 4
    have z0 := HZ4.out.cell 0; have z1 := HZ4.out.cell 1; have z2 := HZ4.out.cell 2; have z3 := HZ4.out.cell 3; have z4 := HZ4.out.cell 4
    have y0 := HZ4.out.frozen 0; have y1 := HZ4.out.frozen 1; have y2 := HZ4.out.frozen 2; have y3 := HZ4.out.frozen 3; have y4 := HZ4.out.frozen 4
    simp only [List.getElem?_toArray, List.getElem?_cons_zero, List.getElem?_cons_succ] at h0 h1 h2 h3 h4 z0 z1 z2 z3 z4

    go_wp2_with fail
    have hbk := (((((HZ4.out.set_ 0 (.slice A0' n0' c0')).set_ 1 (.slice A1' n1' c1')).set_ 2 (.slice A2' n2' c2')).set_ 3 (.slice A3' n3' c3')).set_ 4 (.slice Am' nm' cm'))
    refine bodyPost_ret (v := .tuple #[.agg (Tv.cells ⟨⟨A0', n0', c0'⟩, ⟨A1', n1', c1'⟩, ⟨A2', n2', c2'⟩, ⟨A3', n3', c3'⟩, ⟨Am', nm', cm'⟩⟩), .int .i64 9]) (results_cell2 Try.results24 _ _ (hb + 1) 54 _ (0, 0) _ rfl hbk _ rfl Try.underlying54 rfl (by kernel_rfl)) rfl ?_
    clear hbk h0 h1 h2 h3 h4 z0 z1 z2 z3 z4 y0 y1 y2 y3 y4
    have hbb := hhb.out
    have hrw : w.heap.size ≤ hb + 1 := by omega
    have hEE := ext_set (ext_set (ext_set (ext_set (ext_set HE4.out (p := ⟨hb + 1, 0, none⟩) hrw (.slice A0' n0' c0')) (p := ⟨hb + 1, 1, none⟩) hrw (.slice A1' n1' c1')) (p := ⟨hb + 1, 2, none⟩) hrw (.slice A2' n2' c2')) (p := ⟨hb + 1, 3, none⟩) hrw (.slice A3' n3' c3')) (p := ⟨hb + 1, 4, none⟩) hrw (.slice Am' nm' cm')
    obtain ⟨hs, hk⟩ := five_off w4 (hb + 1) (.slice A0' n0' c0') (.slice A1' n1' c1') (.slice A2' n2' c2') (.slice A3' n3' c3') (.slice Am' nm' cm')
    generalize (((((w4.setCell ⟨hb + 1, 0, none⟩ (.slice A0' n0' c0')).setCell ⟨hb + 1, 1, none⟩ (.slice A1' n1' c1')).setCell ⟨hb + 1, 2, none⟩ (.slice A2' n2' c2')).setCell ⟨hb + 1, 3, none⟩ (.slice A3' n3' c3')).setCell ⟨hb + 1, 4, none⟩ (.slice Am' nm' cm')) = W at *
    obtain ⟨b0, b1, b2, b3⟩ := HBL.out
    simp only at b0 b1 b2 b3
    have q := HT4.out
    have kO := OwnR_keep HO4.out (fun k hk1 _ => hk k (by have := HSZ2.out; omega))
    have hTW : TkV W ⟨⟨A0', n0', c0'⟩, ⟨A1', n1', c1'⟩, ⟨A2', n2', c2'⟩, ⟨A3', n3', c3'⟩, ⟨Am', nm', cm'⟩⟩ x := ⟨⟨q.1.1.keep hs (fun a ha _ => hk _ (by have := (b0 a ha).1; omega)), q.1.2⟩, ⟨q.2.1.1.keep hs (fun a ha _ => hk _ (by have := (b1 a ha).1; omega)), q.2.1.2⟩, ⟨q.2.2.1.1.keep hs (fun a ha _ => hk _ (by have := (b2 a ha).1; omega)), q.2.2.1.2⟩, ⟨q.2.2.2.1.1.keep hs (fun a ha _ => hk _ (by have := (b3 a ha).1; omega)), q.2.2.2.1.2⟩, OwnR.row cM_len kO, q.2.2.2.2.2⟩
    refine ⟨hEE, _, by rw [HAT.out], ?_⟩
    rw [HAT.out]; exact hTW
  obtain ⟨k, rfl⟩ : ∃ k : Nat, i = (k : Int) := ⟨i.toNat, by omega⟩
  by_cases hik : k < nm'
  · have hik' : ¬ (nm' : Int) ≤ (k : Int) := by omega
    have HAT : Hid (dropT x (k : Int) = (⟨x.c0, x.c1, x.c2, x.c3, x.marks.take k ++ x.marks.drop (k + 1)⟩, 0)) := Lib.hid (by rw [dropT, if_pos (by rw [HLM.out]; omega)]; rfl)
    obtain ⟨g9, hg9⟩ : ∃ g, Am' = some ⟨g, 0, none⟩ := by
      have ho := HO4.out
      rcases ho.2 with ⟨h, _⟩ | ⟨g, cap, cur, h1, h2, h3, _⟩
      · obtain ⟨_, e2, _⟩ := Value.slice.inj h; omega
      · obtain ⟨e1, _, _⟩ := Value.slice.inj h1
        exact ⟨g, e1⟩
    subst hg9
    have HIN := Lib.hid (delete_one B g9 nm' cm' k x.marks w4 HO4.out hl6 HLM.out hik)
    obtain ⟨ls, hls⟩ : ∃ q, q = x.marks.take k ++ x.marks.drop (k + 1) := ⟨_, rfl⟩
    have HMS : Hid (∀ q ∈ ls, q.name.size ≤ 9223372036854775807) := Lib.hid (fun q hq => HT4.out.2.2.2.2.2.2.2.2 q (by
      rw [hls] at hq
      rcases List.mem_append.1 hq with hq | hq
      · exact List.mem_of_mem_take hq
      · exact List.mem_of_mem_drop hq))
    rw [← hls] at HIN HAT
    clear hls
    have HH5 := HH4; have HZ5 := HZ4; have HT5 := HT4; have HO5 := HO4; have HE5 := HE4; have HB5 := HB4
    have HEA := Lib.hid (Ext.rfl' w4)
    obtain ⟨w5, rfl⟩ : ∃ q, q = w4 := ⟨_, rfl⟩
    have h4 := HH5.out.cell 4
    simp only [List.getElem?_toArray, List.getElem?_cons_zero, List.getElem?_cons_succ] at h4
    go_wp2_with fail
    refine (HIN.out).mono ?_
    rintro e w6 ⟨v', rfl, hO6, hG6⟩
    obtain ⟨A9, c9, hv, hl1, hl2, hl3, hl4⟩ := hO6.shape
    subst hv
    have hob : ∀ k, (Value.slice (some ⟨g9, 0, none⟩) nm' cm').ownBlock = some k → B ≤ k := fun k e => (World.ownsRow.lt HO5.out k e).1
    have hkeep : ∀ k, k < B → w6.heap[k]? = w5.heap[k]? := fun k hk => (hG6.block k (Nat.lt_of_lt_of_le hk (Nat.le_trans HB5.out HEA.out.size)) (fun e => by have := hob k e.symm; omega)).trans (HEA.out.block k (Nat.lt_of_lt_of_le hk HB5.out))
    have hBB := HSZ2.out.1
    have HE6 := Lib.hid (ext_grown (ext_trans HE5.out HEA.out) hG6 (fun q e => by have := hob q e; have := hhb.out; omega))
    have HH6 : Hid (Blk w6 hb 54 #[.slice A0' n0' c0', .slice A1' n1' c1', .slice A2' n2' c2', .slice A3' n3' c3', .slice (some ⟨g9, 0, none⟩) nm' cm']) := Lib.hid ((hkeep _ (by omega)).trans HH5.out)
    have HZ6 : Hid (Blk w6 (hb + 1) 54 #[.slice none 0 0, .slice none 0 0, .slice none 0 0, .slice none 0 0, .slice none 0 0]) := Lib.hid ((hkeep _ (by omega)).trans HZ5.out)
    have hs56 : w5.heap.size ≤ w6.heap.size := Nat.le_trans HEA.out.size hG6.size
    have HC6 : Hid (PtsV w6 A0' n0' c0' x.c0 ∧ PtsV w6 A1' n1' c1' x.c1 ∧ PtsV w6 A2' n2' c2' x.c2 ∧ PtsV w6 A3' n3' c3' x.c3) := Lib.hid <| by
      obtain ⟨b0, b1, b2, b3⟩ := HBL.out
      simp only at b0 b1 b2 b3
      have q := HT5.out
      exact ⟨⟨q.1.1.keep hs56 (fun a ha _ => hkeep _ (b0 a ha).2), q.1.2⟩, ⟨q.2.1.1.keep hs56 (fun a ha _ => hkeep _ (b1 a ha).2), q.2.1.2⟩, ⟨q.2.2.1.1.keep hs56 (fun a ha _ => hkeep _ (b2 a ha).2), q.2.2.1.2⟩, ⟨q.2.2.2.1.1.keep hs56 (fun a ha _ => hkeep _ (b3 a ha).2), q.2.2.2.1.2⟩⟩
    have HO6 := Lib.hid hO6
    have HL6 : Hid (ls.length ≤ c9 ∧ c9 ≤ 9223372036854775807 ∧ (A9 = none → ls.length = 0 ∧ c9 = 0)) := Lib.hid ⟨hl1, hl2, hl3⟩
    have HNM := HMS
    clear hob hkeep hG6 hO6 hl1 hl2 hl3 hl4 h4 HH5 HZ5 HT5 HE5 HIN HEA HO5 HH4 HZ4 HT4 HO4 HE4
    generalize hnx : ls.length = nx at *
    replace hnx := Lib.hid hnx
    have h0 := HH6.out.cell 0; have h1 := HH6.out.cell 1; have h2 := HH6.out.cell 2; have h3 := HH6.out.cell 3; have h4 := HH6.out.cell 4
    have f4 := HH6.out.frozen 4
    have z0 := HZ6.out.cell 0; have z1 := HZ6.out.cell 1; have z2 := HZ6.out.cell 2; have z3 := HZ6.out.cell 3; have z4 := HZ6.out.cell 4
    have y0 := HZ6.out.frozen 0; have y1 := HZ6.out.frozen 1; have y2 := HZ6.out.frozen 2; have y3 := HZ6.out.frozen 3; have y4 := HZ6.out.frozen 4
    simp only [List.getElem?_toArray, List.getElem?_cons_zero, List.getElem?_cons_succ] at h0 h1 h2 h3 h4 z0 z1 z2 z3 z4
    have hne3 : hb ≠ hb + 1 := by omega
    go_wp2_with fail
    have hbk := ((((((HZ6.out.far (p := ⟨hb, 4, none⟩) hne2 (.slice A9 nx c9)).set_ 0 (.slice A0' n0' c0')).set_ 1 (.slice A1' n1' c1')).set_ 2 (.slice A2' n2' c2')).set_ 3 (.slice A3' n3' c3')).set_ 4 (.slice A9 nx c9))
    refine bodyPost_ret (v := .tuple #[.agg (Tv.cells ⟨⟨A0', n0', c0'⟩, ⟨A1', n1', c1'⟩, ⟨A2', n2', c2'⟩, ⟨A3', n3', c3'⟩, ⟨A9, nx, c9⟩⟩), .int .i64 0]) (results_cell2 Try.results24 _ _ (hb + 1) 54 _ (0, 0) _ rfl hbk _ rfl Try.underlying54 rfl (by kernel_rfl)) rfl ?_
    clear hbk h0 h1 h2 h3 h4 f4 z0 z1 z2 z3 z4 y0 y1 y2 y3 y4
    have hrw : w.heap.size ≤ hb + 1 := by omega
    have hEE := ext_set (ext_set (ext_set (ext_set (ext_set (ext_set HE6.out (p := ⟨hb, 4, none⟩) hwhb (.slice A9 nx c9)) (p := ⟨hb + 1, 0, none⟩) hrw (.slice A0' n0' c0')) (p := ⟨hb + 1, 1, none⟩) hrw (.slice A1' n1' c1')) (p := ⟨hb + 1, 2, none⟩) hrw (.slice A2' n2' c2')) (p := ⟨hb + 1, 3, none⟩) hrw (.slice A3' n3' c3')) (p := ⟨hb + 1, 4, none⟩) hrw (.slice A9 nx c9)
    refine ⟨hEE, _, by rw [HAT.out], ?_⟩
    have hk : ∀ k, k ≠ hb → k ≠ hb + 1 → ((((((w6.setCell ⟨hb, 4, none⟩ (.slice A9 nx c9)).setCell ⟨hb + 1, 0, none⟩ (.slice A0' n0' c0')).setCell ⟨hb + 1, 1, none⟩ (.slice A1' n1' c1')).setCell ⟨hb + 1, 2, none⟩ (.slice A2' n2' c2')).setCell ⟨hb + 1, 3, none⟩ (.slice A3' n3' c3')).setCell ⟨hb + 1, 4, none⟩ (.slice A9 nx c9)).heap[k]? = w6.heap[k]? := fun k h1 h2 => by
      rw [Below.heap_setCell _ ⟨hb + 1, 4, none⟩ _ _ h2, Below.heap_setCell _ ⟨hb + 1, 3, none⟩ _ _ h2, Below.heap_setCell _ ⟨hb + 1, 2, none⟩ _ _ h2, Below.heap_setCell _ ⟨hb + 1, 1, none⟩ _ _ h2, Below.heap_setCell _ ⟨hb + 1, 0, none⟩ _ _ h2, Below.heap_setCell _ ⟨hb, 4, none⟩ _ _ h1]
    have hs : w6.heap.size ≤ ((((((w6.setCell ⟨hb, 4, none⟩ (.slice A9 nx c9)).setCell ⟨hb + 1, 0, none⟩ (.slice A0' n0' c0')).setCell ⟨hb + 1, 1, none⟩ (.slice A1' n1' c1')).setCell ⟨hb + 1, 2, none⟩ (.slice A2' n2' c2')).setCell ⟨hb + 1, 3, none⟩ (.slice A3' n3' c3')).setCell ⟨hb + 1, 4, none⟩ (.slice A9 nx c9)).heap.size := by simp [World.setCell]
    generalize ((((((w6.setCell ⟨hb, 4, none⟩ (.slice A9 nx c9)).setCell ⟨hb + 1, 0, none⟩ (.slice A0' n0' c0')).setCell ⟨hb + 1, 1, none⟩ (.slice A1' n1' c1')).setCell ⟨hb + 1, 2, none⟩ (.slice A2' n2' c2')).setCell ⟨hb + 1, 3, none⟩ (.slice A3' n3' c3')).setCell ⟨hb + 1, 4, none⟩ (.slice A9 nx c9)) = W at *
    rw [HAT.out]
    obtain ⟨b0, b1, b2, b3⟩ := HBL.out
    simp only at b0 b1 b2 b3
    obtain ⟨q0, q1, q2, q3⟩ := HC6.out
    have kO := OwnR_keep HO6.out (fun k hk1 _ => hk k (by omega) (by omega))
    exact ⟨⟨q0.1.keep hs (fun a ha _ => hk _ (by have := (b0 a ha).1; omega) (by have := (b0 a ha).1; omega)), q0.2⟩, ⟨q1.1.keep hs (fun a ha _ => hk _ (by have := (b1 a ha).1; omega) (by have := (b1 a ha).1; omega)), q1.2⟩, ⟨q2.1.keep hs (fun a ha _ => hk _ (by have := (b2 a ha).1; omega) (by have := (b2 a ha).1; omega)), q2.2⟩, ⟨q3.1.keep hs (fun a ha _ => hk _ (by have := (b3 a ha).1; omega) (by have := (b3 a ha).1; omega)), q3.2⟩, OwnR.row cM_len kO, HL6.out.1, HL6.out.2.1, HL6.out.2.2, HNM.out⟩
  · have hik' : (nm' : Int) ≤ (k : Int) := by omega
    have HAT : Hid (dropT x (k : Int) = (x, 9)) := Lib.hid (by rw [dropT, if_neg (by rw [HLM.out]; omega)])
    have h0 := HH4.out.cell 0; have h1 := HH4.out.cell 1; have h2 := HH4.out.cell 2; have h3 := HH4.out.cell 3; have h4 := HH4.out.cell 4
    have z0 := HZ4.out.cell 0; have z1 := HZ4.out.cell 1; have z2 := HZ4.out.cell 2; have z3 := HZ4.out.cell 3; have z4 := HZ4.out.cell 4
    have y0 := HZ4.out.frozen 0; have y1 := HZ4.out.frozen 1; have y2 := HZ4.out.frozen 2; have y3 := HZ4.out.frozen 3; have y4 := HZ4.out.frozen 4
    simp only [List.getElem?_toArray, List.getElem?_cons_zero, List.getElem?_cons_succ] at h0 h1 h2 h3 h4 z0 z1 z2 z3 z4

    go_wp2_with fail
    have hbk := (((((HZ4.out.set_ 0 (.slice A0' n0' c0')).set_ 1 (.slice A1' n1' c1')).set_ 2 (.slice A2' n2' c2')).set_ 3 (.slice A3' n3' c3')).set_ 4 (.slice Am' nm' cm'))
    refine bodyPost_ret (v := .tuple #[.agg (Tv.cells ⟨⟨A0', n0', c0'⟩, ⟨A1', n1', c1'⟩, ⟨A2', n2', c2'⟩, ⟨A3', n3', c3'⟩, ⟨Am', nm', cm'⟩⟩), .int .i64 9]) (results_cell2 Try.results24 _ _ (hb + 1) 54 _ (0, 0) _ rfl hbk _ rfl Try.underlying54 rfl (by kernel_rfl)) rfl ?_
    clear hbk h0 h1 h2 h3 h4 z0 z1 z2 z3 z4 y0 y1 y2 y3 y4
    have hbb := hhb.out
    have hrw : w.heap.size ≤ hb + 1 := by omega
    have hEE := ext_set (ext_set (ext_set (ext_set (ext_set HE4.out (p := ⟨hb + 1, 0, none⟩) hrw (.slice A0' n0' c0')) (p := ⟨hb + 1, 1, none⟩) hrw (.slice A1' n1' c1')) (p := ⟨hb + 1, 2, none⟩) hrw (.slice A2' n2' c2')) (p := ⟨hb + 1, 3, none⟩) hrw (.slice A3' n3' c3')) (p := ⟨hb + 1, 4, none⟩) hrw (.slice Am' nm' cm')
    obtain ⟨hs, hk⟩ := five_off w4 (hb + 1) (.slice A0' n0' c0') (.slice A1' n1' c1') (.slice A2' n2' c2') (.slice A3' n3' c3') (.slice Am' nm' cm')
    generalize (((((w4.setCell ⟨hb + 1, 0, none⟩ (.slice A0' n0' c0')).setCell ⟨hb + 1, 1, none⟩ (.slice A1' n1' c1')).setCell ⟨hb + 1, 2, none⟩ (.slice A2' n2' c2')).setCell ⟨hb + 1, 3, none⟩ (.slice A3' n3' c3')).setCell ⟨hb + 1, 4, none⟩ (.slice Am' nm' cm')) = W at *
    obtain ⟨b0, b1, b2, b3⟩ := HBL.out
    simp only at b0 b1 b2 b3
    have q := HT4.out
    have kO := OwnR_keep HO4.out (fun k hk1 _ => hk k (by have := HSZ2.out; omega))
    have hTW : TkV W ⟨⟨A0', n0', c0'⟩, ⟨A1', n1', c1'⟩, ⟨A2', n2', c2'⟩, ⟨A3', n3', c3'⟩, ⟨Am', nm', cm'⟩⟩ x := ⟨⟨q.1.1.keep hs (fun a ha _ => hk _ (by have := (b0 a ha).1; omega)), q.1.2⟩, ⟨q.2.1.1.keep hs (fun a ha _ => hk _ (by have := (b1 a ha).1; omega)), q.2.1.2⟩, ⟨q.2.2.1.1.keep hs (fun a ha _ => hk _ (by have := (b2 a ha).1; omega)), q.2.2.1.2⟩, ⟨q.2.2.2.1.1.keep hs (fun a ha _ => hk _ (by have := (b3 a ha).1; omega)), q.2.2.2.1.2⟩, OwnR.row cM_len kO, q.2.2.2.2.2⟩
    refine ⟨hEE, _, by rw [HAT.out], ?_⟩
    rw [HAT.out]; exact hTW
end Go.Proofs.Ytlldmpcamdginaa.Trk
