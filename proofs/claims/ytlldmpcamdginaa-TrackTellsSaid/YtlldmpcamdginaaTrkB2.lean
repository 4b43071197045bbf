/- Tracks: the document's Drop, walked. -/
import Derived.Test.YtlldmpcamdginaaTrkB1
namespace Go.Proofs.Ytlldmpcamdginaa.Trk
open Go.ChangeShapes Go.WideShapes Go.ChangeAt Go.RowKit
open Go.Proofs.Ytlldmpcamdginaa.Rec
open Go.Proofs.Ytlldmpcamdginaa.Log (results_cell2 OwnR_keep hmxL)
set_option linter.unusedVariables false
theorem run_recs {α : Type} {P : Program} {w : World} {base : Nat} (t e ty : TypeId) (k bytes : Nat) (z : Value) (f : α → List Value)
    (ht : P.underlying t = some (.slice e)) (hi : (P.info? e).map (fun i => (i.zero, i.size, i.bytes)) = some (some z, k, bytes)) (hzs : z.cells.size = k) (hby : bytes ≤ 1000) (v vx : Value) (xs ys : List α) (hO : OwnR base w e k f v xs) (hbase : base ≤ w.heap.size)
    (hsrc : Src P k t vx ys.length (ys.flatMap f) w) (hb : xs.length + ys.length ≤ 100000000) : ∃ v' w', (Builtin.append_ #[t, t] ty #[v, vx]).run P w = .ok v' w' ∧ OwnR base w' e k f v' (xs ++ ys) ∧ w.grownBy w' v.ownBlock := by
  obtain ⟨i0, hi0, hq⟩ := Option.map_eq_some_iff.1 hi
  simp only [Prod.mk.injEq] at hq
  obtain ⟨hz0, hz1, hz2⟩ := hq
  have hm : (xs.length + ys.length) * bytes ≤ 140737488355328 := by
    calc (xs.length + ys.length) * bytes ≤ (xs.length + ys.length) * 1000 := Nat.mul_le_mul_left _ hby
      _ ≤ 140737488355328 := by omega
  obtain ⟨v', w', r1, r2, r3⟩ := run_app_own (P := P) t t ty e i0 z k bytes ht hi0 hz0 hz1 hz2 hzs base v xs.length (xs.flatMap f) hO vx ys.length (ys.flatMap f) hsrc (by unfold maxLen; omega) hm hbase
  refine ⟨v', w', r1, ?_, r3⟩
  unfold OwnR
  rw [List.length_append, List.flatMap_append]
  exact r2
theorem row_take {α : Type} {w : World} {b o n k : Nat} {f : α → List Value} {xs : List α} (h : RowR w (some ⟨b, o, none⟩) n k f xs) (j : Nat) (hj : j ≤ n) : RowR w (some ⟨b, o, none⟩) j k f (xs.take j) := by
  refine ⟨by rw [List.length_take, h.1]; omega, fun h0 => ?_⟩
  obtain ⟨b', o', e, hb, hc⟩ := h.2 (by omega)
  cases e
  refine ⟨b, o, rfl, hb, fun l hl i hi => ?_⟩
  rw [hc l (by rw [List.length_take] at hl; omega) i hi, List.getElem_take]
theorem row_drop {α : Type} {w : World} {b o n k : Nat} {f : α → List Value} {xs : List α} (h : RowR w (some ⟨b, o, none⟩) n k f xs) (j : Nat) (hj : j ≤ n) : RowR w (some ⟨b, o + j * k, none⟩) (n - j) k f (xs.drop j) := by
  refine ⟨by rw [List.length_drop, h.1], fun h0 => ?_⟩
  obtain ⟨b', o', e, hb, hc⟩ := h.2 (by omega)
  cases e
  refine ⟨b, o + j * k, rfl, hb, fun l hl i hi => ?_⟩
  have hl2 : j + l < xs.length := by rw [List.length_drop] at hl; omega
  rw [show o + j * k + l * k + i = o + (j + l) * k + i by rw [Nat.add_mul]; omega, hc (j + l) hl2 i hi, List.getElem_drop]
set_option maxHeartbeats 16000000 in
set_option maxRecDepth 100000 in
theorem rdrop_tr (t : Tv) (x : Tk) (i : Int) (w : World) (hB : RfV w t x) (hl : x.marks.length ≤ 1000000) (hi1 : -9223372036854775808 ≤ i) (hi2 : i ≤ 9223372036854775807) :
    Calls Try.prog 25 #[.agg t.cells, .int .i64 i] w (RGPost w (dropT x i)) := by
  have hnm := hB.2.2.2.2.1.1
  have hnc := hB.2.2.2.2.2.1
  have hcm := hB.2.2.2.2.2.2.1
  obtain ⟨nm, hnm2⟩ : ∃ q, q = t.sm.n := ⟨_, rfl⟩
  rw [← hnm2] at hnm hnc
  have HNM := Lib.hid hnm2; have HLM := Lib.hid hnm
  have hnm6 : nm ≤ 1000000 := by omega
  have HBW := Lib.hid hB
  have hcs : t.cells = #[.slice t.s0.A t.s0.n t.s0.c, .slice t.s1.A t.s1.n t.s1.c, .slice t.s2.A t.s2.n t.s2.c, .slice t.s3.A t.s3.n t.s3.c, .slice t.sm.A nm t.sm.c] := by rw [hnm2]; rfl
  have z1 : (w.alloc (.cells t.cells 47)).heap.size = w.heap.size + 1 := World.size_alloc _ _
  have hZ0 := Blk.new (w.alloc (.cells t.cells 47)) 47 zeroT
  have hH0 := (Blk.new w 47 t.cells).alloc (.cells zeroT 47)
  have hE0 := ext_alloc (ext_alloc (Ext.rfl' w) (.cells t.cells 47)) (.cells zeroT 47)
  have hS0 : ((w.alloc (.cells t.cells 47)).alloc (.cells zeroT 47)).heap.size = w.heap.size + 1 + 1 := by rw [World.size_alloc, z1]
  rw [z1] at hZ0
  obtain ⟨w0, hw0⟩ : ∃ q, q = (w.alloc (.cells t.cells 47)).alloc (.cells zeroT 47) := ⟨_, rfl⟩
  rw [← hw0] at hZ0 hH0 hE0 hS0
  rw [hcs] at hw0 hH0 ⊢
  have HZ0 := Lib.hid hZ0; have HH0 := Lib.hid hH0; have HE0 := Lib.hid hE0; have HS0 := Lib.hid hS0
  clear hZ0 hH0 hE0 hS0 z1 hcs hnm2 hnm hB hl
  simp only [zeroT] at hw0
  have y4 : (nm : Int) ≤ (t.sm.c : Int) := by omega
  go_enter Try.func25, Try.ntmps25
  go_upto_region 1 with fail
  rw [← hw0]
  clear hw0
  obtain ⟨hb, hhb⟩ : ∃ q, q = w.heap.size := ⟨_, rfl⟩
  obtain ⟨rb, hrb⟩ : ∃ q, q = w.heap.size + 1 := ⟨_, rfl⟩
  rw [← hrb] at HZ0 HS0 ⊢
  rw [← hhb] at HH0 ⊢
  have HORD : Hid (w.heap.size ≤ hb ∧ hb < rb) := Lib.hid (by omega)
  clear hhb hrb
  have h4 := HH0.out.cell 4
  simp only [List.getElem?_toArray, List.getElem?_cons_zero, List.getElem?_cons_succ] at h4
  by_cases hi0 : i < 0
  · have HAT : Hid (dropT x i = (x, 9)) := Lib.hid (by rw [dropT, if_neg (by omega)])
    clear h4
    have c := fun i => HH0.out.cell i
    have f := fun i => HZ0.out.frozen i
    have f' := fun i => HZ0.out.cell i
    simp only [zeroT] at f'
    go_wp2_with fail
    have hbk := (((((HZ0.out.set_ 0 (.slice t.s0.A t.s0.n t.s0.c)).set_ 1 (.slice t.s1.A t.s1.n t.s1.c)).set_ 2 (.slice t.s2.A t.s2.n t.s2.c)).set_ 3 (.slice t.s3.A t.s3.n t.s3.c)).set_ 4 (.slice t.sm.A nm t.sm.c))
    refine bodyPost_ret (v := .tuple #[.agg #[.slice t.s0.A t.s0.n t.s0.c, .slice t.s1.A t.s1.n t.s1.c, .slice t.s2.A t.s2.n t.s2.c, .slice t.s3.A t.s3.n t.s3.c, .slice t.sm.A nm t.sm.c], .int .i64 9]) (results_cell2 Try.results25 _ _ rb 47 _ (0, 0) _ rfl hbk _ rfl Try.underlying47 rfl (by kernel_rfl)) rfl ?_
    have hwr : w.heap.size ≤ rb := by have := HORD.out; omega
    have hEE := ext_set (ext_set (ext_set (ext_set (ext_set HE0.out (p := ⟨rb, 0, none⟩) hwr (.slice t.s0.A t.s0.n t.s0.c)) (p := ⟨rb, 1, none⟩) hwr (.slice t.s1.A t.s1.n t.s1.c)) (p := ⟨rb, 2, none⟩) hwr (.slice t.s2.A t.s2.n t.s2.c)) (p := ⟨rb, 3, none⟩) hwr (.slice t.s3.A t.s3.n t.s3.c)) (p := ⟨rb, 4, none⟩) hwr (.slice t.sm.A nm t.sm.c)
    refine ⟨hEE, t, ?_, ?_⟩
    · rw [HAT.out]; unfold Tv.cells; rw [← HNM.out]
    · rw [HAT.out]; exact HBW.out.ext hEE
  obtain ⟨k, rfl⟩ : ∃ k : Nat, i = (k : Int) := ⟨i.toNat, by omega⟩
  by_cases hik : k < nm
  rotate_left
  · have hik' : (nm : Int) ≤ (k : Int) := by omega
    have HAT : Hid (dropT x (k : Int) = (x, 9)) := Lib.hid (by rw [dropT, if_neg (by rw [HLM.out]; omega)])
    clear h4
    have c := fun i => HH0.out.cell i
    have f := fun i => HZ0.out.frozen i
    have f' := fun i => HZ0.out.cell i
    simp only [zeroT] at f'
    go_wp2_with fail
    have hbk := (((((HZ0.out.set_ 0 (.slice t.s0.A t.s0.n t.s0.c)).set_ 1 (.slice t.s1.A t.s1.n t.s1.c)).set_ 2 (.slice t.s2.A t.s2.n t.s2.c)).set_ 3 (.slice t.s3.A t.s3.n t.s3.c)).set_ 4 (.slice t.sm.A nm t.sm.c))
    refine bodyPost_ret (v := .tuple #[.agg #[.slice t.s0.A t.s0.n t.s0.c, .slice t.s1.A t.s1.n t.s1.c, .slice t.s2.A t.s2.n t.s2.c, .slice t.s3.A t.s3.n t.s3.c, .slice t.sm.A nm t.sm.c], .int .i64 9]) (results_cell2 Try.results25 _ _ rb 47 _ (0, 0) _ rfl hbk _ rfl Try.underlying47 rfl (by kernel_rfl)) rfl ?_
    have hwr : w.heap.size ≤ rb := by have := HORD.out; omega
    have hEE := ext_set (ext_set (ext_set (ext_set (ext_set HE0.out (p := ⟨rb, 0, none⟩) hwr (.slice t.s0.A t.s0.n t.s0.c)) (p := ⟨rb, 1, none⟩) hwr (.slice t.s1.A t.s1.n t.s1.c)) (p := ⟨rb, 2, none⟩) hwr (.slice t.s2.A t.s2.n t.s2.c)) (p := ⟨rb, 3, none⟩) hwr (.slice t.s3.A t.s3.n t.s3.c)) (p := ⟨rb, 4, none⟩) hwr (.slice t.sm.A nm t.sm.c)
    refine ⟨hEE, t, ?_, ?_⟩
    · rw [HAT.out]; unfold Tv.cells; rw [← HNM.out]
    · rw [HAT.out]; exact HBW.out.ext hEE
  have hik' : ¬ (nm : Int) ≤ (k : Int) := by omega
  have HAT : Hid (dropT x (k : Int) = (⟨x.c0, x.c1, x.c2, x.c3, x.marks.take k ++ x.marks.drop (k + 1)⟩, 0)) := Lib.hid (by rw [dropT, if_pos (by rw [HLM.out]; omega)]; rfl)
  have hrow := HBW.out.2.2.2.2.1
  rw [← HNM.out] at hrow
  obtain ⟨b, o, hA, hbw, hc⟩ := hrow.2 (by omega)
  rw [hA] at hrow h4
  have HA := Lib.hid hA
  clear hc
  obtain ⟨Bi, hBi⟩ : ∃ q, q = w0.heap.size := ⟨_, rfl⟩
  have hed : Ext w w0.drew := ext_drew HE0.out
  have hs1 := src_row (P := Try.prog) (e' := 49) (c := t.sm.c) Try.underlying45 cM_len ((row_take hrow k (by omega)).ext hed) (fun x u hu => cM_one x u hu)
  have hl1 : (x.marks.take k).length = k := by rw [List.length_take, HLM.out]; omega
  rw [hl1] at hs1
  obtain ⟨v1, w1, hr1, hO1, hG1⟩ := run_recs (P := Try.prog) (w := w0.drew) (base := Bi) 45 49 45 2 24 _ cM Try.underlying45 infoRM rfl (by decide) (.slice none 0 0) (.slice (some ⟨b, o, none⟩) k t.sm.c) [] (x.marks.take k) (OwnR.nil _ _ _ _ _) (by rw [hBi]; exact Nat.le_refl _) (by rw [hl1]; exact hs1) (by rw [hl1]; simp; omega)
  have hx1 : Ext w w1 := ext_grown hed hG1 (fun q e => by cases e)
  have hk1 : ∀ q, q < Bi → w1.heap[q]? = w0.heap[q]? := fun q hq => hG1.block q (by rw [hBi] at hq; exact hq) (by intro e; cases e)
  have hbs1 : Bi ≤ w1.heap.size := by rw [hBi]; exact hG1.size
  have hrd := (row_drop hrow (k + 1) (by omega)).ext hx1
  have hl2 : (x.marks.drop (k + 1)).length = nm - (k + 1) := by rw [List.length_drop, HLM.out]
  have hsrc2 : ∀ cc, Src Try.prog 2 45 (.slice (some ⟨b, o + (k + 1) * 2, none⟩) (nm - (k + 1)) cc) (x.marks.drop (k + 1)).length ((x.marks.drop (k + 1)).flatMap cM) w1 := fun cc => src_row (P := Try.prog) (e' := 49) (c := cc) Try.underlying45 cM_len hrd (fun x u hu => cM_one x u hu)
  have hsrc3 : nm = k + 1 → Src Try.prog 2 45 (.slice (some ⟨b, o, none⟩) 0 0) (x.marks.drop (k + 1)).length ((x.marks.drop (k + 1)).flatMap cM) w1 := fun e => by
    have h0 : x.marks.drop (k + 1) = [] := List.drop_eq_nil_of_le (by rw [HLM.out]; omega)
    rw [h0]
    exact Src.ofSlice _ Try.underlying45 _ _ _ [] rfl (fun j u hj => by simp at hj) (fun u hu => by cases hu)
  obtain ⟨vx, hvx, hsrc⟩ : ∃ vx, ((t.sm.c = k + 1 ∧ vx = .slice (some ⟨b, o, none⟩) 0 0) ∨ (¬ t.sm.c = k + 1 ∧ vx = .slice (some ⟨b, o + (k + 1) * 2, none⟩) (nm - (k + 1)) (t.sm.c - (k + 1)))) ∧ Src Try.prog 2 45 vx (x.marks.drop (k + 1)).length ((x.marks.drop (k + 1)).flatMap cM) w1 := by
    by_cases hc : t.sm.c = k + 1
    · exact ⟨_, .inl ⟨hc, rfl⟩, hsrc3 (by omega)⟩
    · exact ⟨_, .inr ⟨hc, rfl⟩, hsrc2 _⟩
  obtain ⟨v2, w2, hr2, hO2, hG2⟩ := run_recs (P := Try.prog) (w := w1) (base := Bi) 45 49 45 2 24 _ cM Try.underlying45 infoRM rfl (by decide) v1 vx ([] ++ x.marks.take k) (x.marks.drop (k + 1)) hO1 hbs1 hsrc (by rw [List.nil_append, hl1, hl2]; omega)
  have hob : ∀ q, v1.ownBlock = some q → Bi ≤ q := fun q e => (World.ownsRow.lt hO1 q e).1
  have hx2 : Ext w w2 := ext_grown hx1 hG2 (fun q e => by have := hob q e; have := HORD.out; have := HS0.out; omega)
  have hk2 : ∀ q, q < Bi → w2.heap[q]? = w0.heap[q]? := fun q hq => (hG2.block q (Nat.lt_of_lt_of_le hq hbs1) (fun e => by have := hob q e.symm; omega)).trans (hk1 q hq)
  have hrB : rb < Bi := by have := HS0.out; omega
  have hhB : hb < Bi := by have := HORD.out; omega
  have h41 : w1.cell? ⟨hb, 4, none⟩ = some (.slice (some ⟨b, o, none⟩) nm t.sm.c) := (World.cell?_of_block (a := ⟨hb, 4, none⟩) (hk1 hb hhB)).trans h4
  have HT2 : Hid (Blk w2 hb 47 #[.slice t.s0.A t.s0.n t.s0.c, .slice t.s1.A t.s1.n t.s1.c, .slice t.s2.A t.s2.n t.s2.c, .slice t.s3.A t.s3.n t.s3.c, .slice t.sm.A nm t.sm.c]) := Lib.hid ((hk2 hb hhB).trans HH0.out)
  have HZ2 : Hid (Blk w2 rb 47 zeroT) := Lib.hid ((hk2 rb hrB).trans HZ0.out)
  have h42 : w2.cell? ⟨hb, 4, none⟩ = some (.slice (some ⟨b, o, none⟩) nm t.sm.c) := (World.cell?_of_block (a := ⟨hb, 4, none⟩) (hk2 hb hhB)).trans h4
  have f42 : w2.frozen? ⟨hb, 4, none⟩ = false := HT2.out.frozen 4
  obtain ⟨A9, c9, hv, q1, q2, q3, q4⟩ := hO2.shape
  obtain ⟨n9, hn9⟩ : ∃ q, q = ([] ++ x.marks.take k ++ x.marks.drop (k + 1)).length := ⟨_, rfl⟩
  rw [← hn9] at hv q1 q3
  subst hv
  have hne2 : rb ≠ hb := by have := HORD.out; omega
  have HFIN : Hid (RGPost w (dropT x (k : Int)) (.returned (.tuple #[.agg #[.slice t.s0.A t.s0.n t.s0.c, .slice t.s1.A t.s1.n t.s1.c, .slice t.s2.A t.s2.n t.s2.c, .slice t.s3.A t.s3.n t.s3.c, .slice A9 n9 c9], .int .i64 0])) ((((((w2.setCell ⟨hb, 4, none⟩ (.slice A9 n9 c9)).setCell ⟨rb, 0, none⟩ (.slice t.s0.A t.s0.n t.s0.c)).setCell ⟨rb, 1, none⟩ (.slice t.s1.A t.s1.n t.s1.c)).setCell ⟨rb, 2, none⟩ (.slice t.s2.A t.s2.n t.s2.c)).setCell ⟨rb, 3, none⟩ (.slice t.s3.A t.s3.n t.s3.c)).setCell ⟨rb, 4, none⟩ (.slice A9 n9 c9))) := Lib.hid (by
    have hwr : w.heap.size ≤ rb := by have := HORD.out; omega
    have hwh : w.heap.size ≤ hb := HORD.out.1
    have hEE := ext_set (ext_set (ext_set (ext_set (ext_set (ext_set hx2 (p := ⟨hb, 4, none⟩) hwh (.slice A9 n9 c9)) (p := ⟨rb, 0, none⟩) hwr (.slice t.s0.A t.s0.n t.s0.c)) (p := ⟨rb, 1, none⟩) hwr (.slice t.s1.A t.s1.n t.s1.c)) (p := ⟨rb, 2, none⟩) hwr (.slice t.s2.A t.s2.n t.s2.c)) (p := ⟨rb, 3, none⟩) hwr (.slice t.s3.A t.s3.n t.s3.c)) (p := ⟨rb, 4, none⟩) hwr (.slice A9 n9 c9)
    obtain ⟨hs5, hk5⟩ := five_off (w2.setCell ⟨hb, 4, none⟩ (.slice A9 n9 c9)) rb (.slice t.s0.A t.s0.n t.s0.c) (.slice t.s1.A t.s1.n t.s1.c) (.slice t.s2.A t.s2.n t.s2.c) (.slice t.s3.A t.s3.n t.s3.c) (.slice A9 n9 c9)
    have hk6 : ∀ q, q ≠ hb → (w2.setCell ⟨hb, 4, none⟩ (.slice A9 n9 c9)).heap[q]? = w2.heap[q]? := fun q hq => Below.heap_setCell _ ⟨hb, 4, none⟩ _ _ hq
    have kO := OwnR_keep hO2 (fun q hq1 _ => (hk5 q (by omega)).trans (hk6 q (by omega)))
    have hcm2 := HBW.out.ext hEE
    refine ⟨hEE, ⟨t.s0, t.s1, t.s2, t.s3, ⟨A9, n9, c9⟩⟩, ?_, ?_⟩
    · rw [HAT.out]; rfl
    · rw [HAT.out]
      have hrw := OwnR.row cM_len kO
      rw [List.nil_append] at hrw
      exact ⟨hcm2.1, hcm2.2.1, hcm2.2.2.1, hcm2.2.2.2.1, hrw, q1, q2, q3, fun q hq => HBW.out.2.2.2.2.2.2.2.2 q (by
        rcases List.mem_append.1 hq with hq | hq
        · exact List.mem_of_mem_take hq
        · exact List.mem_of_mem_drop hq)⟩)
  have HR1 := Lib.hid hr1; have HR2 := Lib.hid hr2; have HVX := Lib.hid hvx
  clear hr1 hr2 hO1 hO2 hG1 hG2 hx1 hx2 hk1 hk2 hbs1 hrd hl1 hl2 hsrc2 hsrc3 hsrc hob hrB hhB q1 q2 q3 q4 hn9 hs1 hed hrow hbw hA hvx hBi
  have u1 : IntKind.i64.wrap ((k : Int) + 1) = (k : Int) + 1 := IntWalk.i64_in _ (by omega)
  have u2 : (0 : Int) ≤ (k : Int) + 1 := by omega
  have u3 : (k : Int) + 1 ≤ (nm : Int) := by omega
  have u4 : ((k : Int) + 1).toNat = k + 1 := by omega
  have u5 : (0 : Int) ≤ (k : Int) := by omega
  have u6 : (k : Int) ≤ (t.sm.c : Int) := by omega
  go_upto_region 3 with fail
  rcases HVX.out with ⟨hcc, rfl⟩ | ⟨hcc, rfl⟩
  · have HCC := Lib.hid hcc
    have hz : nm - (k + 1) = 0 := by omega
    rw [hcc] at HR1
    have u7 : (k : Int) ≤ (k : Int) + 1 := by omega
    go_region_law (first | refine step_append_run rfl (.const (.slice none 0 0)) (.tmp 19) 45 45 rfl (.slice none 0 0) (.slice (some ⟨b, o, none⟩) k (k + 1)) v1 w1 (by kernel_rfl) (by kernel_rfl) HR1.out ?_ | refine step_append_run rfl (.tmp 20) (.tmp 25) 45 45 rfl v1 (.slice (some ⟨b, o, none⟩) 0 0) (.slice A9 n9 c9) w2 (by kernel_rfl) (by kernel_rfl) HR2.out ?_)
    all_goals
      have c0 := HT2.out.cell 0; have c1 := HT2.out.cell 1; have c2 := HT2.out.cell 2; have c3 := HT2.out.cell 3
      simp only [List.getElem?_toArray, List.getElem?_cons_zero, List.getElem?_cons_succ] at c0 c1 c2 c3
      have f := fun i => HZ2.out.frozen i
      have f' := fun i => HZ2.out.cell i
      simp only [zeroT] at f'
      go_wp2_with fail
      have hbk := ((((((HZ2.out.far (p := ⟨hb, 4, none⟩) hne2 (.slice A9 n9 c9)).set_ 0 (.slice t.s0.A t.s0.n t.s0.c)).set_ 1 (.slice t.s1.A t.s1.n t.s1.c)).set_ 2 (.slice t.s2.A t.s2.n t.s2.c)).set_ 3 (.slice t.s3.A t.s3.n t.s3.c)).set_ 4 (.slice A9 n9 c9))
      refine bodyPost_ret (v := .tuple #[.agg #[.slice t.s0.A t.s0.n t.s0.c, .slice t.s1.A t.s1.n t.s1.c, .slice t.s2.A t.s2.n t.s2.c, .slice t.s3.A t.s3.n t.s3.c, .slice A9 n9 c9], .int .i64 0]) (results_cell2 Try.results25 _ _ rb 47 _ (0, 0) _ rfl hbk _ rfl Try.underlying47 rfl (by kernel_rfl)) rfl ?_
      exact HFIN.out
  · skip
    go_region_law (first | refine step_append_run rfl (.const (.slice none 0 0)) (.tmp 19) 45 45 rfl (.slice none 0 0) (.slice (some ⟨b, o, none⟩) k t.sm.c) v1 w1 (by kernel_rfl) (by kernel_rfl) HR1.out ?_ | refine step_append_run rfl (.tmp 20) (.tmp 25) 45 45 rfl v1 (.slice (some ⟨b, o + (k + 1) * 2, none⟩) (nm - (k + 1)) (t.sm.c - (k + 1))) (.slice A9 n9 c9) w2 (by kernel_rfl) (by kernel_rfl) HR2.out ?_)
    all_goals
      have c0 := HT2.out.cell 0; have c1 := HT2.out.cell 1; have c2 := HT2.out.cell 2; have c3 := HT2.out.cell 3
      simp only [List.getElem?_toArray, List.getElem?_cons_zero, List.getElem?_cons_succ] at c0 c1 c2 c3
      have f := fun i => HZ2.out.frozen i
      have f' := fun i => HZ2.out.cell i
      simp only [zeroT] at f'
      go_wp2_with fail
      have hbk := ((((((HZ2.out.far (p := ⟨hb, 4, none⟩) hne2 (.slice A9 n9 c9)).set_ 0 (.slice t.s0.A t.s0.n t.s0.c)).set_ 1 (.slice t.s1.A t.s1.n t.s1.c)).set_ 2 (.slice t.s2.A t.s2.n t.s2.c)).set_ 3 (.slice t.s3.A t.s3.n t.s3.c)).set_ 4 (.slice A9 n9 c9))
      refine bodyPost_ret (v := .tuple #[.agg #[.slice t.s0.A t.s0.n t.s0.c, .slice t.s1.A t.s1.n t.s1.c, .slice t.s2.A t.s2.n t.s2.c, .slice t.s3.A t.s3.n t.s3.c, .slice A9 n9 c9], .int .i64 0]) (results_cell2 Try.results25 _ _ rb 47 _ (0, 0) _ rfl hbk _ rfl Try.underlying47 rfl (by kernel_rfl)) rfl ?_
      exact HFIN.out
end Go.Proofs.Ytlldmpcamdginaa.Trk
