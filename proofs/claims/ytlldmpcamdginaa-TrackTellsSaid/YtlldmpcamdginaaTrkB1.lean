/- Tracks: the document's Add, walked. -/
import Derived.Test.YtlldmpcamdginaaTrkZ
import Derived.Test.YtlldmpcamdginaaTrkY
import Derived.Test.YtlldmpcamdginaaG5
import Derived.OrdersHeld
import Derived.Deep.RegionHeld
import Derived.Deep.DeepCutAuto
namespace Go.Proofs.Ytlldmpcamdginaa.Trk
open Go.ChangeShapes Go.WideShapes Go.ChangeAt Go.RowKit
open Go.Proofs.Ytlldmpcamdginaa.Rec
open Go.Proofs.Ytlldmpcamdginaa.Log (results_cell2 OwnR_keep hmxL)
set_option linter.unusedVariables false
theorem infoRM : (Try.prog.info? 49).map (fun i => (i.zero, i.size, i.bytes)) = some (some (.agg #[.int .i64 0, .string ⟨#[]⟩]), 2, 24) := by kernel_rfl
def RGPost (w : World) (y : Tk × Int) (e : Ending) (w' : World) : Prop := Ext w w' ∧ ∃ t : Tv, e = .returned (.tuple #[.agg t.cells, .int .i64 y.2]) ∧ RfV w' t y.1
theorem mayT_one {n : Int} {m : Mk} (hn : 0 ≤ n ∧ n ≤ 4096) : mayT n ⟨[], [], [], [], [m]⟩ = decide (okM n m) := by
  have h1 : ∀ k, mayCam n ([] : List Pt) = k ↔ k = true := fun k => by simp [mayCam, mayC, eq_comm]
  have h2 : mayCam n ([] : List Pt) = true := by simp [mayCam, mayC]
  unfold mayT
  rw [decide_eq_true hn]
  simp only [Tk.cams, List.all_cons, List.all_nil, h2, Bool.true_and, Bool.and_true, mayM, List.length_cons, List.length_nil]
  by_cases hk : okM n m
  · rw [decide_eq_true hk, decide_eq_true hk.1]; rfl
  · rw [decide_eq_false hk]; simp
theorem src_mk (w : World) (y : Mk) : Src Try.prog 2 45 (.slice (some ⟨w.heap.size, 0, none⟩) 1 1) 1 (cM y) (w.alloc (.cells (cM y).toArray 49)) :=
  src_rec (P := Try.prog) (e' := 49) Try.underlying45 w (cM y) rfl (cM_one y) 1
/-- Where the loop of Add stands. -/
def AW (w : World) (hb mb rb Bi : Nat) (tc : Array Value) (m : Mk) (v : Value) (ls : List Mk) (W : World) : Prop :=
  Blk W hb 47 tc ∧ Blk W mb 49 #[.int .i64 m.tick, .string m.name] ∧ Blk W rb 47 zeroT ∧ OwnR Bi W 49 2 cM v ls ∧ Ext w W ∧ Bi ≤ W.heap.size ∧ w.heap.size ≤ hb ∧ hb < mb ∧ mb < rb ∧ rb < Bi
theorem AW.ext {w W W' : World} {hb mb rb Bi : Nat} {tc : Array Value} {m : Mk} {v : Value} {ls : List Mk} (h : AW w hb mb rb Bi tc m v ls W) (e : Ext W W') : AW w hb mb rb Bi tc m v ls W' :=
  ⟨h.1.ext e, h.2.1.ext e, h.2.2.1.ext e, h.2.2.2.1.ext e, ext_trans h.2.2.2.2.1 e, Nat.le_trans h.2.2.2.2.2.1 e.size, h.2.2.2.2.2.2⟩
theorem AW.app {w W W' : World} {hb mb rb Bi : Nat} {tc : Array Value} {m : Mk} {v v' : Value} {ls ls' : List Mk} (h : AW w hb mb rb Bi tc m v ls W) (hO : OwnR Bi W' 49 2 cM v' ls') (hG : W.grownBy W' v.ownBlock) : AW w hb mb rb Bi tc m v' ls' W' := by
  have hob : ∀ q, v.ownBlock = some q → Bi ≤ q := fun q e => (World.ownsRow.lt h.2.2.2.1 q e).1
  obtain ⟨h1, h2, h3, h4, h5, h6, h7, h8, h9, h10⟩ := h
  have hk : ∀ q, q < Bi → W'.heap[q]? = W.heap[q]? := fun q hq => hG.block q (Nat.lt_of_lt_of_le hq h6) (fun e => by have := hob q e.symm; omega)
  exact ⟨(hk hb (by omega)).trans h1, (hk mb (by omega)).trans h2, (hk rb (by omega)).trans h3, hO, ext_grown h5 hG (fun q e => by have := hob q e; omega), Nat.le_trans h6 hG.size, h7, h8, h9, h10⟩
set_option maxHeartbeats 16000000 in
set_option maxRecDepth 100000 in
theorem radd_tr (t : Tv) (x : Tk) (m : Mk) (n : Int) (w : World) (hB : RfV w t x) (hn1 : -9223372036854775808 ≤ n) (hn2 : n ≤ 9223372036854775807) (hy : mayT n x = true) (hms : m.name.size ≤ 9223372036854775807) :
    Calls Try.prog 23 #[.agg t.cells, .agg #[.int .i64 m.tick, .string m.name], .int .i64 n] w (RGPost w (addT n x m)) := by
  obtain ⟨W0, hW0⟩ : ∃ q, q = ((w.alloc (.cells t.cells 47)).alloc (.cells #[.int .i64 m.tick, .string m.name] 49)).alloc (.cells zeroT 47) := ⟨_, rfl⟩
  have HE0 : Hid (Ext w W0) := Lib.hid (by rw [hW0]; exact ext_alloc (ext_alloc (ext_alloc (Ext.rfl' w) _) _) _)
  have z1 : (w.alloc (.cells t.cells 47)).heap.size = w.heap.size + 1 := World.size_alloc _ _
  have z2 : ((w.alloc (.cells t.cells 47)).alloc (.cells #[.int .i64 m.tick, .string m.name] 49)).heap.size = w.heap.size + 1 + 1 := by rw [World.size_alloc, z1]
  have z3 : W0.heap.size = w.heap.size + 1 + 1 + 1 := by rw [hW0, World.size_alloc, z2]
  have HH0 : Hid (Blk W0 w.heap.size 47 t.cells) := Lib.hid (by rw [hW0]; exact ((Blk.new w _ t.cells).alloc _).alloc _)
  have HM0 : Hid (Blk W0 (w.heap.size + 1) 49 #[.int .i64 m.tick, .string m.name]) := Lib.hid (by
    rw [hW0]; have := (Blk.new (w.alloc (.cells t.cells 47)) 49 #[.int .i64 m.tick, .string m.name]).alloc (.cells zeroT 47); rw [z1] at this; exact this)
  have HZ0 : Hid (Blk W0 (w.heap.size + 1 + 1) 47 zeroT) := Lib.hid (by
    rw [hW0]; have := Blk.new ((w.alloc (.cells t.cells 47)).alloc (.cells #[.int .i64 m.tick, .string m.name] 49)) 47 zeroT; rw [z2] at this; exact this)
  have HSZ := Lib.hid z3
  clear z1 z2 z3
  have HB := Lib.hid (hB.ext HE0.out)
  have HBW := Lib.hid hB
  have HSL := Lib.hid (sl_get t)
  have HTM := Lib.hid hy
  have hml := (mayT_parts hy).2.1
  have hnn := (mayT_parts hy).1
  have HML := Lib.hid hml; have HMS := Lib.hid hms; have HNN := Lib.hid hnn
  have HRM := Lib.hid (fun (W : World) (e : Ext w W) => rmay_tr t x n W (hB.ext e) hn1 hn2)
  rw [hy] at HRM
  obtain ⟨tc, htc⟩ : ∃ q, q = t.cells := ⟨_, rfl⟩
  rw [← htc] at hW0 HH0 HSL HRM ⊢
  have HTC := Lib.hid htc
  have hnm := hB.2.2.2.2.1.1
  obtain ⟨nm, hnm2⟩ : ∃ q, q = t.sm.n := ⟨_, rfl⟩
  rw [← hnm2] at hnm
  have HNM := Lib.hid hnm2; have HLM := Lib.hid hnm
  have hnm32 : nm ≤ 32 := by omega
  clear htc hnm2 hnm hml hnn hB hy hms
  obtain ⟨mt, mn⟩ := m
  simp only at *
  go_enter Try.func23, Try.ntmps23
  go_upto_region 1 with fail
  simp only [zeroT] at hW0
  rw [← hW0]
  clear hW0
  obtain ⟨hb, hhb⟩ : ∃ q, q = w.heap.size := ⟨_, rfl⟩
  obtain ⟨mb, hmb⟩ : ∃ q, q = w.heap.size + 1 := ⟨_, rfl⟩
  obtain ⟨rb, hrb⟩ : ∃ q, q = w.heap.size + 1 + 1 := ⟨_, rfl⟩
  rw [← hrb] at HZ0 HSZ ⊢
  rw [← hmb] at HM0 ⊢
  rw [← hhb] at HH0 ⊢
  have HORD : Hid (w.heap.size ≤ hb ∧ hb < mb ∧ mb < rb) := Lib.hid (by omega)
  clear hhb hmb hrb
  -- one
  have hx3 := ext_alloc (ext_alloc (Ext.rfl' W0) (.cells #[.int .i64 mt, .string mn] 49)) (.cells #[.slice none 0 0, .slice none 0 0, .slice none 0 0, .slice none 0 0, .slice (some ⟨W0.heap.size, 0, none⟩) 1 1] 47)
  have hb3 := Blk.new1 W0 (.cells #[.int .i64 mt, .string mn] 49) 47 #[.slice none 0 0, .slice none 0 0, .slice none 0 0, .slice none 0 0, .slice (some ⟨W0.heap.size, 0, none⟩) 1 1]
  have hr3 := (row_new cM_len W0 49 [⟨mt, mn⟩]).ext (ext_alloc (Ext.rfl' _) (.cells #[.slice none 0 0, .slice none 0 0, .slice none 0 0, .slice none 0 0, .slice (some ⟨W0.heap.size, 0, none⟩) 1 1] 47))
  have m0 := HM0.out.cell 0; have m1 := HM0.out.cell 1
  simp only [List.getElem?_toArray, List.getElem?_cons_zero, List.getElem?_cons_succ] at m0 m1
  go_upto_region 2 with fail
  clear m0 m1
  obtain ⟨W3, hW3⟩ : ∃ q, q = ((W0.alloc (.cells #[.int .i64 mt, .string mn] 49)).alloc (.cells #[.slice none 0 0, .slice none 0 0, .slice none 0 0, .slice none 0 0, .slice (some ⟨W0.heap.size, 0, none⟩) 1 1] 47)) := ⟨_, rfl⟩
  have hr4 : RowR W3 (some ⟨W0.heap.size, 0, none⟩) 1 2 cM [(⟨mt, mn⟩ : Mk)] := by rw [hW3]; exact hr3
  rw [← hW3] at hx3 hb3 ⊢
  clear hW3 hr3
  obtain ⟨ob, hob⟩ : ∃ q, q = W0.heap.size + 1 := ⟨_, rfl⟩
  obtain ⟨sb, hsb⟩ : ∃ q, q = W0.heap.size := ⟨_, rfl⟩
  rw [← hob] at hb3 ⊢
  rw [← hsb] at hb3 hr4
  try rw [← hsb]
  clear hob hsb
  have hn0 : PtsR W3 none 0 0 [] := ⟨RowR.nil _ _ _ _, Nat.le_refl _, by omega, fun _ => ⟨rfl, rfl⟩⟩
  have HONE := Lib.hid (rmay_tr ⟨⟨none, 0, 0⟩, ⟨none, 0, 0⟩, ⟨none, 0, 0⟩, ⟨none, 0, 0⟩, ⟨some ⟨sb, 0, none⟩, 1, 1⟩⟩ ⟨[], [], [], [], [⟨mt, mn⟩]⟩ n W3 ⟨hn0, hn0, hn0, hn0, hr4, Nat.le_refl _, by show 1 ≤ 9223372036854775807; omega, fun h => (by cases h), fun q hq => (by rw [List.mem_singleton] at hq; subst hq; exact HMS.out)⟩ hn1 hn2)
  rw [mayT_one HNN.out] at HONE
  obtain ⟨ok, hok⟩ : ∃ q, q = decide (okM n ⟨mt, mn⟩) := ⟨_, rfl⟩
  rw [← hok] at HONE
  replace hok := Lib.hid hok
  simp only [Tv.cells] at HONE
  have HE3 := Lib.hid (ext_trans HE0.out hx3); have HH3 := Lib.hid (HH0.out.ext hx3); have HM3 := Lib.hid (HM0.out.ext hx3); have HZ3 := Lib.hid (HZ0.out.ext hx3)
  have HOB := Lib.hid hb3
  have HX3 := Lib.hid hx3
  clear hx3 hb3 hr4 hn0 HE0 HH0 HM0 HZ0
  have h := fun i => HOB.out.cell i
  go_wp2_with fail
  refine (HONE.out).mono ?_
  rintro e W4 ⟨rfl, hE4⟩
  clear h HONE HOB
  have HE4 := Lib.hid (ext_trans HE3.out hE4); have HH4 := Lib.hid (HH3.out.ext hE4); have HM4 := Lib.hid (HM3.out.ext hE4); have HZ4 := Lib.hid (HZ3.out.ext hE4)
  have HS4 : Hid (rb < W4.heap.size) := Lib.hid (by have := hE4.size; have := HX3.out.size; have := HSZ.out; omega)
  clear hE4 HE3 HH3 HM3 HZ3 HX3 HSZ
  have hcs : tc = #[.slice t.s0.A t.s0.n t.s0.c, .slice t.s1.A t.s1.n t.s1.c, .slice t.s2.A t.s2.n t.s2.c, .slice t.s3.A t.s3.n t.s3.c, .slice t.sm.A nm t.sm.c] := by rw [HTC.out, HNM.out]; rfl
  cases ok with
  | false =>
    have HAT : Hid (addT n x ⟨mt, mn⟩ = (x, 2)) := Lib.hid (by rw [addT, if_neg (of_decide_eq_false hok.out.symm)])
    rw [hcs] at HH4
    clear hcs
    have c := fun i => HH4.out.cell i
    have f := fun i => HZ4.out.frozen i
    have f' := fun i => HZ4.out.cell i
    simp only [zeroT] at f'
    go_wp2_with fail
    have hbk := (((((HZ4.out.set_ 0 (.slice t.s0.A t.s0.n t.s0.c)).set_ 1 (.slice t.s1.A t.s1.n t.s1.c)).set_ 2 (.slice t.s2.A t.s2.n t.s2.c)).set_ 3 (.slice t.s3.A t.s3.n t.s3.c)).set_ 4 (.slice t.sm.A nm t.sm.c))
    refine bodyPost_ret (v := .tuple #[.agg #[.slice t.s0.A t.s0.n t.s0.c, .slice t.s1.A t.s1.n t.s1.c, .slice t.s2.A t.s2.n t.s2.c, .slice t.s3.A t.s3.n t.s3.c, .slice t.sm.A nm t.sm.c], .int .i64 2]) (results_cell2 Try.results23 _ _ rb 47 _ (0, 0) _ rfl hbk _ rfl Try.underlying47 rfl (by kernel_rfl)) rfl ?_
    have hwr : w.heap.size ≤ rb := by have := HORD.out; omega
    have hEE := ext_set (ext_set (ext_set (ext_set (ext_set HE4.out (p := ⟨rb, 0, none⟩) hwr (.slice t.s0.A t.s0.n t.s0.c)) (p := ⟨rb, 1, none⟩) hwr (.slice t.s1.A t.s1.n t.s1.c)) (p := ⟨rb, 2, none⟩) hwr (.slice t.s2.A t.s2.n t.s2.c)) (p := ⟨rb, 3, none⟩) hwr (.slice t.s3.A t.s3.n t.s3.c)) (p := ⟨rb, 4, none⟩) hwr (.slice t.sm.A nm t.sm.c)
    refine ⟨hEE, t, ?_, ?_⟩
    · rw [HAT.out]; unfold Tv.cells; rw [← HNM.out]
    · rw [HAT.out]; exact HBW.out.ext hEE
  | true =>
    have HCS := Lib.hid hcs
    clear hcs
    have HRX := Lib.hid (HRM.out W4 HE4.out)
    have HTL : Hid (tc = Tv.cells t) := Lib.hid HTC.out
    rw [HCS.out] at HRX
    have c := fun i => HH4.out.cell i
    rw [HCS.out] at c
    go_wp2_with fail
    refine (HRX.out).mono ?_
    rintro e W5 ⟨rfl, hE5⟩
    clear c HRX HRM
    have HE5 := Lib.hid (ext_trans HE4.out hE5); have HH5 := Lib.hid (HH4.out.ext hE5); have HM5 := Lib.hid (HM4.out.ext hE5); have HZ5 := Lib.hid (HZ4.out.ext hE5)
    have HS5 := Lib.hid (Nat.lt_of_lt_of_le HS4.out hE5.size)
    clear hE5 HE4 HH4 HM4 HZ4 HS4
    have h4 : W5.cell? ⟨hb, 4, none⟩ = some (.slice t.sm.A nm t.sm.c) := (HH5.out.cell 4).trans (by rw [HCS.out]; rfl)
    by_cases h32 : nm = 32
    · have h32' : (31 : Int) < (nm : Int) := by omega
      have HAT : Hid (addT n x ⟨mt, mn⟩ = (x, 7)) := Lib.hid (by rw [addT, if_pos (of_decide_eq_true hok.out.symm), if_pos (by rw [HLM.out]; exact h32)])
      clear h4
      rw [HCS.out] at HH5
      have c := fun i => HH5.out.cell i
      have f := fun i => HZ5.out.frozen i
      have f' := fun i => HZ5.out.cell i
      simp only [zeroT] at f'
      clear h32
      go_wp2_with fail
      have hbk := (((((HZ5.out.set_ 0 (.slice t.s0.A t.s0.n t.s0.c)).set_ 1 (.slice t.s1.A t.s1.n t.s1.c)).set_ 2 (.slice t.s2.A t.s2.n t.s2.c)).set_ 3 (.slice t.s3.A t.s3.n t.s3.c)).set_ 4 (.slice t.sm.A nm t.sm.c))
      refine bodyPost_ret (v := .tuple #[.agg #[.slice t.s0.A t.s0.n t.s0.c, .slice t.s1.A t.s1.n t.s1.c, .slice t.s2.A t.s2.n t.s2.c, .slice t.s3.A t.s3.n t.s3.c, .slice t.sm.A nm t.sm.c], .int .i64 7]) (results_cell2 Try.results23 _ _ rb 47 _ (0, 0) _ rfl hbk _ rfl Try.underlying47 rfl (by kernel_rfl)) rfl ?_
      have hwr : w.heap.size ≤ rb := by have := HORD.out; omega
      have hEE := ext_set (ext_set (ext_set (ext_set (ext_set HE5.out (p := ⟨rb, 0, none⟩) hwr (.slice t.s0.A t.s0.n t.s0.c)) (p := ⟨rb, 1, none⟩) hwr (.slice t.s1.A t.s1.n t.s1.c)) (p := ⟨rb, 2, none⟩) hwr (.slice t.s2.A t.s2.n t.s2.c)) (p := ⟨rb, 3, none⟩) hwr (.slice t.s3.A t.s3.n t.s3.c)) (p := ⟨rb, 4, none⟩) hwr (.slice t.sm.A nm t.sm.c)
      refine ⟨hEE, t, ?_, ?_⟩
      · rw [HAT.out]; unfold Tv.cells; rw [← HNM.out]
      · rw [HAT.out]; exact HBW.out.ext hEE
    · have hn31 : ¬ (31 : Int) < (nm : Int) := by omega
      have HAT : Hid (addT n x ⟨mt, mn⟩ = (⟨x.c0, x.c1, x.c2, x.c3, insM ⟨mt, mn⟩ x.marks⟩, 0)) := Lib.hid (by rw [addT, if_pos (of_decide_eq_true hok.out.symm), if_neg (by rw [HLM.out]; exact h32)])
      obtain ⟨Bi, hBi⟩ : ∃ q, q = W5.heap.size := ⟨_, rfl⟩
      have HAW : Hid (AW w hb mb rb Bi tc ⟨mt, mn⟩ (.slice none 0 0) [] W5) := Lib.hid ⟨HH5.out, HM5.out, HZ5.out, OwnR.nil _ _ _ _ _, HE5.out, by rw [hBi]; exact Nat.le_refl _, HORD.out.1, HORD.out.2.1, HORD.out.2.2, by rw [hBi]; exact HS5.out⟩
      clear hBi HH5 HM5 HZ5 HE5 HS5 h32
      go_wp2_with fail
      clear h4
      go_loopg [9, 10, 11] nm (fun gi lv dv iv wr => ∃ (k : Nat) (v : Value) (ls : List Mk) (dn : Bool), k + gi = nm ∧ lv = v ∧ dv = .bool dn ∧ iv = .int .i64 (k : Int) ∧ AW w hb mb rb Bi tc ⟨mt, mn⟩ v ls wr ∧ ls.length ≤ 2 * k ∧ ls ++ (if dn = true then x.marks.drop k else insM ⟨mt, mn⟩ (x.marks.drop k)) = insM ⟨mt, mn⟩ x.marks)
      case atStart => exact ⟨0, _, [], false, by omega, rfl, rfl, rfl, HAW.out, by simp, by simp⟩
      case round =>
        obtain ⟨k, v, ls, dn, hk, rfl, rfl, rfl, hAW, hll, hlist⟩ := hrel
        obtain ⟨wk, rfl⟩ : ∃ wi : World, wi = wr := ⟨_, rfl⟩
        obtain ⟨gi, rfl⟩ : ∃ gh : Nat, gh = gk := ⟨_, rfl⟩
        have HAK := Lib.hid hAW; have HLS := Lib.hid hlist; have HLL := Lib.hid hll
        clear hAW hlist hll HAW
        have y3 : (0 : Int) ≤ (k : Int) := by omega
        have h4 : wk.cell? ⟨hb, 4, none⟩ = some (.slice t.sm.A nm t.sm.c) := (HAK.out.1.cell 4).trans (by rw [HCS.out]; rfl)
        obtain ⟨vi, rfl⟩ : ∃ q : Value, q = u9 := ⟨_, rfl⟩
        by_cases hki : k < nm
        · have y4 : (k : Int) < (nm : Int) := by omega
          have hke : k < x.marks.length := by rw [HLM.out]; exact hki
          have hmk := HBW.out.2.2.2.2.1
          rw [← HNM.out] at hmk
          obtain ⟨b, o, hA, hbw, hc⟩ := hmk.2 (by omega)
          rw [hA] at h4
          have HDR : Hid (x.marks.drop k = x.marks[k] :: x.marks.drop (k + 1)) := Lib.hid (List.drop_eq_getElem_cons hke)
          have hq := hc k hke
          obtain ⟨u, hu⟩ : ∃ q, q = x.marks[k] := ⟨_, rfl⟩
          rw [← hu] at hq HDR
          clear hu
          obtain ⟨tk, s⟩ := u
          have HAD := Lib.hid hA.symm
          have HCE : Hid (∀ W, Ext w W → W.cell? ⟨b, o + k * 2, none⟩ = some (.int .i64 tk) ∧ W.cell? ⟨b, o + k * 2 + 1, none⟩ = some (.string s)) := Lib.hid (fun W e => by
            have r := fun i hi => (e.cell (p := ⟨b, o + k * 2 + i, none⟩) hbw).trans (hq i hi)
            have r0 := r 0 (by omega); have r1 := r 1 (by omega)
            simp only [cM, Nat.add_zero, List.getElem?_cons_zero, List.getElem?_cons_succ] at r0 r1
            exact ⟨r0, r1⟩)
          obtain ⟨nd, hnd⟩ : ∃ c, (!dn) = c := ⟨_, rfl⟩
          obtain ⟨b7, hb7⟩ : ∃ c, decide (mt < tk) = c := ⟨_, rfl⟩
          obtain ⟨r, hr⟩ : ∃ c, (nd && b7) = c := ⟨_, rfl⟩
          have HRT : Hid (r = true → dn = false ∧ mt < tk) := Lib.hid (fun h => by
            rw [← hr, ← hnd, ← hb7, Bool.and_eq_true, decide_eq_true_iff] at h
            exact ⟨by simpa using h.1, h.2⟩)
          have HRF : Hid (r = false → dn = true ∨ ¬ mt < tk) := Lib.hid (fun h => by
            rw [← hr, ← hnd, ← hb7, Bool.and_eq_false_iff, decide_eq_false_iff_not] at h
            rcases h with h | h
            · exact .inl (by simpa using h)
            · exact .inr h)
          have HCW : Hid (∀ W, AW w hb mb rb Bi tc ⟨mt, mn⟩ vi ls W → W.cell? ⟨hb, 4, none⟩ = some (.slice (some ⟨b, o, none⟩) nm t.sm.c) ∧ W.cell? ⟨b, o + k * 2, none⟩ = some (.int .i64 tk) ∧ W.cell? ⟨mb, 0, none⟩ = some (.int .i64 mt)) := Lib.hid (fun W e =>
            ⟨(e.1.cell 4).trans (by rw [HCS.out, ← HAD.out]; rfl), (HCE.out W e.2.2.2.2.1).1, e.2.1.cell 0⟩)
          clear hc hq hmk hA
          go_upto_region 11 with fail
          clear h4
          go_cut [50] (fun c wx => c = .bool r ∧ AW w hb mb rb Bi tc ⟨mt, mn⟩ vi ls wx)
          case first =>
            have HX := Lib.hid (HAK.out.ext (ext_drew (Ext.rfl' wk)))
            refine wp_region_held_drew (S := AW w hb mb rb Bi tc ⟨mt, mn⟩ vi ls) hmxL HX.out (fun _ => ?_)
            generalize wk.drew = WA at *
            (refine wpAnyH_take (i := 0) (oi := { dst := some 38, op := Go.Op.move (Go.Operand.tmp 10), type := 4, pos := "ref.go:154", after := #[], guard := none }) (v := (Go.Value.bool dn)) rfl (by kernel_rfl) (by kernel_rfl) (by kernel_rfl) (fun _ _ _ h => h) ?_ HX.out ?_)
            · unfold YieldsIf
              refine Or.inl ⟨by rfl, ?_⟩
              intro w' hSw
              obtain ⟨h4, a0, m0⟩ := HCW.out w' hSw
              go_simp
              try with_reducible rfl
            (try simp only [Act.put, List.setIfInBounds_toArray, List.set_cons_zero, List.set_cons_succ])
            (refine wpAnyH_take (i := 1) (oi := { dst := some 39, op := Go.Op.unOp Go.UnOp.not 4 (Go.Operand.tmp 38), type := 4, pos := "ref.go:154", after := #[{ on := 0, ground := Go.Ground.data }], guard := none }) (v := (Go.Value.bool nd)) rfl (by kernel_rfl) (by kernel_rfl) (by kernel_rfl) (fun _ _ _ h => h) ?_ HX.out ?_)
            · unfold YieldsIf
              refine Or.inl ⟨by rfl, ?_⟩
              subst hnd
              intro w' hSw
              obtain ⟨h4, a0, m0⟩ := HCW.out w' hSw
              go_simp
              try with_reducible rfl
            (try simp only [Act.put, List.setIfInBounds_toArray, List.set_cons_zero, List.set_cons_succ])
            (refine wpAnyH_take (i := 2) (oi := { dst := some 40, op := Go.Op.move (Go.Operand.tmp 39), type := 4, pos := "ref.go:154", after := #[{ on := 1, ground := Go.Ground.data }], guard := none }) (v := (Go.Value.bool nd)) rfl (by kernel_rfl) (by kernel_rfl) (by kernel_rfl) (fun _ _ _ h => h) ?_ HX.out ?_)
            · unfold YieldsIf
              refine Or.inl ⟨by rfl, ?_⟩
              intro w' hSw
              obtain ⟨h4, a0, m0⟩ := HCW.out w' hSw
              go_simp
              try with_reducible rfl
            (try simp only [Act.put, List.setIfInBounds_toArray, List.set_cons_zero, List.set_cons_succ])
            (refine wpAnyH_take (i := 3) (oi := { dst := some 41, op := Go.Op.fieldAddr 47 (Go.Operand.tmp 3) 1, type := 0, pos := "ref.go:154", after := #[{ on := 2, ground := Go.Ground.guard }], guard := some (2, true) }) (v := (bif nd then (Go.Value.pointer (some ⟨hb, 4, none⟩)) else Go.undef)) rfl (by kernel_rfl) (by kernel_rfl) (by kernel_rfl) (fun _ _ _ h => h) ?_ HX.out ?_)
            · unfold YieldsIf
              cases nd
              · exact Or.inr ⟨by rfl, by rfl⟩
              · skip
                refine Or.inl ⟨by rfl, ?_⟩
                intro w' hSw
                obtain ⟨h4, a0, m0⟩ := HCW.out w' hSw
                go_simp
                try with_reducible rfl
            (try simp only [Act.put, List.setIfInBounds_toArray, List.set_cons_zero, List.set_cons_succ])
            (refine wpAnyH_take (i := 4) (oi := { dst := some 42, op := Go.Op.load 45 (Go.Operand.tmp 41), type := 45, pos := "ref.go:154", after := #[{ on := 3, ground := Go.Ground.data }, { on := 2, ground := Go.Ground.guard }], guard := some (2, true) }) (v := (bif nd then (Go.Value.slice (some ⟨b, o, none⟩) nm t.sm.c) else Go.undef)) rfl (by kernel_rfl) (by kernel_rfl) (by kernel_rfl) (fun _ _ _ h => h) ?_ HX.out ?_)
            · unfold YieldsIf
              cases nd
              · exact Or.inr ⟨by rfl, by rfl⟩
              · skip
                refine Or.inl ⟨by rfl, ?_⟩
                intro w' hSw
                obtain ⟨h4, a0, m0⟩ := HCW.out w' hSw
                go_simp
                try with_reducible rfl
            (try simp only [Act.put, List.setIfInBounds_toArray, List.set_cons_zero, List.set_cons_succ])
            (refine wpAnyH_take (i := 5) (oi := { dst := some 43, op := Go.Op.move (Go.Operand.tmp 11), type := 3, pos := "ref.go:154", after := #[{ on := 2, ground := Go.Ground.guard }], guard := some (2, true) }) (v := (bif nd then (Go.Value.int .i64 (k : Int)) else Go.undef)) rfl (by kernel_rfl) (by kernel_rfl) (by kernel_rfl) (fun _ _ _ h => h) ?_ HX.out ?_)
            · unfold YieldsIf
              cases nd
              · exact Or.inr ⟨by rfl, by rfl⟩
              · skip
                refine Or.inl ⟨by rfl, ?_⟩
                intro w' hSw
                obtain ⟨h4, a0, m0⟩ := HCW.out w' hSw
                go_simp
                try with_reducible rfl
            (try simp only [Act.put, List.setIfInBounds_toArray, List.set_cons_zero, List.set_cons_succ])
            (refine wpAnyH_take (i := 6) (oi := { dst := some 44, op := Go.Op.indexAddr 45 (Go.Operand.tmp 42) (Go.Operand.tmp 43), type := 0, pos := "ref.go:154", after := #[{ on := 4, ground := Go.Ground.data }, { on := 5, ground := Go.Ground.data }, { on := 2, ground := Go.Ground.guard }], guard := some (2, true) }) (v := (bif nd then (Go.Value.pointer (some ⟨b, o + k * 2, none⟩)) else Go.undef)) rfl (by kernel_rfl) (by kernel_rfl) (by kernel_rfl) (fun _ _ _ h => h) ?_ HX.out ?_)
            · unfold YieldsIf
              cases nd
              · exact Or.inr ⟨by rfl, by rfl⟩
              · skip
                refine Or.inl ⟨by rfl, ?_⟩
                intro w' hSw
                obtain ⟨h4, a0, m0⟩ := HCW.out w' hSw
                go_simp
                try with_reducible rfl
            (try simp only [Act.put, List.setIfInBounds_toArray, List.set_cons_zero, List.set_cons_succ])
            (refine wpAnyH_take (i := 7) (oi := { dst := some 45, op := Go.Op.fieldAddr 49 (Go.Operand.tmp 44) 0, type := 0, pos := "ref.go:154", after := #[{ on := 6, ground := Go.Ground.data }, { on := 2, ground := Go.Ground.guard }], guard := some (2, true) }) (v := (bif nd then (Go.Value.pointer (some ⟨b, o + k * 2, none⟩)) else Go.undef)) rfl (by kernel_rfl) (by kernel_rfl) (by kernel_rfl) (fun _ _ _ h => h) ?_ HX.out ?_)
            · unfold YieldsIf
              cases nd
              · exact Or.inr ⟨by rfl, by rfl⟩
              · skip
                refine Or.inl ⟨by rfl, ?_⟩
                intro w' hSw
                obtain ⟨h4, a0, m0⟩ := HCW.out w' hSw
                go_simp
                try with_reducible rfl
            (try simp only [Act.put, List.setIfInBounds_toArray, List.set_cons_zero, List.set_cons_succ])
            (refine wpAnyH_take (i := 8) (oi := { dst := some 46, op := Go.Op.load 3 (Go.Operand.tmp 45), type := 3, pos := "ref.go:154", after := #[{ on := 7, ground := Go.Ground.data }, { on := 2, ground := Go.Ground.guard }], guard := some (2, true) }) (v := (bif nd then (Go.Value.int .i64 tk) else Go.undef)) rfl (by kernel_rfl) (by kernel_rfl) (by kernel_rfl) (fun _ _ _ h => h) ?_ HX.out ?_)
            · unfold YieldsIf
              cases nd
              · exact Or.inr ⟨by rfl, by rfl⟩
              · skip
                refine Or.inl ⟨by rfl, ?_⟩
                intro w' hSw
                obtain ⟨h4, a0, m0⟩ := HCW.out w' hSw
                go_simp
                try with_reducible rfl
            (try simp only [Act.put, List.setIfInBounds_toArray, List.set_cons_zero, List.set_cons_succ])
            (refine wpAnyH_take (i := 9) (oi := { dst := some 47, op := Go.Op.fieldAddr 49 (Go.Operand.tmp 4) 0, type := 0, pos := "ref.go:154", after := #[{ on := 2, ground := Go.Ground.guard }], guard := some (2, true) }) (v := (bif nd then (Go.Value.pointer (some ⟨mb, 0, none⟩)) else Go.undef)) rfl (by kernel_rfl) (by kernel_rfl) (by kernel_rfl) (fun _ _ _ h => h) ?_ HX.out ?_)
            · unfold YieldsIf
              cases nd
              · exact Or.inr ⟨by rfl, by rfl⟩
              · skip
                refine Or.inl ⟨by rfl, ?_⟩
                intro w' hSw
                obtain ⟨h4, a0, m0⟩ := HCW.out w' hSw
                go_simp
                try with_reducible rfl
            (try simp only [Act.put, List.setIfInBounds_toArray, List.set_cons_zero, List.set_cons_succ])
            (refine wpAnyH_take (i := 10) (oi := { dst := some 48, op := Go.Op.load 3 (Go.Operand.tmp 47), type := 3, pos := "ref.go:154", after := #[{ on := 9, ground := Go.Ground.data }, { on := 2, ground := Go.Ground.guard }], guard := some (2, true) }) (v := (bif nd then (Go.Value.int .i64 mt) else Go.undef)) rfl (by kernel_rfl) (by kernel_rfl) (by kernel_rfl) (fun _ _ _ h => h) ?_ HX.out ?_)
            · unfold YieldsIf
              cases nd
              · exact Or.inr ⟨by rfl, by rfl⟩
              · skip
                refine Or.inl ⟨by rfl, ?_⟩
                intro w' hSw
                obtain ⟨h4, a0, m0⟩ := HCW.out w' hSw
                go_simp
                try with_reducible rfl
            (try simp only [Act.put, List.setIfInBounds_toArray, List.set_cons_zero, List.set_cons_succ])
            (refine wpAnyH_take (i := 11) (oi := { dst := some 49, op := Go.Op.binOp Go.BinOp.gtr 3 (Go.Operand.tmp 46) (Go.Operand.tmp 48) 3, type := 4, pos := "ref.go:154", after := #[{ on := 8, ground := Go.Ground.data }, { on := 10, ground := Go.Ground.data }, { on := 2, ground := Go.Ground.guard }], guard := some (2, true) }) (v := (bif nd then (Go.Value.bool b7) else Go.undef)) rfl (by kernel_rfl) (by kernel_rfl) (by kernel_rfl) (fun _ _ _ h => h) ?_ HX.out ?_)
            · unfold YieldsIf
              cases nd
              · exact Or.inr ⟨by rfl, by rfl⟩
              · skip
                refine Or.inl ⟨by rfl, ?_⟩
                subst hb7
                intro w' hSw
                obtain ⟨h4, a0, m0⟩ := HCW.out w' hSw
                go_simp
                try with_reducible rfl
            (try simp only [Act.put, List.setIfInBounds_toArray, List.set_cons_zero, List.set_cons_succ])
            (refine wpAnyH_take (i := 12) (oi := { dst := some 50, op := Go.Op.pick (Go.Operand.tmp 40) (Go.Operand.tmp 49) (Go.Operand.const (Go.Value.bool false)), type := 4, pos := "ref.go:154", after := #[{ on := 2, ground := Go.Ground.data }, { on := 11, ground := Go.Ground.data }], guard := none }) (v := (Go.Value.bool r)) rfl (by kernel_rfl) (by kernel_rfl) (by kernel_rfl) (fun _ _ _ h => h) ?_ HX.out ?_)
            · unfold YieldsIf
              subst hr
              cases nd <;>
                (refine Or.inl ⟨by rfl, ?_⟩; intro w' hSw; go_simp; try with_reducible rfl)
            (try simp only [Act.put, List.setIfInBounds_toArray, List.set_cons_zero, List.set_cons_succ])
            refine wpAnyH_done (by kernel_rfl) ?_ _
            go_wp2_with fail
            go_meet
            exact ⟨rfl, HX.out⟩
          case rest =>
            obtain ⟨rfl, hAW⟩ := hcut
            obtain ⟨wf, rfl⟩ : ∃ wf : World, wf = wc := ⟨_, rfl⟩
            have HAF := Lib.hid hAW
            clear hAW hnd hb7 hr HAK
            cases r with
            | true =>
              obtain ⟨rfl, hmt⟩ := HRT.out rfl
              have HMT := Lib.hid hmt
              clear hmt
              have m0 := HAF.out.2.1.cell 0; have m1 := HAF.out.2.1.cell 1
              simp only [List.getElem?_toArray, List.getElem?_cons_zero, List.getElem?_cons_succ] at m0 m1
              have HDL : Hid (ls.length ≤ 100000000) := Lib.hid (by have := HLL.out; omega)
              have HSRC := Lib.hid (src_mk wf ⟨mt, mn⟩)
              have HAX := Lib.hid (HAF.out.ext (ext_alloc (Ext.rfl' wf) (.cells (cM ⟨mt, mn⟩).toArray 49)))
              go_upto_region 14 with (at_builtin; refine wpList_rec rfl (.tmp 51) (.tmp 53) 45 49 2 24 _ cM rfl Try.underlying45 infoRM rfl (by decide) vi _ ls ⟨mt, mn⟩ rfl rfl HAX.out.2.2.2.1 HAX.out.2.2.2.2.2.1 HSRC.out HDL.out ?_; intro v9 w9 hown9 hgr9; have HA9 := Lib.hid (HAX.out.app hown9 hgr9); clear hown9 hgr9)
              clear m0 m1 HSRC HAX HDL
              have h4 : w9.cell? ⟨hb, 4, none⟩ = some (.slice (some ⟨b, o, none⟩) nm t.sm.c) := (HA9.out.1.cell 4).trans (by rw [HCS.out, ← HAD.out]; rfl)
              have a0 := (HCE.out w9 HA9.out.2.2.2.2.1).1; have a1 := (HCE.out w9 HA9.out.2.2.2.2.1).2
              have HDL : Hid ((ls ++ [(⟨mt, mn⟩ : Mk)]).length ≤ 100000000) := Lib.hid (by have := HLL.out; simp only [List.length_append, List.length_singleton]; omega)
              have HSRC := Lib.hid (src_mk w9 ⟨tk, s⟩)
              have HAX := Lib.hid (HA9.out.ext (ext_alloc (Ext.rfl' w9) (.cells (cM ⟨tk, s⟩).toArray 49)))
              go_wp2_with (at_builtin; refine wpList_rec rfl (.tmp 55) (.tmp 61) 45 49 2 24 _ cM rfl Try.underlying45 infoRM rfl (by decide) v9 _ (ls ++ [(⟨mt, mn⟩ : Mk)]) ⟨tk, s⟩ rfl rfl HAX.out.2.2.2.1 HAX.out.2.2.2.2.2.1 HSRC.out HDL.out ?_; intro v8 w8 hown8 hgr8; have HA8 := Lib.hid (HAX.out.app hown8 hgr8); clear hown8 hgr8)
              go_roundg (gi - 1)
              case measure => omega
              case rel =>
                refine ⟨k + 1, v8, _, true, by omega, rfl, rfl, by go_num, HA8.out, ?_, ?_⟩
                · have := HLL.out; simp only [List.length_append, List.length_singleton]; omega
                · have e := HLS.out; rw [HDR.out] at e; simp only [Bool.false_eq_true, if_false, insM, if_pos HMT.out] at e; rw [← e]; simp
            | false =>
              have HNF := Lib.hid (HRF.out rfl)
              clear HRF HRT
              have h4 : wf.cell? ⟨hb, 4, none⟩ = some (.slice (some ⟨b, o, none⟩) nm t.sm.c) := (HAF.out.1.cell 4).trans (by rw [HCS.out, ← HAD.out]; rfl)
              have a0 := (HCE.out wf HAF.out.2.2.2.2.1).1; have a1 := (HCE.out wf HAF.out.2.2.2.2.1).2
              have HDL : Hid ((ls).length ≤ 100000000) := Lib.hid (by have := HLL.out; omega)
              have HSRC := Lib.hid (src_mk wf ⟨tk, s⟩)
              have HAX := Lib.hid (HAF.out.ext (ext_alloc (Ext.rfl' wf) (.cells (cM ⟨tk, s⟩).toArray 49)))
              go_wp2_with (at_builtin; refine wpList_rec rfl (.tmp 55) (.tmp 61) 45 49 2 24 _ cM rfl Try.underlying45 infoRM rfl (by decide) vi _ (ls) ⟨tk, s⟩ rfl rfl HAX.out.2.2.2.1 HAX.out.2.2.2.2.2.1 HSRC.out HDL.out ?_; intro v8 w8 hown8 hgr8; have HA8 := Lib.hid (HAX.out.app hown8 hgr8); clear hown8 hgr8)
              go_roundg (gi - 1)
              case measure => omega
              case rel =>
                refine ⟨k + 1, v8, _, dn, by omega, rfl, rfl, by go_num, HA8.out, ?_, ?_⟩
                · have := HLL.out; simp only [List.length_append, List.length_singleton]; omega
                · have e := HLS.out
                  rw [HDR.out] at e
                  have hf := HNF.out
                  cases dn with
                  | true => simp only [if_true] at e; rw [← e]; simp
                  | false =>
                    have hf2 : ¬ mt < tk := by
                      rcases hf with h | h
                      · cases h
                      · omega
                    simp only [Bool.false_eq_true, if_false, insM, if_neg hf2] at e; rw [← e]; simp
        · obtain rfl : gi = 0 := by omega
          obtain rfl : k = nm := by omega
          have y4 : ¬ (k : Int) < (k : Int) := by omega
          have hdn : x.marks.drop k = [] := List.drop_eq_nil_of_le (by rw [HLM.out]; omega)
          have HDN := Lib.hid hdn
          clear hdn
          cases dn with
          | true =>
            go_upto_region 17 with fail
            clear h4
            obtain ⟨A9, c9, hv, hl1, hl2, hl3, hl4⟩ := HAK.out.2.2.2.1.shape
            have hlq : ls = insM ⟨mt, mn⟩ x.marks := (by have := HLS.out; rw [HDN.out] at this; simpa using this)
            have HLQ := Lib.hid hlq
            have HOW := Lib.hid HAK.out.2.2.2.1
            have HAF := HAK
            generalize hn9 : ls.length = n9 at hv hl1 hl3
            subst hv
            have HN9 := Lib.hid hn9
            have HL9 := Lib.hid (And.intro hl1 (And.intro hl2 hl3))
            clear hl1 hl2 hl3 hl4 hn9 hlq
            have hbt := HAK.out.1
            rw [HCS.out] at hbt
            have HBT := Lib.hid hbt
            have HRB := Lib.hid HAK.out.2.2.1
            clear hbt
            have c := fun i => HBT.out.cell i
            have f := fun i => HRB.out.frozen i
            have f' := fun i => HRB.out.cell i
            have fb := fun i => HBT.out.frozen i
            simp only [zeroT] at f'
            have hne : hb ≠ rb := by have := HORD.out; omega
            have hne2 : rb ≠ hb := by have := HORD.out; omega
            go_wp2_with fail
            have hbk := ((((((HRB.out.far (p := ⟨hb, 4, none⟩) hne2 (.slice A9 n9 c9)).set_ 0 (.slice t.s0.A t.s0.n t.s0.c)).set_ 1 (.slice t.s1.A t.s1.n t.s1.c)).set_ 2 (.slice t.s2.A t.s2.n t.s2.c)).set_ 3 (.slice t.s3.A t.s3.n t.s3.c)).set_ 4 (.slice A9 n9 c9))
            refine bodyPost_ret (v := .tuple #[.agg #[.slice t.s0.A t.s0.n t.s0.c, .slice t.s1.A t.s1.n t.s1.c, .slice t.s2.A t.s2.n t.s2.c, .slice t.s3.A t.s3.n t.s3.c, .slice A9 n9 c9], .int .i64 0]) (results_cell2 Try.results23 _ _ rb 47 _ (0, 0) _ rfl hbk _ rfl Try.underlying47 rfl (by kernel_rfl)) rfl ?_
            have hwr : w.heap.size ≤ rb := by have := HORD.out; omega
            have hwh : w.heap.size ≤ hb := HORD.out.1
            have hEE := ext_set (ext_set (ext_set (ext_set (ext_set (ext_set HAF.out.2.2.2.2.1 (p := ⟨hb, 4, none⟩) hwh (.slice A9 n9 c9)) (p := ⟨rb, 0, none⟩) hwr (.slice t.s0.A t.s0.n t.s0.c)) (p := ⟨rb, 1, none⟩) hwr (.slice t.s1.A t.s1.n t.s1.c)) (p := ⟨rb, 2, none⟩) hwr (.slice t.s2.A t.s2.n t.s2.c)) (p := ⟨rb, 3, none⟩) hwr (.slice t.s3.A t.s3.n t.s3.c)) (p := ⟨rb, 4, none⟩) hwr (.slice A9 n9 c9)
            obtain ⟨hs5, hk5⟩ := five_off (wk.setCell ⟨hb, 4, none⟩ (.slice A9 n9 c9)) rb (.slice t.s0.A t.s0.n t.s0.c) (.slice t.s1.A t.s1.n t.s1.c) (.slice t.s2.A t.s2.n t.s2.c) (.slice t.s3.A t.s3.n t.s3.c) (.slice A9 n9 c9)
            have hk6 : ∀ q, q ≠ hb → (wk.setCell ⟨hb, 4, none⟩ (.slice A9 n9 c9)).heap[q]? = wk.heap[q]? := fun q hq => Below.heap_setCell _ ⟨hb, 4, none⟩ _ _ hq
            have kO := OwnR_keep HOW.out (fun q hq1 _ => (hk5 q (by have := HAF.out.2.2.2.2.2.2; omega)).trans (hk6 q (by have := HAF.out.2.2.2.2.2.2; omega)))
            have hcm := HBW.out.ext hEE
            refine ⟨hEE, ⟨t.s0, t.s1, t.s2, t.s3, ⟨A9, n9, c9⟩⟩, ?_, ?_⟩
            · rw [HAT.out]; rfl
            · rw [HAT.out]
              have hrw := OwnR.row cM_len kO
              rw [HLQ.out] at hrw
              exact ⟨hcm.1, hcm.2.1, hcm.2.2.1, hcm.2.2.2.1, hrw, HL9.out.1, HL9.out.2.1, HL9.out.2.2, fun q hq => by
                rcases mem_insM hq with rfl | hq
                · exact HMS.out
                · exact HBW.out.2.2.2.2.2.2.2.2 q hq⟩
          | false =>
            have m0 := HAK.out.2.1.cell 0; have m1 := HAK.out.2.1.cell 1
            simp only [List.getElem?_toArray, List.getElem?_cons_zero, List.getElem?_cons_succ] at m0 m1
            have HDL : Hid (ls.length ≤ 100000000) := Lib.hid (by have := HLL.out; omega)
            have HSRC := Lib.hid (src_mk wk ⟨mt, mn⟩)
            have HAX := Lib.hid (HAK.out.ext (ext_alloc (Ext.rfl' wk) (.cells (cM ⟨mt, mn⟩).toArray 49)))
            go_upto_region 17 with (at_builtin; refine wpList_rec rfl (.tmp 65) (.tmp 67) 45 49 2 24 _ cM rfl Try.underlying45 infoRM rfl (by decide) vi _ ls ⟨mt, mn⟩ rfl rfl HAX.out.2.2.2.1 HAX.out.2.2.2.2.2.1 HSRC.out HDL.out ?_; intro v9 w9 hown9 hgr9; have HA9 := Lib.hid (HAX.out.app hown9 hgr9); clear hown9 hgr9)
            clear m0 m1 h4 HSRC HAX HDL
            obtain ⟨A9, c9, hv, hl1, hl2, hl3, hl4⟩ := HA9.out.2.2.2.1.shape
            have hlq : (ls ++ [(⟨mt, mn⟩ : Mk)]) = insM ⟨mt, mn⟩ x.marks := (by have := HLS.out; rw [HDN.out] at this; simpa [insM] using this)
            have HLQ := Lib.hid hlq
            have HOW := Lib.hid HA9.out.2.2.2.1
            have HAF := HA9
            generalize hn9 : (ls ++ [(⟨mt, mn⟩ : Mk)]).length = n9 at hv hl1 hl3
            subst hv
            have HN9 := Lib.hid hn9
            have HL9 := Lib.hid (And.intro hl1 (And.intro hl2 hl3))
            clear hl1 hl2 hl3 hl4 hn9 hlq
            have hbt := HA9.out.1
            rw [HCS.out] at hbt
            have HBT := Lib.hid hbt
            have HRB := Lib.hid HA9.out.2.2.1
            clear hbt
            have c := fun i => HBT.out.cell i
            have f := fun i => HRB.out.frozen i
            have f' := fun i => HRB.out.cell i
            have fb := fun i => HBT.out.frozen i
            simp only [zeroT] at f'
            have hne : hb ≠ rb := by have := HORD.out; omega
            have hne2 : rb ≠ hb := by have := HORD.out; omega
            go_wp2_with fail
            have hbk := ((((((HRB.out.far (p := ⟨hb, 4, none⟩) hne2 (.slice A9 n9 c9)).set_ 0 (.slice t.s0.A t.s0.n t.s0.c)).set_ 1 (.slice t.s1.A t.s1.n t.s1.c)).set_ 2 (.slice t.s2.A t.s2.n t.s2.c)).set_ 3 (.slice t.s3.A t.s3.n t.s3.c)).set_ 4 (.slice A9 n9 c9))
            refine bodyPost_ret (v := .tuple #[.agg #[.slice t.s0.A t.s0.n t.s0.c, .slice t.s1.A t.s1.n t.s1.c, .slice t.s2.A t.s2.n t.s2.c, .slice t.s3.A t.s3.n t.s3.c, .slice A9 n9 c9], .int .i64 0]) (results_cell2 Try.results23 _ _ rb 47 _ (0, 0) _ rfl hbk _ rfl Try.underlying47 rfl (by kernel_rfl)) rfl ?_
            have hwr : w.heap.size ≤ rb := by have := HORD.out; omega
            have hwh : w.heap.size ≤ hb := HORD.out.1
            have hEE := ext_set (ext_set (ext_set (ext_set (ext_set (ext_set HAF.out.2.2.2.2.1 (p := ⟨hb, 4, none⟩) hwh (.slice A9 n9 c9)) (p := ⟨rb, 0, none⟩) hwr (.slice t.s0.A t.s0.n t.s0.c)) (p := ⟨rb, 1, none⟩) hwr (.slice t.s1.A t.s1.n t.s1.c)) (p := ⟨rb, 2, none⟩) hwr (.slice t.s2.A t.s2.n t.s2.c)) (p := ⟨rb, 3, none⟩) hwr (.slice t.s3.A t.s3.n t.s3.c)) (p := ⟨rb, 4, none⟩) hwr (.slice A9 n9 c9)
            obtain ⟨hs5, hk5⟩ := five_off (w9.setCell ⟨hb, 4, none⟩ (.slice A9 n9 c9)) rb (.slice t.s0.A t.s0.n t.s0.c) (.slice t.s1.A t.s1.n t.s1.c) (.slice t.s2.A t.s2.n t.s2.c) (.slice t.s3.A t.s3.n t.s3.c) (.slice A9 n9 c9)
            have hk6 : ∀ q, q ≠ hb → (w9.setCell ⟨hb, 4, none⟩ (.slice A9 n9 c9)).heap[q]? = w9.heap[q]? := fun q hq => Below.heap_setCell _ ⟨hb, 4, none⟩ _ _ hq
            have kO := OwnR_keep HOW.out (fun q hq1 _ => (hk5 q (by have := HAF.out.2.2.2.2.2.2; omega)).trans (hk6 q (by have := HAF.out.2.2.2.2.2.2; omega)))
            have hcm := HBW.out.ext hEE
            refine ⟨hEE, ⟨t.s0, t.s1, t.s2, t.s3, ⟨A9, n9, c9⟩⟩, ?_, ?_⟩
            · rw [HAT.out]; rfl
            · rw [HAT.out]
              have hrw := OwnR.row cM_len kO
              rw [HLQ.out] at hrw
              exact ⟨hcm.1, hcm.2.1, hcm.2.2.1, hcm.2.2.2.1, hrw, HL9.out.1, HL9.out.2.1, HL9.out.2.2, fun q hq => by
                rcases mem_insM hq with rfl | hq
                · exact HMS.out
                · exact HBW.out.2.2.2.2.2.2.2.2 q hq⟩
end Go.Proofs.Ytlldmpcamdginaa.Trk
