/- Tracks: a bookmark put at the end. -/
import Derived.Test.YtlldmpcamdginaaT3
namespace Go.Proofs.Ytlldmpcamdginaa.Trk
open Go.ChangeShapes Go.WideShapes Go.ChangeAt Go.RowKit
open Go.Proofs.Ytlldmpcamdginaa.Rec
set_option linter.unusedVariables false
def InPost (base : Nat) (v : Value) (zs : List Mk) (w : World) (e : Ending) (w' : World) : Prop := ∃ v', e = .returned v' ∧ OwnR base w' 68 2 cM v' zs ∧ w.grownBy w' v.ownBlock
set_option maxHeartbeats 4000000 in
theorem insert_end (base : Nat) (A : Option Addr) (n c : Nat) (xs : List Mk) (y : Mk) (a : Addr) (c1 : Nat) (w : World) (hO : OwnR base w 68 2 cM (.slice A n c) xs) (hbase : base ≤ w.heap.size) (hS : Src Try.prog 2 52 (.slice (some a) 1 c1) 1 (cM y) w) (hn : n ≤ 1000000) (hl : xs.length = n) :
    Calls Try.prog 55 #[.slice A n c, .int .i64 (n : Int), .slice (some a) 1 c1] w (InPost base (.slice A n c) (xs ++ [y]) w) := by
  have HO := Lib.hid hO; have HBS := Lib.hid hbase; have HSR := Lib.hid hS
  have HL : Hid (xs.length ≤ 100000000) := Lib.hid (by omega)
  obtain ⟨A', c', hv, hl1, hl2, hl3, hl4⟩ := hO.shape
  obtain ⟨e1, e2, e3⟩ := Value.slice.inj hv
  subst e1 e3
  rw [hl] at hl1 hl3
  have q1 : n ≤ c := hl1
  have q2 : c ≤ 9223372036854775807 := hl2
  have q3 := Lib.hid hl3
  clear hv e2 hl1 hl2 hl3 hl4 hO hbase hS hl
  have y1 : (0 : Int) ≤ (n : Int) := by omega
  have y2 : (n : Int) ≤ (c : Int) := by omega
  have y3 : (n : Int) ≤ (n : Int) := by omega
  cases A with
  | none =>
    obtain ⟨rfl, rfl⟩ := q3.out rfl
    go_enter Try.func55, Try.ntmps55
    go_wp2_with (at_builtin; refine wpList_rec rfl (.tmp 23) (.tmp 24) 52 68 2 24 _ cM rfl Try.underlying52 infoM rfl (by decide) _ _ xs y rfl rfl HO.out HBS.out HSR.out HL.out ?_; intro v9 w9 hO9 hG9; have HO9 := Lib.hid hO9; have HG9 := Lib.hid hG9; clear hO9 hG9)
    go_ret
    exact ⟨_, rfl, HO9.out, HG9.out⟩
  | some g =>
    go_enter Try.func55, Try.ntmps55
    go_wp2_with (at_builtin; refine wpList_rec rfl (.tmp 23) (.tmp 24) 52 68 2 24 _ cM rfl Try.underlying52 infoM rfl (by decide) _ _ xs y rfl rfl HO.out HBS.out HSR.out HL.out ?_; intro v9 w9 hO9 hG9; have HO9 := Lib.hid hO9; have HG9 := Lib.hid hG9; clear hO9 hG9)
    all_goals
      go_ret
      exact ⟨_, rfl, HO9.out, HG9.out⟩
end Go.Proofs.Ytlldmpcamdginaa.Trk
namespace Go.Proofs.Ytlldmpcamdginaa.Trk
open Go.ChangeShapes Go.WideShapes Go.ChangeAt Go.RowKit
open Go.Proofs.Ytlldmpcamdginaa.Rec
set_option linter.unusedVariables false
/-- The first place behind a tick, as slices.IndexFunc tells it. -/
def Fst {α : Type} (f : α → Int) (t : Int) (xs : List α) (r : Int) : Prop :=
  (∃ k : Nat, r = (k : Int) ∧ (∃ h : k < xs.length, t < f xs[k]) ∧ ∀ j (hj : j < xs.length), j < k → f xs[j] ≤ t) ∨ (r = -1 ∧ ∀ j (hj : j < xs.length), f xs[j] ≤ t)
theorem cam1_st (p : Pt) (t : Int) (tb : Nat) (w : World) (h : w.cell? ⟨tb, 0, none⟩ = some (.int .i64 t)) (htb : tb < w.heap.size) :
    Calls Try.prog 48 #[.agg #[.int .i64 p.tick, .int .i32 p.x, .int .i32 p.y], .pointer (some ⟨tb, 0, none⟩)] w fun e w' => e = .returned (.bool (decide (t < p.tick))) ∧ Ext w w' := by
  generalize hb : decide (t < p.tick) = b
  have HE := Lib.hid (ext_alloc (Ext.rfl' w) (.cells #[.int .i64 p.tick, .int .i32 p.x, .int .i32 p.y] 115))
  have c0 := HE.out.cell (p := ⟨tb, 0, none⟩) htb
  rw [h] at c0
  clear h
  obtain ⟨u, x, y⟩ := p
  simp only at *
  by_cases h1 : t < u
  · have hb' : Hid (b = true) := Lib.hid (by rw [← hb]; exact decide_eq_true h1)
    clear hb
    go_enter Try.func48, Try.ntmps48
    go_wp2_with fail
    go_ret
    exact ⟨by rw [hb'.out]; rfl, HE.out⟩
  · have hb' : Hid (b = false) := Lib.hid (by rw [← hb]; exact decide_eq_false h1)
    clear hb
    go_enter Try.func48, Try.ntmps48
    go_wp2_with fail
    go_ret
    exact ⟨by rw [hb'.out]; rfl, HE.out⟩
theorem add1_st (p : Mk) (t : Int) (tb : Nat) (w : World) (h : w.cell? ⟨tb, 0, none⟩ = some (.int .i64 t)) (htb : tb < w.heap.size) :
    Calls Try.prog 54 #[.agg #[.int .i64 p.tick, .string p.name], .pointer (some ⟨tb, 0, none⟩)] w fun e w' => e = .returned (.bool (decide (t < p.tick))) ∧ Ext w w' := by
  generalize hb : decide (t < p.tick) = b
  have HE := Lib.hid (ext_alloc (Ext.rfl' w) (.cells #[.int .i64 p.tick, .string p.name] 68))
  have c0 := HE.out.cell (p := ⟨tb, 0, none⟩) htb
  rw [h] at c0
  clear h
  obtain ⟨u, nm⟩ := p
  simp only at *
  by_cases h1 : t < u
  · have hb' : Hid (b = true) := Lib.hid (by rw [← hb]; exact decide_eq_true h1)
    clear hb
    go_enter Try.func54, Try.ntmps54
    go_wp2_with fail
    go_ret
    exact ⟨by rw [hb'.out]; rfl, HE.out⟩
  · have hb' : Hid (b = false) := Lib.hid (by rw [← hb]; exact decide_eq_false h1)
    clear hb
    go_enter Try.func54, Try.ntmps54
    go_wp2_with fail
    go_ret
    exact ⟨by rw [hb'.out]; rfl, HE.out⟩
set_option maxHeartbeats 4000000 in
theorem idxP_st (A : Option Addr) (n c : Nat) (xs : List Pt) (t : Int) (tb : Nat) (w : World) (hB : RowR w A n 3 cP xs) (hn : n ≤ 10000000) (h : w.cell? ⟨tb, 0, none⟩ = some (.int .i64 t)) (htb : tb < w.heap.size) :
    Calls Try.prog 47 #[.slice A n c, .func (.func 48) #[] #[.pointer (some ⟨tb, 0, none⟩)]] w fun e w' => ∃ r, e = .returned (.int .i64 r) ∧ Fst Pt.tick t xs r ∧ Ext w w' := by
  have HCL := Lib.hid (fun (p : Pt) (w' : World) (e : Ext w w') => cam1_st p t tb w' ((e.cell (p := ⟨tb, 0, none⟩) htb).trans h) (Nat.lt_of_lt_of_le htb e.size))
  have HB := Lib.hid hB; have HLEN := Lib.hid hB.1
  clear hB h htb
  go_enter Try.func47, Try.ntmps47
  go_wp2_with fail
  go_loopg [8] n (fun gh iv wr => ∃ (k : Nat), k + gh = n ∧ iv = .int .i64 (k : Int) ∧ Ext w wr ∧ ∀ j (hj : j < xs.length), j < k → xs[j].tick ≤ t)
  case atStart => exact ⟨0, by omega, rfl, Ext.rfl' _, fun j hj h => absurd h (by omega)⟩
  case round =>
    obtain ⟨k, hk, rfl, hE, hRk⟩ := hrel
    obtain ⟨wi, rfl⟩ : ∃ wi : World, wi = wr := ⟨_, rfl⟩
    obtain ⟨gh, rfl⟩ : ∃ gh : Nat, gh = gk := ⟨_, rfl⟩
    have HE := Lib.hid hE; have HRK := Lib.hid hRk
    clear hE hRk
    have y1 : (0 : Int) ≤ (k : Int) := by omega
    by_cases hlt : k < n
    · have hke : k < xs.length := by rw [HLEN.out]; exact hlt
      obtain ⟨b, o, rfl, hbw, hc⟩ := HB.out.2 (by omega)
      have q := fun i hi => (HE.out.cell (p := ⟨b, o + k * 3 + i, none⟩) hbw).trans (hc k hke i hi)
      obtain ⟨u, hu⟩ : ∃ u, u = xs[k] := ⟨_, rfl⟩
      rw [← hu] at q
      have HCU := Lib.hid (HCL.out u wi HE.out)
      have HT1 : Hid (t < u.tick → Fst Pt.tick t xs (k : Int)) := Lib.hid (fun h => .inl ⟨k, rfl, ⟨hke, by rw [← hu]; exact h⟩, HRK.out⟩)
      have HT2 : Hid (¬ t < u.tick → ∀ j (hj : j < xs.length), j < k + 1 → xs[j].tick ≤ t) := Lib.hid (fun h j hj hjk => by
        by_cases hjk2 : j = k
        · subst hjk2; rw [← hu]; omega
        · exact HRK.out j hj (by omega))
      clear hu
      obtain ⟨u, x, y⟩ := u
      have a0 := q 0 (by omega)
      have a1 := q 1 (by omega)
      have a2 := q 2 (by omega)
      simp only [cP, Nat.add_zero, List.getElem?_cons_zero, List.getElem?_cons_succ] at a0 a1 a2
      have y2 : (k : Int) < (n : Int) := by omega
      clear hc q hke
      simp only at HCU HT1 HT2
      by_cases h1 : t < u
      · have HF := Lib.hid (HT1.out h1)
        rw [decide_eq_true h1] at HCU
        clear HT1 HT2
        go_wp2_with fail
        refine (HCU.out).mono ?_
        rintro e w5 ⟨rfl, hE5⟩
        have HE5 := Lib.hid (ext_trans HE.out hE5)
        clear hE5
        go_wp2_with fail
        go_ret
        exact ⟨_, rfl, HF.out, HE5.out⟩
      · have HF := Lib.hid (HT2.out h1)
        rw [decide_eq_false h1] at HCU
        clear HT1 HT2
        go_wp2_with fail
        refine (HCU.out).mono ?_
        rintro e w5 ⟨rfl, hE5⟩
        have HE5 := Lib.hid (ext_trans HE.out hE5)
        clear hE5
        go_wp2_with fail
        go_roundg (gh - 1)
        case measure => omega
        case rel => exact ⟨k + 1, by omega, by go_num, HE5.out, HF.out⟩
    · obtain rfl : gh = 0 := by omega
      obtain rfl : k = n := by omega
      have y2 : ¬ (k : Int) < (k : Int) := by omega
      go_wp2_with fail
      go_ret
      exact ⟨_, rfl, .inr ⟨rfl, fun j hj => HRK.out j hj (by rw [← HLEN.out]; exact hj)⟩, HE.out⟩
set_option maxHeartbeats 4000000 in
theorem idxM_st (A : Option Addr) (n c : Nat) (xs : List Mk) (t : Int) (tb : Nat) (w : World) (hB : RowR w A n 2 cM xs) (hn : n ≤ 10000000) (h : w.cell? ⟨tb, 0, none⟩ = some (.int .i64 t)) (htb : tb < w.heap.size) :
    Calls Try.prog 53 #[.slice A n c, .func (.func 54) #[] #[.pointer (some ⟨tb, 0, none⟩)]] w fun e w' => ∃ r, e = .returned (.int .i64 r) ∧ Fst Mk.tick t xs r ∧ Ext w w' := by
  have HCL := Lib.hid (fun (p : Mk) (w' : World) (e : Ext w w') => add1_st p t tb w' ((e.cell (p := ⟨tb, 0, none⟩) htb).trans h) (Nat.lt_of_lt_of_le htb e.size))
  have HB := Lib.hid hB; have HLEN := Lib.hid hB.1
  clear hB h htb
  go_enter Try.func53, Try.ntmps53
  go_wp2_with fail
  go_loopg [8] n (fun gh iv wr => ∃ (k : Nat), k + gh = n ∧ iv = .int .i64 (k : Int) ∧ Ext w wr ∧ ∀ j (hj : j < xs.length), j < k → xs[j].tick ≤ t)
  case atStart => exact ⟨0, by omega, rfl, Ext.rfl' _, fun j hj h => absurd h (by omega)⟩
  case round =>
    obtain ⟨k, hk, rfl, hE, hRk⟩ := hrel
    obtain ⟨wi, rfl⟩ : ∃ wi : World, wi = wr := ⟨_, rfl⟩
    obtain ⟨gh, rfl⟩ : ∃ gh : Nat, gh = gk := ⟨_, rfl⟩
    have HE := Lib.hid hE; have HRK := Lib.hid hRk
    clear hE hRk
    have y1 : (0 : Int) ≤ (k : Int) := by omega
    by_cases hlt : k < n
    · have hke : k < xs.length := by rw [HLEN.out]; exact hlt
      obtain ⟨b, o, rfl, hbw, hc⟩ := HB.out.2 (by omega)
      have q := fun i hi => (HE.out.cell (p := ⟨b, o + k * 2 + i, none⟩) hbw).trans (hc k hke i hi)
      obtain ⟨u, hu⟩ : ∃ u, u = xs[k] := ⟨_, rfl⟩
      rw [← hu] at q
      have HCU := Lib.hid (HCL.out u wi HE.out)
      have HT1 : Hid (t < u.tick → Fst Mk.tick t xs (k : Int)) := Lib.hid (fun h => .inl ⟨k, rfl, ⟨hke, by rw [← hu]; exact h⟩, HRK.out⟩)
      have HT2 : Hid (¬ t < u.tick → ∀ j (hj : j < xs.length), j < k + 1 → xs[j].tick ≤ t) := Lib.hid (fun h j hj hjk => by
        by_cases hjk2 : j = k
        · subst hjk2; rw [← hu]; omega
        · exact HRK.out j hj (by omega))
      clear hu
      obtain ⟨u, s⟩ := u
      have a0 := q 0 (by omega)
      have a1 := q 1 (by omega)
      simp only [cM, Nat.add_zero, List.getElem?_cons_zero, List.getElem?_cons_succ] at a0 a1
      have y2 : (k : Int) < (n : Int) := by omega
      clear hc q hke
      simp only at HCU HT1 HT2
      by_cases h1 : t < u
      · have HF := Lib.hid (HT1.out h1)
        rw [decide_eq_true h1] at HCU
        clear HT1 HT2
        go_wp2_with fail
        refine (HCU.out).mono ?_
        rintro e w5 ⟨rfl, hE5⟩
        have HE5 := Lib.hid (ext_trans HE.out hE5)
        clear hE5
        go_wp2_with fail
        go_ret
        exact ⟨_, rfl, HF.out, HE5.out⟩
      · have HF := Lib.hid (HT2.out h1)
        rw [decide_eq_false h1] at HCU
        clear HT1 HT2
        go_wp2_with fail
        refine (HCU.out).mono ?_
        rintro e w5 ⟨rfl, hE5⟩
        have HE5 := Lib.hid (ext_trans HE.out hE5)
        clear hE5
        go_wp2_with fail
        go_roundg (gh - 1)
        case measure => omega
        case rel => exact ⟨k + 1, by omega, by go_num, HE5.out, HF.out⟩
    · obtain rfl : gh = 0 := by omega
      obtain rfl : k = n := by omega
      have y2 : ¬ (k : Int) < (k : Int) := by omega
      go_wp2_with fail
      go_ret
      exact ⟨_, rfl, .inr ⟨rfl, fun j hj => HRK.out j hj (by rw [← HLEN.out]; exact hj)⟩, HE.out⟩
end Go.Proofs.Ytlldmpcamdginaa.Trk
namespace Go.Proofs.Ytlldmpcamdginaa.Trk
open Go.ChangeShapes Go.WideShapes Go.ChangeAt Go.RowKit
open Go.Proofs.Ytlldmpcamdginaa.Rec
open Go.Proofs.Ytlldmpcamdginaa.Log (results_cell2 OwnR_keep)
set_option linter.unusedVariables false
def AdPost (w : World) (x : Tk) (e : Ending) (w' : World) : Prop := Ext w w' ∧ ∃ t : Tv, e = .returned (.tuple #[.agg t.cells, .int .i64 0]) ∧ TkV w' t x
set_option maxHeartbeats 8000000 in
set_option maxRecDepth 100000 in
theorem add_end (t : Tv) (x : Tk) (m : Mk) (n : Int) (w : World) (hB : TkV w t x) (hl : (∀ c ∈ x.cams, c.length ≤ 1000000) ∧ x.marks.length ≤ 1000000) (hn1 : -9223372036854775808 ≤ n) (hn2 : n ≤ 9223372036854775807) (hy : mayT n x = true) (hm : okM n m) (hc : x.marks.length < 32) (hq : ∀ q ∈ x.marks, q.tick ≤ m.tick) :
    Calls Try.prog 22 #[.agg t.cells, .agg #[.int .i64 m.tick, .string m.name], .int .i64 n] w (AdPost w ⟨x.c0, x.c1, x.c2, x.c3, x.marks ++ [m]⟩) := by
  have HE0 := Lib.hid (ext_alloc (ext_alloc (ext_alloc (Ext.rfl' w) (.cells t.cells 54)) (.cells #[.int .i64 m.tick, .string m.name] 68)) (.cells zeroT 54))
  have HH0 := Lib.hid (((Blk.new w 54 t.cells).alloc (.cells #[.int .i64 m.tick, .string m.name] 68)).alloc (.cells zeroT 54))
  have HM0 := Lib.hid ((Blk.new (w.alloc (.cells t.cells 54)) 68 #[.int .i64 m.tick, .string m.name]).alloc (.cells zeroT 54))
  have HZ0 := Lib.hid (Blk.new ((w.alloc (.cells t.cells 54)).alloc (.cells #[.int .i64 m.tick, .string m.name] 68)) 54 zeroT)
  have z1 : (w.alloc (.cells t.cells 54)).heap.size = w.heap.size + 1 := World.size_alloc _ _
  have z2 : ((w.alloc (.cells t.cells 54)).alloc (.cells #[.int .i64 m.tick, .string m.name] 68)).heap.size = w.heap.size + 1 + 1 := by rw [World.size_alloc, z1]
  rw [z2] at HZ0
  rw [z1] at HM0
  clear z1 z2
  have HCP := Lib.hid (fun (W : World) (e : Ext w W) => copied_st t x W (hB.ext e) hl)
  have HMY := Lib.hid (fun (t' : Tv) (W : World) (h : TkV W t' x) => may_st t' x n W h hn1 hn2)
  rw [hy] at HMY
  have HMM := Lib.hid (fun (W : World) => markMay_st m n W (by have := hm.2.2; omega))
  rw [decide_eq_true hm] at HMM
  have HCN := Lib.hid hc; have HQ := Lib.hid hq; have HOK := Lib.hid hm
  have HFS : Hid (∀ r, Fst Mk.tick m.tick x.marks r → r = -1) := Lib.hid (fun r h => by
    rcases h with ⟨k, rfl, ⟨hk, hk2⟩, _⟩ | ⟨h, _⟩
    · have := hq _ (List.getElem_mem hk); omega
    · exact h)
  clear hB hl hy hm hc hq
  obtain ⟨⟨A0, n0, c0⟩, ⟨A1, n1, c1⟩, ⟨A2, n2, c2⟩, ⟨A3, n3, c3⟩, ⟨Am, nm, cm⟩⟩ := t
  obtain ⟨mt, mn⟩ := m
  simp only [Tv.cells, zeroT] at *
  go_enter Try.func22, Try.ntmps22
  go_upto_region 1 with fail
  obtain ⟨w0, hw0⟩ : ∃ q, q = ((w.alloc (.cells #[.slice A0 n0 c0, .slice A1 n1 c1, .slice A2 n2 c2, .slice A3 n3 c3, .slice Am nm cm] 54)).alloc (.cells #[.int .i64 mt, .string mn] 68)).alloc (.cells #[.slice none 0 0, .slice none 0 0, .slice none 0 0, .slice none 0 0, .slice none 0 0] 54) := ⟨_, rfl⟩
  rw [← hw0] at HE0 HH0 HM0 HZ0 ⊢
  clear hw0
  obtain ⟨hb, hhb⟩ : ∃ q, q = w.heap.size := ⟨_, rfl⟩
  rw [← hhb] at HH0 HM0 HZ0 ⊢
  replace hhb := Lib.hid hhb
  have HCL := Lib.hid (HCP.out w0 HE0.out)
  have h0 := HH0.out.cell 0; have h1 := HH0.out.cell 1; have h2 := HH0.out.cell 2; have h3 := HH0.out.cell 3; have h4 := HH0.out.cell 4
  simp only [List.getElem?_toArray, List.getElem?_cons_zero, List.getElem?_cons_succ] at h0 h1 h2 h3 h4
  go_wp2_with fail
  refine (HCL.out).mono ?_
  rintro e w1 ⟨hE1, ⟨⟨A0', n0', c0'⟩, ⟨A1', n1', c1'⟩, ⟨A2', n2', c2'⟩, ⟨A3', n3', c3'⟩, ⟨Am', nm', cm'⟩⟩, B, rfl, hT, hB1, hB2, hO, hbl⟩
  clear h0 h1 h2 h3 h4 HCP HCL
  simp only [Tv.cells] at *
  have HE1 := Lib.hid (ext_trans HE0.out hE1)
  have HH1 := Lib.hid (HH0.out.ext hE1); have HM1 := Lib.hid (HM0.out.ext hE1); have HZ1 := Lib.hid (HZ0.out.ext hE1)
  have HT := Lib.hid hT; have HO := Lib.hid hO; have HBL := Lib.hid hbl
  have HSZ := Lib.hid (show w0.heap.size ≤ B ∧ B ≤ w1.heap.size from ⟨hB1, hB2⟩)
  clear hE1 hT hB1 hB2 hO hbl
  have f0 := HH1.out.frozen 0; have f1 := HH1.out.frozen 1; have f2 := HH1.out.frozen 2; have f3 := HH1.out.frozen 3; have f4 := HH1.out.frozen 4
  have h0 := HH1.out.cell 0; have h1 := HH1.out.cell 1; have h2 := HH1.out.cell 2; have h3 := HH1.out.cell 3; have h4 := HH1.out.cell 4
  simp only [List.getElem?_toArray, List.getElem?_cons_zero, List.getElem?_cons_succ] at h0 h1 h2 h3 h4
  go_upto_region 2 with fail
  have hne1 : hb + 1 ≠ hb := by omega
  have hne2 : hb + 1 + 1 ≠ hb := by omega
  have hLb : hb + 1 + 1 < w0.heap.size := HZ0.out.lt
  obtain ⟨w2, hw2⟩ : ∃ q, q = (((((w1.setCell ⟨hb, 0, none⟩ (.slice A0' n0' c0')).setCell ⟨hb, 1, none⟩ (.slice A1' n1' c1')).setCell ⟨hb, 2, none⟩ (.slice A2' n2' c2')).setCell ⟨hb, 3, none⟩ (.slice A3' n3' c3')).setCell ⟨hb, 4, none⟩ (.slice Am' nm' cm')) := ⟨_, rfl⟩
  have hk : ∀ k, k ≠ hb → w2.heap[k]? = w1.heap[k]? := fun k h1 => by
    rw [hw2, Below.heap_setCell _ ⟨hb, 4, none⟩ _ _ h1, Below.heap_setCell _ ⟨hb, 3, none⟩ _ _ h1, Below.heap_setCell _ ⟨hb, 2, none⟩ _ _ h1, Below.heap_setCell _ ⟨hb, 1, none⟩ _ _ h1, Below.heap_setCell _ ⟨hb, 0, none⟩ _ _ h1]
  have hs2 : w1.heap.size = w2.heap.size := by rw [hw2]; simp [World.setCell]
  have HH2 : Hid (Blk w2 hb 54 #[.slice A0' n0' c0', .slice A1' n1' c1', .slice A2' n2' c2', .slice A3' n3' c3', .slice Am' nm' cm']) := Lib.hid (by rw [hw2]; exact ((((HH1.out.set_ 0 _).set_ 1 _).set_ 2 _).set_ 3 _).set_ 4 _)
  have HM2 : Hid (Blk w2 (hb + 1) 68 #[.int .i64 mt, .string mn]) := Lib.hid ((hk _ hne1).trans HM1.out)
  have HZ2 : Hid (Blk w2 (hb + 1 + 1) 54 #[.slice none 0 0, .slice none 0 0, .slice none 0 0, .slice none 0 0, .slice none 0 0]) := Lib.hid ((hk _ hne2).trans HZ1.out)
  have hwhb : w.heap.size ≤ hb := by have := hhb.out; omega
  have HE2 : Hid (Ext w w2) := Lib.hid (by rw [hw2]; exact ext_set (ext_set (ext_set (ext_set (ext_set HE1.out hwhb _) hwhb _) hwhb _) hwhb _) hwhb _)
  have HO2 := Lib.hid (OwnR_keep HO.out (fun k h1 _ => hk k (by have := HSZ.out; omega)))
  have HT2 : Hid (TkV w2 ⟨⟨A0', n0', c0'⟩, ⟨A1', n1', c1'⟩, ⟨A2', n2', c2'⟩, ⟨A3', n3', c3'⟩, ⟨Am', nm', cm'⟩⟩ x) := Lib.hid <| by
    obtain ⟨b0, b1, b2, b3⟩ := HBL.out
    simp only at b0 b1 b2 b3
    have q := HT.out
    have hs3 : w1.heap.size ≤ w2.heap.size := by omega
    exact ⟨⟨q.1.1.keep hs3 (fun a ha _ => hk _ (by have := (b0 a ha).1; omega)), q.1.2⟩, ⟨q.2.1.1.keep hs3 (fun a ha _ => hk _ (by have := (b1 a ha).1; omega)), q.2.1.2⟩, ⟨q.2.2.1.1.keep hs3 (fun a ha _ => hk _ (by have := (b2 a ha).1; omega)), q.2.2.1.2⟩, ⟨q.2.2.2.1.1.keep hs3 (fun a ha _ => hk _ (by have := (b3 a ha).1; omega)), q.2.2.2.1.2⟩, OwnR.row cM_len HO2.out, q.2.2.2.2.2⟩
  have HSZ2 := Lib.hid (show w0.heap.size ≤ B ∧ B ≤ w2.heap.size by have := HSZ.out; omega)
  rw [← hw2]
  clear hw2 hk hs2 h0 h1 h2 h3 h4 f0 f1 f2 f3 f4 HH1 HM1 HZ1 HE1 HO HT HSZ
  have HY := Lib.hid (HMY.out ⟨⟨A0', n0', c0'⟩, ⟨A1', n1', c1'⟩, ⟨A2', n2', c2'⟩, ⟨A3', n3', c3'⟩, ⟨Am', nm', cm'⟩⟩ w2 HT2.out)
  simp only [Tv.cells] at HY
  have h0 := HH2.out.cell 0; have h1 := HH2.out.cell 1; have h2 := HH2.out.cell 2; have h3 := HH2.out.cell 3; have h4 := HH2.out.cell 4
  simp only [List.getElem?_toArray, List.getElem?_cons_zero, List.getElem?_cons_succ] at h0 h1 h2 h3 h4
  go_wp2_with fail
  refine (HY.out).mono ?_
  rintro e w3 ⟨rfl, hE3⟩
  clear h0 h1 h2 h3 h4 HY HMY
  have HX3 := Lib.hid hE3
  have m0 := kc hE3 (HM2.out.cell 0); have m1 := kc hE3 (HM2.out.cell 1)
  clear hE3
  go_wp2_with fail
  refine (HMM.out w3).mono ?_
  rintro e w4 ⟨rfl, hE4⟩
  have HX4 := Lib.hid (ext_trans HX3.out hE4)
  clear hE4 HX3 m0 m1 HMM
  have HH4 := Lib.hid (HH2.out.ext HX4.out); have HM4 := Lib.hid (HM2.out.ext HX4.out); have HZ4 := Lib.hid (HZ2.out.ext HX4.out)
  have HT4 := Lib.hid (HT2.out.ext HX4.out); have HO4 := Lib.hid (HO2.out.ext HX4.out); have HE4 := Lib.hid (ext_trans HE2.out HX4.out)
  have HB4 := Lib.hid (Nat.le_trans HSZ2.out.2 HX4.out.size)
  have HLM := Lib.hid HT4.out.2.2.2.2.1.1
  have hn32 : nm' < 32 := by have := HLM.out; have := HCN.out; simp only at *; omega
  have hn32' : ¬ (nm' : Int) = 32 := by omega
  clear HH2 HM2 HZ2 HE2 HO2 HT2 HX4
  have h4 := HH4.out.cell 4; have m0 := HM4.out.cell 0; have m1 := HM4.out.cell 1
  simp only [List.getElem?_toArray, List.getElem?_cons_zero, List.getElem?_cons_succ] at h4 m0 m1
  have HIX := Lib.hid (idxM_st Am' nm' cm' x.marks mt (hb + 1) w4 HT4.out.2.2.2.2.1 (by omega) m0 HM4.out.lt)
  go_wp2_with fail
  refine (HIX.out).mono ?_
  rintro e w5 ⟨r, rfl, hr, hE5⟩
  obtain rfl := HFS.out r hr
  clear hr HIX HFS h4 m0 m1
  have HH5 := Lib.hid (HH4.out.ext hE5); have HM5 := Lib.hid (HM4.out.ext hE5); have HZ5 := Lib.hid (HZ4.out.ext hE5)
  have HT5 := Lib.hid (HT4.out.ext hE5); have HO5 := Lib.hid (HO4.out.ext hE5); have HE5 := Lib.hid (ext_trans HE4.out hE5)
  have HB5 := Lib.hid (Nat.le_trans HB4.out hE5.size)
  clear hE5 HH4 HM4 HZ4 HT4 HO4 HE4 HB4
  have HSRC := Lib.hid (src_rec (P := Try.prog) (e' := 68) Try.underlying52 w5 (cM ⟨mt, mn⟩) rfl (by intro u hu; simp [cM] at hu; rcases hu with rfl | rfl <;> rfl) 1)
  have hEA := ext_alloc (Ext.rfl' w5) (.cells (cM ⟨mt, mn⟩).toArray 68)
  have HIN := Lib.hid (insert_end B Am' nm' cm' x.marks ⟨mt, mn⟩ ⟨w5.heap.size, 0, none⟩ 1 _ (HO5.out.ext hEA) (Nat.le_trans HB5.out hEA.size) HSRC.out (by omega) HLM.out)
  have HEA := Lib.hid hEA
  clear hEA
  have h4 := HH5.out.cell 4; have m0 := HM5.out.cell 0; have m1 := HM5.out.cell 1
  simp only [List.getElem?_toArray, List.getElem?_cons_zero, List.getElem?_cons_succ] at h4 m0 m1
  go_wp2_with fail
  refine (HIN.out).mono ?_
  rintro e w6 ⟨v', rfl, hO6, hG6⟩
  obtain ⟨A9, c9, hv, hl1, hl2, hl3, hl4⟩ := hO6.shape
  subst hv
  have hob : ∀ k, (Value.slice Am' nm' cm').ownBlock = some k → B ≤ k := fun k e => (World.ownsRow.lt HO5.out k e).1
  have hkeep : ∀ k, k < B → w6.heap[k]? = w5.heap[k]? := fun k hk => (hG6.block k (Nat.lt_of_lt_of_le hk (Nat.le_trans HB5.out HEA.out.size)) (fun e => by have := hob k e.symm; omega)).trans (HEA.out.block k (Nat.lt_of_lt_of_le hk HB5.out))
  have hBB := HSZ2.out.1
  have HE6 := Lib.hid (ext_grown (ext_trans HE5.out HEA.out) hG6 (fun q e => by have := hob q e; have := hhb.out; omega))
  have HH6 : Hid (Blk w6 hb 54 #[.slice A0' n0' c0', .slice A1' n1' c1', .slice A2' n2' c2', .slice A3' n3' c3', .slice Am' nm' cm']) := Lib.hid ((hkeep _ (by omega)).trans HH5.out)
  have HZ6 : Hid (Blk w6 (hb + 1 + 1) 54 #[.slice none 0 0, .slice none 0 0, .slice none 0 0, .slice none 0 0, .slice none 0 0]) := Lib.hid ((hkeep _ (by omega)).trans HZ5.out)
  have hs56 : w5.heap.size ≤ w6.heap.size := Nat.le_trans HEA.out.size hG6.size
  have HC6 : Hid (PtsV w6 A0' n0' c0' x.c0 ∧ PtsV w6 A1' n1' c1' x.c1 ∧ PtsV w6 A2' n2' c2' x.c2 ∧ PtsV w6 A3' n3' c3' x.c3) := Lib.hid <| by
    obtain ⟨b0, b1, b2, b3⟩ := HBL.out
    simp only at b0 b1 b2 b3
    have q := HT5.out
    exact ⟨⟨q.1.1.keep hs56 (fun a ha _ => hkeep _ (b0 a ha).2), q.1.2⟩, ⟨q.2.1.1.keep hs56 (fun a ha _ => hkeep _ (b1 a ha).2), q.2.1.2⟩, ⟨q.2.2.1.1.keep hs56 (fun a ha _ => hkeep _ (b2 a ha).2), q.2.2.1.2⟩, ⟨q.2.2.2.1.1.keep hs56 (fun a ha _ => hkeep _ (b3 a ha).2), q.2.2.2.1.2⟩⟩
  have HO6 := Lib.hid hO6
  have HL6 : Hid ((x.marks ++ [(⟨mt, mn⟩ : Mk)]).length ≤ c9 ∧ c9 ≤ 9223372036854775807 ∧ (A9 = none → (x.marks ++ [(⟨mt, mn⟩ : Mk)]).length = 0 ∧ c9 = 0)) := Lib.hid ⟨hl1, hl2, hl3⟩
  have HNM : Hid (∀ q ∈ x.marks ++ [(⟨mt, mn⟩ : Mk)], q.name.size ≤ 9223372036854775807) := Lib.hid (fun q hq => by
    rcases List.mem_append.1 hq with hq | hq
    · exact HT5.out.2.2.2.2.2.2.2.2 q hq
    · rw [List.mem_singleton] at hq; subst hq; have := HOK.out.2.2; simp only at this ⊢; omega)
  clear hob hkeep hG6 hO6 hl1 hl2 hl3 hl4 h4 m0 m1 HH5 HM5 HZ5 HT5 HE5 HSRC HIN HEA HO5
  generalize hnx : (x.marks ++ [(⟨mt, mn⟩ : Mk)]).length = nx at *
  replace hnx := Lib.hid hnx
  have h0 := HH6.out.cell 0; have h1 := HH6.out.cell 1; have h2 := HH6.out.cell 2; have h3 := HH6.out.cell 3; have h4 := HH6.out.cell 4
  have f4 := HH6.out.frozen 4
  have z0 := HZ6.out.cell 0; have z1 := HZ6.out.cell 1; have z2 := HZ6.out.cell 2; have z3 := HZ6.out.cell 3; have z4 := HZ6.out.cell 4
  have y0 := HZ6.out.frozen 0; have y1 := HZ6.out.frozen 1; have y2 := HZ6.out.frozen 2; have y3 := HZ6.out.frozen 3; have y4 := HZ6.out.frozen 4
  simp only [List.getElem?_toArray, List.getElem?_cons_zero, List.getElem?_cons_succ] at h0 h1 h2 h3 h4 z0 z1 z2 z3 z4
  have hne3 : hb ≠ hb + 1 + 1 := by omega
  go_wp2_with fail
  have hbk := ((((((HZ6.out.far (p := ⟨hb, 4, none⟩) hne2 (.slice A9 nx c9)).set_ 0 (.slice A0' n0' c0')).set_ 1 (.slice A1' n1' c1')).set_ 2 (.slice A2' n2' c2')).set_ 3 (.slice A3' n3' c3')).set_ 4 (.slice A9 nx c9))
  refine bodyPost_ret (v := .tuple #[.agg (Tv.cells ⟨⟨A0', n0', c0'⟩, ⟨A1', n1', c1'⟩, ⟨A2', n2', c2'⟩, ⟨A3', n3', c3'⟩, ⟨A9, nx, c9⟩⟩), .int .i64 0]) (results_cell2 Try.results22 _ _ (hb + 1 + 1) 54 _ (0, 0) _ rfl hbk _ rfl Try.underlying54 rfl (by kernel_rfl)) rfl ?_
  clear hbk h0 h1 h2 h3 h4 f4 z0 z1 z2 z3 z4 y0 y1 y2 y3 y4
  have hrw : w.heap.size ≤ hb + 1 + 1 := by omega
  have hEE := ext_set (ext_set (ext_set (ext_set (ext_set (ext_set HE6.out (p := ⟨hb, 4, none⟩) hwhb (.slice A9 nx c9)) (p := ⟨hb + 1 + 1, 0, none⟩) hrw (.slice A0' n0' c0')) (p := ⟨hb + 1 + 1, 1, none⟩) hrw (.slice A1' n1' c1')) (p := ⟨hb + 1 + 1, 2, none⟩) hrw (.slice A2' n2' c2')) (p := ⟨hb + 1 + 1, 3, none⟩) hrw (.slice A3' n3' c3')) (p := ⟨hb + 1 + 1, 4, none⟩) hrw (.slice A9 nx c9)
  refine ⟨hEE, _, rfl, ?_⟩
  have hk : ∀ k, k ≠ hb → k ≠ hb + 1 + 1 → ((((((w6.setCell ⟨hb, 4, none⟩ (.slice A9 nx c9)).setCell ⟨hb + 1 + 1, 0, none⟩ (.slice A0' n0' c0')).setCell ⟨hb + 1 + 1, 1, none⟩ (.slice A1' n1' c1')).setCell ⟨hb + 1 + 1, 2, none⟩ (.slice A2' n2' c2')).setCell ⟨hb + 1 + 1, 3, none⟩ (.slice A3' n3' c3')).setCell ⟨hb + 1 + 1, 4, none⟩ (.slice A9 nx c9)).heap[k]? = w6.heap[k]? := fun k h1 h2 => by
    rw [Below.heap_setCell _ ⟨hb + 1 + 1, 4, none⟩ _ _ h2, Below.heap_setCell _ ⟨hb + 1 + 1, 3, none⟩ _ _ h2, Below.heap_setCell _ ⟨hb + 1 + 1, 2, none⟩ _ _ h2, Below.heap_setCell _ ⟨hb + 1 + 1, 1, none⟩ _ _ h2, Below.heap_setCell _ ⟨hb + 1 + 1, 0, none⟩ _ _ h2, Below.heap_setCell _ ⟨hb, 4, none⟩ _ _ h1]
  have hs : w6.heap.size ≤ ((((((w6.setCell ⟨hb, 4, none⟩ (.slice A9 nx c9)).setCell ⟨hb + 1 + 1, 0, none⟩ (.slice A0' n0' c0')).setCell ⟨hb + 1 + 1, 1, none⟩ (.slice A1' n1' c1')).setCell ⟨hb + 1 + 1, 2, none⟩ (.slice A2' n2' c2')).setCell ⟨hb + 1 + 1, 3, none⟩ (.slice A3' n3' c3')).setCell ⟨hb + 1 + 1, 4, none⟩ (.slice A9 nx c9)).heap.size := by simp [World.setCell]
  generalize ((((((w6.setCell ⟨hb, 4, none⟩ (.slice A9 nx c9)).setCell ⟨hb + 1 + 1, 0, none⟩ (.slice A0' n0' c0')).setCell ⟨hb + 1 + 1, 1, none⟩ (.slice A1' n1' c1')).setCell ⟨hb + 1 + 1, 2, none⟩ (.slice A2' n2' c2')).setCell ⟨hb + 1 + 1, 3, none⟩ (.slice A3' n3' c3')).setCell ⟨hb + 1 + 1, 4, none⟩ (.slice A9 nx c9)) = W at *
  obtain ⟨b0, b1, b2, b3⟩ := HBL.out
  simp only at b0 b1 b2 b3
  obtain ⟨q0, q1, q2, q3⟩ := HC6.out
  have kO := OwnR_keep HO6.out (fun k hk1 _ => hk k (by omega) (by omega))
  exact ⟨⟨q0.1.keep hs (fun a ha _ => hk _ (by have := (b0 a ha).1; omega) (by have := (b0 a ha).1; omega)), q0.2⟩, ⟨q1.1.keep hs (fun a ha _ => hk _ (by have := (b1 a ha).1; omega) (by have := (b1 a ha).1; omega)), q1.2⟩, ⟨q2.1.keep hs (fun a ha _ => hk _ (by have := (b2 a ha).1; omega) (by have := (b2 a ha).1; omega)), q2.2⟩, ⟨q3.1.keep hs (fun a ha _ => hk _ (by have := (b3 a ha).1; omega) (by have := (b3 a ha).1; omega)), q3.2⟩, OwnR.row cM_len kO, HL6.out.1, HL6.out.2.1, HL6.out.2.2, HNM.out⟩
end Go.Proofs.Ytlldmpcamdginaa.Trk
