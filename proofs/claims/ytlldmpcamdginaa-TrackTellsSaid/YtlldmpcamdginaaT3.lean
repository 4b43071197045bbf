/- Tracks: slices cloned; a track copied. -/
import Derived.Test.YtlldmpcamdginaaTrkG
import Derived.Lib.SliceRun
import Derived.LoopN
namespace Go.Proofs.Ytlldmpcamdginaa.Trk
open Go.ChangeShapes Go.WideShapes Go.ChangeAt Go.RowKit
open Go.Proofs.Ytlldmpcamdginaa.Rec
set_option linter.unusedVariables false
section
variable {α : Type}
theorem wpList_recs {P : Program} {w : World} {base : Nat} {ops : Array Oper} {rest : List Oper} {o : Oper} {a : Act} {Q : Exit → Act → World → Prop} (hgd : o.guard = none) (s x : Operand) (t e : TypeId) (k bytes : Nat) (z : Value) (f : α → List Value) (ho : o.op = .call { callee := .builtin .append, args := #[s, x], argTypes := #[t, t] })
    (ht : P.underlying t = some (.slice e)) (hi : (P.info? e).map (fun i => (i.zero, i.size, i.bytes)) = some (some z, k, bytes)) (hzs : z.cells.size = k) (hby : bytes ≤ 1000) (v vx : Value) (xs ys : List α) (hs : a.eval s = v) (hx : a.eval x = vx) (hO : OwnR base w e k f v xs) (hbase : base ≤ w.heap.size)
    (hsrc : Src P k t vx ys.length (ys.flatMap f) w) (hb : xs.length + ys.length ≤ 100000000) (h : ∀ v' w', OwnR base w' e k f v' (xs ++ ys) → w.grownBy w' v.ownBlock → wpList P ops Q rest (a.put o.dst v') w') : wpList P ops Q (o :: rest) a w := by
  obtain ⟨i0, hi0, hq⟩ := Option.map_eq_some_iff.1 hi
  simp only [Prod.mk.injEq] at hq
  obtain ⟨hz0, hz1, hz2⟩ := hq
  have hm : (xs.length + ys.length) * bytes ≤ 140737488355328 := by
    calc (xs.length + ys.length) * bytes ≤ (xs.length + ys.length) * 1000 := Nat.mul_le_mul_left _ hby
      _ ≤ 140737488355328 := by omega
  refine wpList_app_own hgd s x t t ho e i0 z k bytes ht hi0 hz0 hz1 hz2 hzs base v vx xs.length (xs.flatMap f) hs hx hO ys.length (ys.flatMap f) hsrc (by unfold maxLen; omega) hm hbase ?_
  intro v' w' h2 h3
  refine h v' w' ?_ h3
  unfold OwnR
  rw [List.length_append, List.flatMap_append]
  exact h2
theorem src_row {P : Program} {w : World} {tx e' : TypeId} {k n c : Nat} {f : α → List Value} {xs : List α} {a : Addr} (hk : P.underlying tx = some (.slice e')) (hf : ∀ x, (f x).length = k) (h : RowR w (some a) n k f xs) (h1 : ∀ x, ∀ u ∈ f x, u.oneCell' = true) : Src P k tx (.slice (some a) n c) xs.length (xs.flatMap f) w := by
  obtain ⟨hn, hc⟩ := h
  subst hn
  refine Src.ofSlice _ hk a _ c _ (flat_len hf xs) (fun j u hj => ?_) (fun u hu => ?_)
  · have hlt : j < xs.length * k := by
      have := (List.getElem?_eq_some_iff.1 hj).1
      rwa [flat_len hf] at this
    have hk0 : 0 < k := by
      rcases Nat.eq_zero_or_pos k with h | h
      · subst h; simp at hlt
      · exact h
    have hx0 : 0 < xs.length := by
      rcases Nat.eq_zero_or_pos xs.length with h | h
      · rw [h] at hlt; simp at hlt
      · exact h
    obtain ⟨b, o, e, hb, hcell⟩ := hc hx0
    obtain rfl := Option.some.inj e
    have hd : j / k < xs.length := (Nat.div_lt_iff_lt_mul hk0).2 hlt
    have hm : j % k < k := Nat.mod_lt _ hk0
    have hj2 : j / k * k + j % k = j := by rw [Nat.mul_comm]; exact Nat.div_add_mod j k
    have hadd : (⟨b, o, none⟩ : Addr).add j = ⟨b, o + j, none⟩ := by unfold Addr.add; split <;> simp_all
    have q := hcell (j / k) hd (j % k) hm
    rw [Nat.add_assoc, hj2] at q
    rw [hadd, q, ← flat_get hf xs (j / k) hd (j % k) hm, hj2, hj]
  · obtain ⟨x, _, hx⟩ := List.mem_flatMap.1 hu
    exact h1 x u hx
theorem own_empty (w : World) (e : TypeId) (k : Nat) (f : α → List Value) : OwnR w.heap.size (w.alloc (.cells #[] e)) e k f (.slice (some ⟨w.heap.size, 0, none⟩) 0 0) ([] : List α) := by
  refine ⟨by simp, .inr ⟨w.heap.size, 0, #[], rfl, Nat.le_refl _, ?_, Nat.le_refl _, by unfold maxLen; omega, by simp, by simp⟩⟩
  exact Blk.new w e #[]
end
/-- What a clone comes to. -/
def ClPost {α : Type} (w : World) (e : TypeId) (k : Nat) (f : α → List Value) (xs : List α) (r : Ending) (w' : World) : Prop :=
  ∃ v, r = .returned v ∧ OwnR w.heap.size w' e k f v xs ∧ Ext w w'
theorem cloneP_st (A : Option Addr) (n c : Nat) (xs : List Pt) (w : World) (h : RowR w A n 3 cP xs) (hnil : A = none → n = 0 ∧ c = 0) (hn : n ≤ 10000000) (hc : n ≤ c ∧ c ≤ 9223372036854775807) :
    Calls Try.prog 80 #[.slice A n c] w (ClPost w 115 3 cP xs) := by
  have qT : ∀ (w : World) (a : Option Addr) (n c n' c' : Nat), (binOp .eql 50 (.slice a n c) (.slice none n' c')).run Try.prog w = .ok (.bool a.isNone) w := fun w a n c n' c' => Lib.run_eql_slice_nil w _ _ a n c n' c' Try.underlying50
  cases A with
  | none =>
    obtain ⟨rfl, rfl⟩ := hnil rfl
    have hx : xs = [] := List.eq_nil_of_length_eq_zero h.1
    subst hx
    clear h hnil
    go_enter Try.func80, Try.ntmps80
    go_wp2_with fail
    go_ret
    exact ⟨_, rfl, OwnR.nil _ _ _ _ _, Ext.rfl' _⟩
  | some a =>
    have HSRC := Lib.hid (src_row (P := Try.prog) (c := c) Try.underlying50 cP_len (h.ext (ext_alloc (Ext.rfl' w) (.cells #[] 115))) (by intro x u hu; simp [cP] at hu; rcases hu with rfl | rfl | rfl <;> rfl))
    have HO := Lib.hid (own_empty w 115 3 cP)
    have HE := Lib.hid (ext_alloc (Ext.rfl' w) (.cells #[] 115))
    have HSZ : Hid (w.heap.size ≤ (w.alloc (.cells #[] 115)).heap.size) := Lib.hid (by rw [World.size_alloc]; omega)
    have HLN : Hid (([] : List Pt).length + xs.length ≤ 100000000) := Lib.hid (by rw [h.1]; simp; omega)
    clear h hnil
    go_enter Try.func80, Try.ntmps80
    go_wp2_with (at_builtin; refine wpList_recs rfl (.tmp 5) (.tmp 6) 50 115 3 16 _ cP rfl Try.underlying50 infoP rfl (by decide) _ _ [] xs rfl rfl HO.out HSZ.out HSRC.out HLN.out ?_; intro v9 w9 hO9 hG9; have HO9 := Lib.hid hO9; have HG9 := Lib.hid hG9; clear hO9 hG9)
    go_ret
    refine ⟨_, rfl, HO9.out, ext_grown HE.out HG9.out (fun q e => ?_)⟩
    have := (World.ownsRow.lt HO.out q e).1
    omega
theorem cloneM_st (A : Option Addr) (n c : Nat) (xs : List Mk) (w : World) (h : RowR w A n 2 cM xs) (hnil : A = none → n = 0 ∧ c = 0) (hn : n ≤ 10000000) (hc : n ≤ c ∧ c ≤ 9223372036854775807) :
    Calls Try.prog 81 #[.slice A n c] w (ClPost w 68 2 cM xs) := by
  have qT : ∀ (w : World) (a : Option Addr) (n c n' c' : Nat), (binOp .eql 52 (.slice a n c) (.slice none n' c')).run Try.prog w = .ok (.bool a.isNone) w := fun w a n c n' c' => Lib.run_eql_slice_nil w _ _ a n c n' c' Try.underlying52
  cases A with
  | none =>
    obtain ⟨rfl, rfl⟩ := hnil rfl
    have hx : xs = [] := List.eq_nil_of_length_eq_zero h.1
    subst hx
    clear h hnil
    go_enter Try.func81, Try.ntmps81
    go_wp2_with fail
    go_ret
    exact ⟨_, rfl, OwnR.nil _ _ _ _ _, Ext.rfl' _⟩
  | some a =>
    have HSRC := Lib.hid (src_row (P := Try.prog) (c := c) Try.underlying52 cM_len (h.ext (ext_alloc (Ext.rfl' w) (.cells #[] 68))) (by intro x u hu; simp [cM] at hu; rcases hu with rfl | rfl <;> rfl))
    have HO := Lib.hid (own_empty w 68 2 cM)
    have HE := Lib.hid (ext_alloc (Ext.rfl' w) (.cells #[] 68))
    have HSZ : Hid (w.heap.size ≤ (w.alloc (.cells #[] 68)).heap.size) := Lib.hid (by rw [World.size_alloc]; omega)
    have HLN : Hid (([] : List Mk).length + xs.length ≤ 100000000) := Lib.hid (by rw [h.1]; simp; omega)
    clear h hnil
    go_enter Try.func81, Try.ntmps81
    go_wp2_with (at_builtin; refine wpList_recs rfl (.tmp 5) (.tmp 6) 52 68 2 24 _ cM rfl Try.underlying52 infoM rfl (by decide) _ _ [] xs rfl rfl HO.out HSZ.out HSRC.out HLN.out ?_; intro v9 w9 hO9 hG9; have HO9 := Lib.hid hO9; have HG9 := Lib.hid hG9; clear hO9 hG9)
    go_ret
    refine ⟨_, rfl, HO9.out, ext_grown HE.out HG9.out (fun q e => ?_)⟩
    have := (World.ownsRow.lt HO.out q e).1
    omega
end Go.Proofs.Ytlldmpcamdginaa.Trk
namespace Go.Proofs.Ytlldmpcamdginaa.Trk
open Go.ChangeShapes Go.WideShapes Go.ChangeAt Go.RowKit
open Go.Proofs.Ytlldmpcamdginaa.Rec
open Go.Proofs.Ytlldmpcamdginaa.Log (OwnR_keep)
set_option linter.unusedVariables false
/-- What a copy comes to: its marks in a block of their own, behind the cameras'. -/
def Below4 (t : Tv) (L B : Nat) : Prop := (∀ a, t.s0.A = some a → L ≤ a.block ∧ a.block < B) ∧ (∀ a, t.s1.A = some a → L ≤ a.block ∧ a.block < B) ∧ (∀ a, t.s2.A = some a → L ≤ a.block ∧ a.block < B) ∧ (∀ a, t.s3.A = some a → L ≤ a.block ∧ a.block < B)
def CpPost (w : World) (x : Tk) (e : Ending) (w' : World) : Prop :=
  Ext w w' ∧ ∃ (t : Tv) (B : Nat), e = .returned (.agg t.cells) ∧ TkV w' t x ∧ w.heap.size ≤ B ∧ B ≤ w'.heap.size ∧ OwnR B w' 68 2 cM (.slice t.sm.A t.sm.n t.sm.c) x.marks ∧ Below4 t w.heap.size B
set_option maxHeartbeats 8000000 in
set_option maxRecDepth 100000 in
theorem copied_st (t : Tv) (x : Tk) (w : World) (hB : TkV w t x) (hl : (∀ c ∈ x.cams, c.length ≤ 1000000) ∧ x.marks.length ≤ 1000000) :
    Calls Try.prog 51 #[.agg t.cells] w (CpPost w x) := by
  have HE0 := Lib.hid (ext_alloc (ext_alloc (Ext.rfl' w) (.cells t.cells 54)) (.cells zeroT 54))
  have HH0 := Lib.hid ((Blk.new w 54 t.cells).alloc (.cells zeroT 54))
  have HZ0 := Lib.hid (Blk.new (w.alloc (.cells t.cells 54)) 54 zeroT)
  have HS0 : Hid ((w.alloc (.cells t.cells 54)).heap.size + 1 ≤ ((w.alloc (.cells t.cells 54)).alloc (.cells zeroT 54)).heap.size) := Lib.hid (by rw [World.size_alloc (w.alloc _)]; omega)
  have HLV : Hid (w.heap.size < (w.alloc (.cells t.cells 54)).heap.size ∧ w.heap.size ≤ w.heap.size) := Lib.hid (by rw [World.size_alloc]; omega)
  have HB := Lib.hid hB
  obtain ⟨⟨A0, n0, c0⟩, ⟨A1, n1, c1⟩, ⟨A2, n2, c2⟩, ⟨A3, n3, c3⟩, ⟨Am, nm, cm⟩⟩ := t
  obtain ⟨p0, p1, p2, p3, ms⟩ := x
  have HQ0 : Hid (n0 ≤ 10000000) := Lib.hid (by have := hl.1 p0 (by simp [Tk.cams]); have := hB.1.1.1; simp only at *; omega)
  have HQ1 : Hid (n1 ≤ 10000000) := Lib.hid (by have := hl.1 p1 (by simp [Tk.cams]); have := hB.2.1.1.1; simp only at *; omega)
  have HQ2 : Hid (n2 ≤ 10000000) := Lib.hid (by have := hl.1 p2 (by simp [Tk.cams]); have := hB.2.2.1.1.1; simp only at *; omega)
  have HQ3 : Hid (n3 ≤ 10000000) := Lib.hid (by have := hl.1 p3 (by simp [Tk.cams]); have := hB.2.2.2.1.1.1; simp only at *; omega)
  have HQM : Hid (nm ≤ 10000000) := Lib.hid (by have := hl.2; have := hB.2.2.2.2.1.1; simp only at *; omega)
  clear hB hl
  simp only [Tv.cells, zeroT] at *
  go_enter Try.func51, Try.ntmps51
  go_upto_region 1 with fail
  obtain ⟨w3, hw3⟩ : ∃ q, q = (w.alloc (.cells #[.slice A0 n0 c0, .slice A1 n1 c1, .slice A2 n2 c2, .slice A3 n3 c3, .slice Am nm cm] 54)).alloc (.cells #[.slice none 0 0, .slice none 0 0, .slice none 0 0, .slice none 0 0, .slice none 0 0] 54) := ⟨_, rfl⟩
  rw [← hw3] at HE0 HH0 HZ0 HS0 ⊢
  clear hw3
  have HWS : Hid ((w.alloc (.cells #[.slice A0 n0 c0, .slice A1 n1 c1, .slice A2 n2 c2, .slice A3 n3 c3, .slice Am nm cm] 54)).heap.size = w.heap.size + 1) := Lib.hid (World.size_alloc _ _)
  rw [HWS.out] at HZ0 HS0 HLV
  clear HWS
  obtain ⟨hb, hhb⟩ : ∃ q, q = w.heap.size := ⟨_, rfl⟩
  obtain ⟨rb, hrb⟩ : ∃ q, q = w.heap.size + 1 := ⟨_, rfl⟩
  try rw [World.size_alloc]
  rw [← hrb] at HZ0 HS0 ⊢
  rw [← hhb] at HH0 ⊢
  replace HLV : Hid (hb = w.heap.size ∧ rb = hb + 1) := Lib.hid ⟨hhb, by rw [hrb, hhb]⟩
  clear hhb hrb
  have hc := fun i => HH0.out.cell i
  go_wp2_with fail
  clear hc
  refine wp_loop_rounds 5 ?_
  rw [rounds_succ]
  have HCL := Lib.hid (cloneP_st A0 n0 c0 p0 w3 (HB.out.1.1.ext HE0.out) HB.out.1.2.2.2 HQ0.out ⟨HB.out.1.2.1, HB.out.1.2.2.1⟩)
  have hc := fun i => HH0.out.cell i
  have hfz := fun i => HH0.out.frozen i
  have hix := (idx4 (.slice A0 n0 c0) (.slice A1 n1 c1) (.slice A2 n2 c2) (.slice A3 n3 c3) w3).1
  go_wp2_with fail
  refine (HCL.out).mono ?_
  rintro e wa0 ⟨v, rfl, hO, hE⟩
  obtain ⟨B0, d0, hv, hl1, hl2, hl3, hl4⟩ := hO.shape
  subst hv
  clear hc hfz hix HCL
  have HP0 := Lib.hid (OwnR.row cP_len hO)
  have HL0 : Hid (p0.length ≤ d0 ∧ d0 ≤ 9223372036854775807 ∧ (B0 = none → p0.length = 0 ∧ d0 = 0)) := Lib.hid ⟨hl1, hl2, hl3⟩
  have HU0 : Hid (∀ a, B0 = some a → rb + 1 ≤ a.block ∧ a.block < wa0.heap.size) := Lib.hid (fun a ha => ⟨Nat.le_trans HS0.out (hl4 a ha), (World.ownsRow.lt hO a.block (by rw [ha]; rfl)).2⟩)
  have HBa := Lib.hid (HH0.out.ext hE)
  have HZa := Lib.hid (HZ0.out.ext hE)
  have HEa := Lib.hid (ext_trans HE0.out hE)
  have HSa := Lib.hid (Nat.le_trans HS0.out hE.size)
  clear hO hE hl1 hl2 hl3 hl4 HH0 HZ0 HE0 HS0
  have hc := fun i => HBa.out.cell i
  have hfz := fun i => HBa.out.frozen i
  generalize hn0 : p0.length = m0 at *
  replace hn0 := Lib.hid hn0
  go_wp2_with fail
  obtain ⟨wb0, hwn⟩ : ∃ q, q = wa0.setCell ⟨hb, 0, none⟩ (.slice B0 m0 d0) := ⟨_, rfl⟩
  have HH1 : Hid (Blk wb0 hb 54 #[.slice B0 m0 d0, .slice A1 n1 c1, .slice A2 n2 c2, .slice A3 n3 c3, .slice Am nm cm]) := Lib.hid (by rw [hwn]; exact HBa.out.set_ 0 _)
  have HZ1 := Lib.hid (HZa.out.far (p := ⟨hb, 0, none⟩) (by have := HLV.out; show rb ≠ hb; omega) (.slice B0 m0 d0))
  have HE1 := Lib.hid (ext_set HEa.out (p := ⟨hb, 0, none⟩) (by have := HLV.out; show w.heap.size ≤ hb; omega) (.slice B0 m0 d0))
  have HS1 : Hid (rb + 1 ≤ (wa0.setCell ⟨hb, 0, none⟩ (.slice B0 m0 d0)).heap.size) := Lib.hid (by have := HSa.out; simpa [World.setCell] using this)
  replace HP0 := Lib.hid (HP0.out.keep (w' := wa0.setCell ⟨hb, 0, none⟩ (.slice B0 m0 d0)) (by simp [World.setCell]) (fun a ha _ => Below.heap_setCell _ ⟨hb, 0, none⟩ _ _ (by have := (HU0.out a ha).1; have := HLV.out; show a.block ≠ hb; omega)))
  replace HU0 : Hid (∀ a, B0 = some a → rb + 1 ≤ a.block ∧ a.block < (wa0.setCell ⟨hb, 0, none⟩ (.slice B0 m0 d0)).heap.size) := Lib.hid (fun a ha => by have := HU0.out a ha; simpa [World.setCell] using this)
  rw [← hwn] at HZ1 HE1 HS1 HP0 HU0 ⊢
  clear hwn hc hfz HBa HZa HEa HSa
  rw [rounds_succ]
  have HCL := Lib.hid (cloneP_st A1 n1 c1 p1 wb0 (HB.out.2.1.1.ext HE1.out) HB.out.2.1.2.2.2 HQ1.out ⟨HB.out.2.1.2.1, HB.out.2.1.2.2.1⟩)
  have hc := fun i => HH1.out.cell i
  have hfz := fun i => HH1.out.frozen i
  have hix := (idx4 (.slice A0 n0 c0) (.slice A1 n1 c1) (.slice A2 n2 c2) (.slice A3 n3 c3) wb0).2.1
  go_wp2_with fail
  refine (HCL.out).mono ?_
  rintro e wa1 ⟨v, rfl, hO, hE⟩
  obtain ⟨B1, d1, hv, hl1, hl2, hl3, hl4⟩ := hO.shape
  subst hv
  clear hc hfz hix HCL
  have HP1 := Lib.hid (OwnR.row cP_len hO)
  have HL1 : Hid (p1.length ≤ d1 ∧ d1 ≤ 9223372036854775807 ∧ (B1 = none → p1.length = 0 ∧ d1 = 0)) := Lib.hid ⟨hl1, hl2, hl3⟩
  have HU1 : Hid (∀ a, B1 = some a → rb + 1 ≤ a.block ∧ a.block < wa1.heap.size) := Lib.hid (fun a ha => ⟨Nat.le_trans HS1.out (hl4 a ha), (World.ownsRow.lt hO a.block (by rw [ha]; rfl)).2⟩)
  have HBa := Lib.hid (HH1.out.ext hE)
  have HZa := Lib.hid (HZ1.out.ext hE)
  have HEa := Lib.hid (ext_trans HE1.out hE)
  have HSa := Lib.hid (Nat.le_trans HS1.out hE.size)
  replace HP0 := Lib.hid (HP0.out.ext hE)
  replace HU0 : Hid (∀ a, B0 = some a → rb + 1 ≤ a.block ∧ a.block < wa1.heap.size) := Lib.hid (fun a ha => ⟨(HU0.out a ha).1, Nat.lt_of_lt_of_le (HU0.out a ha).2 hE.size⟩)
  clear hO hE hl1 hl2 hl3 hl4 HH1 HZ1 HE1 HS1
  have hc := fun i => HBa.out.cell i
  have hfz := fun i => HBa.out.frozen i
  generalize hn1 : p1.length = m1 at *
  replace hn1 := Lib.hid hn1
  go_wp2_with fail
  obtain ⟨wb1, hwn⟩ : ∃ q, q = wa1.setCell ⟨hb, 1, none⟩ (.slice B1 m1 d1) := ⟨_, rfl⟩
  have HH2 : Hid (Blk wb1 hb 54 #[.slice B0 m0 d0, .slice B1 m1 d1, .slice A2 n2 c2, .slice A3 n3 c3, .slice Am nm cm]) := Lib.hid (by rw [hwn]; exact HBa.out.set_ 1 _)
  have HZ2 := Lib.hid (HZa.out.far (p := ⟨hb, 1, none⟩) (by have := HLV.out; show rb ≠ hb; omega) (.slice B1 m1 d1))
  have HE2 := Lib.hid (ext_set HEa.out (p := ⟨hb, 1, none⟩) (by have := HLV.out; show w.heap.size ≤ hb; omega) (.slice B1 m1 d1))
  have HS2 : Hid (rb + 1 ≤ (wa1.setCell ⟨hb, 1, none⟩ (.slice B1 m1 d1)).heap.size) := Lib.hid (by have := HSa.out; simpa [World.setCell] using this)
  replace HP0 := Lib.hid (HP0.out.keep (w' := wa1.setCell ⟨hb, 1, none⟩ (.slice B1 m1 d1)) (by simp [World.setCell]) (fun a ha _ => Below.heap_setCell _ ⟨hb, 1, none⟩ _ _ (by have := (HU0.out a ha).1; have := HLV.out; show a.block ≠ hb; omega)))
  replace HU0 : Hid (∀ a, B0 = some a → rb + 1 ≤ a.block ∧ a.block < (wa1.setCell ⟨hb, 1, none⟩ (.slice B1 m1 d1)).heap.size) := Lib.hid (fun a ha => by have := HU0.out a ha; simpa [World.setCell] using this)
  replace HP1 := Lib.hid (HP1.out.keep (w' := wa1.setCell ⟨hb, 1, none⟩ (.slice B1 m1 d1)) (by simp [World.setCell]) (fun a ha _ => Below.heap_setCell _ ⟨hb, 1, none⟩ _ _ (by have := (HU1.out a ha).1; have := HLV.out; show a.block ≠ hb; omega)))
  replace HU1 : Hid (∀ a, B1 = some a → rb + 1 ≤ a.block ∧ a.block < (wa1.setCell ⟨hb, 1, none⟩ (.slice B1 m1 d1)).heap.size) := Lib.hid (fun a ha => by have := HU1.out a ha; simpa [World.setCell] using this)
  rw [← hwn] at HZ2 HE2 HS2 HP0 HU0 HP1 HU1 ⊢
  clear hwn hc hfz HBa HZa HEa HSa
  rw [rounds_succ]
  have HCL := Lib.hid (cloneP_st A2 n2 c2 p2 wb1 (HB.out.2.2.1.1.ext HE2.out) HB.out.2.2.1.2.2.2 HQ2.out ⟨HB.out.2.2.1.2.1, HB.out.2.2.1.2.2.1⟩)
  have hc := fun i => HH2.out.cell i
  have hfz := fun i => HH2.out.frozen i
  have hix := (idx4 (.slice A0 n0 c0) (.slice A1 n1 c1) (.slice A2 n2 c2) (.slice A3 n3 c3) wb1).2.2.1
  go_wp2_with fail
  refine (HCL.out).mono ?_
  rintro e wa2 ⟨v, rfl, hO, hE⟩
  obtain ⟨B2, d2, hv, hl1, hl2, hl3, hl4⟩ := hO.shape
  subst hv
  clear hc hfz hix HCL
  have HP2 := Lib.hid (OwnR.row cP_len hO)
  have HL2 : Hid (p2.length ≤ d2 ∧ d2 ≤ 9223372036854775807 ∧ (B2 = none → p2.length = 0 ∧ d2 = 0)) := Lib.hid ⟨hl1, hl2, hl3⟩
  have HU2 : Hid (∀ a, B2 = some a → rb + 1 ≤ a.block ∧ a.block < wa2.heap.size) := Lib.hid (fun a ha => ⟨Nat.le_trans HS2.out (hl4 a ha), (World.ownsRow.lt hO a.block (by rw [ha]; rfl)).2⟩)
  have HBa := Lib.hid (HH2.out.ext hE)
  have HZa := Lib.hid (HZ2.out.ext hE)
  have HEa := Lib.hid (ext_trans HE2.out hE)
  have HSa := Lib.hid (Nat.le_trans HS2.out hE.size)
  replace HP0 := Lib.hid (HP0.out.ext hE)
  replace HU0 : Hid (∀ a, B0 = some a → rb + 1 ≤ a.block ∧ a.block < wa2.heap.size) := Lib.hid (fun a ha => ⟨(HU0.out a ha).1, Nat.lt_of_lt_of_le (HU0.out a ha).2 hE.size⟩)
  replace HP1 := Lib.hid (HP1.out.ext hE)
  replace HU1 : Hid (∀ a, B1 = some a → rb + 1 ≤ a.block ∧ a.block < wa2.heap.size) := Lib.hid (fun a ha => ⟨(HU1.out a ha).1, Nat.lt_of_lt_of_le (HU1.out a ha).2 hE.size⟩)
  clear hO hE hl1 hl2 hl3 hl4 HH2 HZ2 HE2 HS2
  have hc := fun i => HBa.out.cell i
  have hfz := fun i => HBa.out.frozen i
  generalize hn2 : p2.length = m2 at *
  replace hn2 := Lib.hid hn2
  go_wp2_with fail
  obtain ⟨wb2, hwn⟩ : ∃ q, q = wa2.setCell ⟨hb, 2, none⟩ (.slice B2 m2 d2) := ⟨_, rfl⟩
  have HH3 : Hid (Blk wb2 hb 54 #[.slice B0 m0 d0, .slice B1 m1 d1, .slice B2 m2 d2, .slice A3 n3 c3, .slice Am nm cm]) := Lib.hid (by rw [hwn]; exact HBa.out.set_ 2 _)
  have HZ3 := Lib.hid (HZa.out.far (p := ⟨hb, 2, none⟩) (by have := HLV.out; show rb ≠ hb; omega) (.slice B2 m2 d2))
  have HE3 := Lib.hid (ext_set HEa.out (p := ⟨hb, 2, none⟩) (by have := HLV.out; show w.heap.size ≤ hb; omega) (.slice B2 m2 d2))
  have HS3 : Hid (rb + 1 ≤ (wa2.setCell ⟨hb, 2, none⟩ (.slice B2 m2 d2)).heap.size) := Lib.hid (by have := HSa.out; simpa [World.setCell] using this)
  replace HP0 := Lib.hid (HP0.out.keep (w' := wa2.setCell ⟨hb, 2, none⟩ (.slice B2 m2 d2)) (by simp [World.setCell]) (fun a ha _ => Below.heap_setCell _ ⟨hb, 2, none⟩ _ _ (by have := (HU0.out a ha).1; have := HLV.out; show a.block ≠ hb; omega)))
  replace HU0 : Hid (∀ a, B0 = some a → rb + 1 ≤ a.block ∧ a.block < (wa2.setCell ⟨hb, 2, none⟩ (.slice B2 m2 d2)).heap.size) := Lib.hid (fun a ha => by have := HU0.out a ha; simpa [World.setCell] using this)
  replace HP1 := Lib.hid (HP1.out.keep (w' := wa2.setCell ⟨hb, 2, none⟩ (.slice B2 m2 d2)) (by simp [World.setCell]) (fun a ha _ => Below.heap_setCell _ ⟨hb, 2, none⟩ _ _ (by have := (HU1.out a ha).1; have := HLV.out; show a.block ≠ hb; omega)))
  replace HU1 : Hid (∀ a, B1 = some a → rb + 1 ≤ a.block ∧ a.block < (wa2.setCell ⟨hb, 2, none⟩ (.slice B2 m2 d2)).heap.size) := Lib.hid (fun a ha => by have := HU1.out a ha; simpa [World.setCell] using this)
  replace HP2 := Lib.hid (HP2.out.keep (w' := wa2.setCell ⟨hb, 2, none⟩ (.slice B2 m2 d2)) (by simp [World.setCell]) (fun a ha _ => Below.heap_setCell _ ⟨hb, 2, none⟩ _ _ (by have := (HU2.out a ha).1; have := HLV.out; show a.block ≠ hb; omega)))
  replace HU2 : Hid (∀ a, B2 = some a → rb + 1 ≤ a.block ∧ a.block < (wa2.setCell ⟨hb, 2, none⟩ (.slice B2 m2 d2)).heap.size) := Lib.hid (fun a ha => by have := HU2.out a ha; simpa [World.setCell] using this)
  rw [← hwn] at HZ3 HE3 HS3 HP0 HU0 HP1 HU1 HP2 HU2 ⊢
  clear hwn hc hfz HBa HZa HEa HSa
  rw [rounds_succ]
  have HCL := Lib.hid (cloneP_st A3 n3 c3 p3 wb2 (HB.out.2.2.2.1.1.ext HE3.out) HB.out.2.2.2.1.2.2.2 HQ3.out ⟨HB.out.2.2.2.1.2.1, HB.out.2.2.2.1.2.2.1⟩)
  have hc := fun i => HH3.out.cell i
  have hfz := fun i => HH3.out.frozen i
  have hix := (idx4 (.slice A0 n0 c0) (.slice A1 n1 c1) (.slice A2 n2 c2) (.slice A3 n3 c3) wb2).2.2.2
  go_wp2_with fail
  refine (HCL.out).mono ?_
  rintro e wa3 ⟨v, rfl, hO, hE⟩
  obtain ⟨B3, d3, hv, hl1, hl2, hl3, hl4⟩ := hO.shape
  subst hv
  clear hc hfz hix HCL
  have HP3 := Lib.hid (OwnR.row cP_len hO)
  have HL3 : Hid (p3.length ≤ d3 ∧ d3 ≤ 9223372036854775807 ∧ (B3 = none → p3.length = 0 ∧ d3 = 0)) := Lib.hid ⟨hl1, hl2, hl3⟩
  have HU3 : Hid (∀ a, B3 = some a → rb + 1 ≤ a.block ∧ a.block < wa3.heap.size) := Lib.hid (fun a ha => ⟨Nat.le_trans HS3.out (hl4 a ha), (World.ownsRow.lt hO a.block (by rw [ha]; rfl)).2⟩)
  have HBa := Lib.hid (HH3.out.ext hE)
  have HZa := Lib.hid (HZ3.out.ext hE)
  have HEa := Lib.hid (ext_trans HE3.out hE)
  have HSa := Lib.hid (Nat.le_trans HS3.out hE.size)
  replace HP0 := Lib.hid (HP0.out.ext hE)
  replace HU0 : Hid (∀ a, B0 = some a → rb + 1 ≤ a.block ∧ a.block < wa3.heap.size) := Lib.hid (fun a ha => ⟨(HU0.out a ha).1, Nat.lt_of_lt_of_le (HU0.out a ha).2 hE.size⟩)
  replace HP1 := Lib.hid (HP1.out.ext hE)
  replace HU1 : Hid (∀ a, B1 = some a → rb + 1 ≤ a.block ∧ a.block < wa3.heap.size) := Lib.hid (fun a ha => ⟨(HU1.out a ha).1, Nat.lt_of_lt_of_le (HU1.out a ha).2 hE.size⟩)
  replace HP2 := Lib.hid (HP2.out.ext hE)
  replace HU2 : Hid (∀ a, B2 = some a → rb + 1 ≤ a.block ∧ a.block < wa3.heap.size) := Lib.hid (fun a ha => ⟨(HU2.out a ha).1, Nat.lt_of_lt_of_le (HU2.out a ha).2 hE.size⟩)
  clear hO hE hl1 hl2 hl3 hl4 HH3 HZ3 HE3 HS3
  have hc := fun i => HBa.out.cell i
  have hfz := fun i => HBa.out.frozen i
  generalize hn3 : p3.length = m3 at *
  replace hn3 := Lib.hid hn3
  go_wp2_with fail
  obtain ⟨wb3, hwn⟩ : ∃ q, q = wa3.setCell ⟨hb, 3, none⟩ (.slice B3 m3 d3) := ⟨_, rfl⟩
  have HH4 : Hid (Blk wb3 hb 54 #[.slice B0 m0 d0, .slice B1 m1 d1, .slice B2 m2 d2, .slice B3 m3 d3, .slice Am nm cm]) := Lib.hid (by rw [hwn]; exact HBa.out.set_ 3 _)
  have HZ4 := Lib.hid (HZa.out.far (p := ⟨hb, 3, none⟩) (by have := HLV.out; show rb ≠ hb; omega) (.slice B3 m3 d3))
  have HE4 := Lib.hid (ext_set HEa.out (p := ⟨hb, 3, none⟩) (by have := HLV.out; show w.heap.size ≤ hb; omega) (.slice B3 m3 d3))
  have HS4 : Hid (rb + 1 ≤ (wa3.setCell ⟨hb, 3, none⟩ (.slice B3 m3 d3)).heap.size) := Lib.hid (by have := HSa.out; simpa [World.setCell] using this)
  replace HP0 := Lib.hid (HP0.out.keep (w' := wa3.setCell ⟨hb, 3, none⟩ (.slice B3 m3 d3)) (by simp [World.setCell]) (fun a ha _ => Below.heap_setCell _ ⟨hb, 3, none⟩ _ _ (by have := (HU0.out a ha).1; have := HLV.out; show a.block ≠ hb; omega)))
  replace HU0 : Hid (∀ a, B0 = some a → rb + 1 ≤ a.block ∧ a.block < (wa3.setCell ⟨hb, 3, none⟩ (.slice B3 m3 d3)).heap.size) := Lib.hid (fun a ha => by have := HU0.out a ha; simpa [World.setCell] using this)
  replace HP1 := Lib.hid (HP1.out.keep (w' := wa3.setCell ⟨hb, 3, none⟩ (.slice B3 m3 d3)) (by simp [World.setCell]) (fun a ha _ => Below.heap_setCell _ ⟨hb, 3, none⟩ _ _ (by have := (HU1.out a ha).1; have := HLV.out; show a.block ≠ hb; omega)))
  replace HU1 : Hid (∀ a, B1 = some a → rb + 1 ≤ a.block ∧ a.block < (wa3.setCell ⟨hb, 3, none⟩ (.slice B3 m3 d3)).heap.size) := Lib.hid (fun a ha => by have := HU1.out a ha; simpa [World.setCell] using this)
  replace HP2 := Lib.hid (HP2.out.keep (w' := wa3.setCell ⟨hb, 3, none⟩ (.slice B3 m3 d3)) (by simp [World.setCell]) (fun a ha _ => Below.heap_setCell _ ⟨hb, 3, none⟩ _ _ (by have := (HU2.out a ha).1; have := HLV.out; show a.block ≠ hb; omega)))
  replace HU2 : Hid (∀ a, B2 = some a → rb + 1 ≤ a.block ∧ a.block < (wa3.setCell ⟨hb, 3, none⟩ (.slice B3 m3 d3)).heap.size) := Lib.hid (fun a ha => by have := HU2.out a ha; simpa [World.setCell] using this)
  replace HP3 := Lib.hid (HP3.out.keep (w' := wa3.setCell ⟨hb, 3, none⟩ (.slice B3 m3 d3)) (by simp [World.setCell]) (fun a ha _ => Below.heap_setCell _ ⟨hb, 3, none⟩ _ _ (by have := (HU3.out a ha).1; have := HLV.out; show a.block ≠ hb; omega)))
  replace HU3 : Hid (∀ a, B3 = some a → rb + 1 ≤ a.block ∧ a.block < (wa3.setCell ⟨hb, 3, none⟩ (.slice B3 m3 d3)).heap.size) := Lib.hid (fun a ha => by have := HU3.out a ha; simpa [World.setCell] using this)
  rw [← hwn] at HZ4 HE4 HS4 HP0 HU0 HP1 HU1 HP2 HU2 HP3 HU3 ⊢
  clear hwn hc hfz HBa HZa HEa HSa
  rw [rounds_succ]
  have hc := fun i => HH4.out.cell i
  have hfz := fun i => HH4.out.frozen i
  have HCL := Lib.hid (cloneM_st Am nm cm ms wb3 (HB.out.2.2.2.2.1.ext HE4.out) HB.out.2.2.2.2.2.2.2.1 HQM.out ⟨HB.out.2.2.2.2.2.1, HB.out.2.2.2.2.2.2.1⟩)
  go_wp2_with fail
  refine (HCL.out).mono ?_
  rintro e w5 ⟨v, rfl, hO, hE⟩
  clear hc hfz HCL
  have HOM := Lib.hid hO
  have HB5 := Lib.hid (HH4.out.ext hE)
  have HZ5 := Lib.hid (HZ4.out.ext hE)
  have HE5 := Lib.hid (ext_trans HE4.out hE)
  have HS5 := Lib.hid hE.size
  replace HP0 := Lib.hid (HP0.out.ext hE); replace HP1 := Lib.hid (HP1.out.ext hE); replace HP2 := Lib.hid (HP2.out.ext hE); replace HP3 := Lib.hid (HP3.out.ext hE)
  obtain ⟨Bm, dm, hv, hl1, hl2, hl3, hl4⟩ := hO.shape
  subst hv
  have HLM : Hid (ms.length ≤ dm ∧ dm ≤ 9223372036854775807 ∧ (Bm = none → ms.length = 0 ∧ dm = 0) ∧ ∀ a, Bm = some a → wb3.heap.size ≤ a.block) := Lib.hid ⟨hl1, hl2, hl3, hl4⟩
  clear hO hE hl1 hl2 hl3 hl4
  have hc := fun i => HB5.out.cell i
  have hfz := fun i => HB5.out.frozen i
  have zc := fun i => HZ5.out.cell i
  have zf := fun i => HZ5.out.frozen i
  have hne : hb ≠ rb := by have := HLV.out; omega
  have hne2 : rb ≠ hb := by have := HLV.out; omega
  generalize hnm : ms.length = mm at *
  replace hnm := Lib.hid hnm
  go_wp2_with fail
  have hb1 := ((((((HZ5.out.far (p := ⟨hb, 4, none⟩) hne2 (.slice Bm mm dm)).set_ 0 (.slice B0 m0 d0)).set_ 1 (.slice B1 m1 d1)).set_ 2 (.slice B2 m2 d2)).set_ 3 (.slice B3 m3 d3)).set_ 4 (.slice Bm mm dm))
  refine bodyPost_ret (v := .agg (Tv.cells ⟨⟨B0, m0, d0⟩, ⟨B1, m1, d1⟩, ⟨B2, m2, d2⟩, ⟨B3, m3, d3⟩, ⟨Bm, mm, dm⟩⟩)) (results_cell_row Try.results51 _ _ rb 54 _ (0, 0) _ rfl hb1 Try.underlying54 rfl (by kernel_rfl)) rfl ?_
  clear hb1 hc hfz zc zf HB5 HZ5 HH4 HZ4
  have hrw : w.heap.size ≤ rb := by have := HLV.out; omega
  have hhw : w.heap.size ≤ hb := by have := HLV.out; omega
  have hEE := ext_set (ext_set (ext_set (ext_set (ext_set (ext_set HE5.out (p := ⟨hb, 4, none⟩) hhw (.slice Bm mm dm)) (p := ⟨rb, 0, none⟩) hrw (.slice B0 m0 d0)) (p := ⟨rb, 1, none⟩) hrw (.slice B1 m1 d1)) (p := ⟨rb, 2, none⟩) hrw (.slice B2 m2 d2)) (p := ⟨rb, 3, none⟩) hrw (.slice B3 m3 d3)) (p := ⟨rb, 4, none⟩) hrw (.slice Bm mm dm)
  have hk : ∀ k, k ≠ hb → k ≠ rb → ((((((w5.setCell ⟨hb, 4, none⟩ (.slice Bm mm dm)).setCell ⟨rb, 0, none⟩ (.slice B0 m0 d0)).setCell ⟨rb, 1, none⟩ (.slice B1 m1 d1)).setCell ⟨rb, 2, none⟩ (.slice B2 m2 d2)).setCell ⟨rb, 3, none⟩ (.slice B3 m3 d3)).setCell ⟨rb, 4, none⟩ (.slice Bm mm dm)).heap[k]? = w5.heap[k]? := fun k h1 h2 => by
    rw [Below.heap_setCell _ ⟨rb, 4, none⟩ _ _ h2, Below.heap_setCell _ ⟨rb, 3, none⟩ _ _ h2, Below.heap_setCell _ ⟨rb, 2, none⟩ _ _ h2, Below.heap_setCell _ ⟨rb, 1, none⟩ _ _ h2, Below.heap_setCell _ ⟨rb, 0, none⟩ _ _ h2, Below.heap_setCell _ ⟨hb, 4, none⟩ _ _ h1]
  have hs : w5.heap.size ≤ ((((((w5.setCell ⟨hb, 4, none⟩ (.slice Bm mm dm)).setCell ⟨rb, 0, none⟩ (.slice B0 m0 d0)).setCell ⟨rb, 1, none⟩ (.slice B1 m1 d1)).setCell ⟨rb, 2, none⟩ (.slice B2 m2 d2)).setCell ⟨rb, 3, none⟩ (.slice B3 m3 d3)).setCell ⟨rb, 4, none⟩ (.slice Bm mm dm)).heap.size := by simp [World.setCell]
  generalize ((((((w5.setCell ⟨hb, 4, none⟩ (.slice Bm mm dm)).setCell ⟨rb, 0, none⟩ (.slice B0 m0 d0)).setCell ⟨rb, 1, none⟩ (.slice B1 m1 d1)).setCell ⟨rb, 2, none⟩ (.slice B2 m2 d2)).setCell ⟨rb, 3, none⟩ (.slice B3 m3 d3)).setCell ⟨rb, 4, none⟩ (.slice Bm mm dm)) = W at *
  have k0 := HP0.out.keep hs (fun a ha _ => hk _ (by have := (HU0.out a ha).1; have := HLV.out; omega) (by have := (HU0.out a ha).1; omega))
  have k1 := HP1.out.keep hs (fun a ha _ => hk _ (by have := (HU1.out a ha).1; have := HLV.out; omega) (by have := (HU1.out a ha).1; omega))
  have k2 := HP2.out.keep hs (fun a ha _ => hk _ (by have := (HU2.out a ha).1; have := HLV.out; omega) (by have := (HU2.out a ha).1; omega))
  have k3 := HP3.out.keep hs (fun a ha _ => hk _ (by have := (HU3.out a ha).1; have := HLV.out; omega) (by have := (HU3.out a ha).1; omega))
  have kO := OwnR_keep HOM.out (fun k hk1 _ => hk k (by have := HLV.out; have := HS4.out; omega) (by have := HS4.out; omega))
  exact ⟨hEE, ⟨⟨B0, m0, d0⟩, ⟨B1, m1, d1⟩, ⟨B2, m2, d2⟩, ⟨B3, m3, d3⟩, ⟨Bm, mm, dm⟩⟩, wb3.heap.size, rfl, ⟨⟨k0, HL0.out⟩, ⟨k1, HL1.out⟩, ⟨k2, HL2.out⟩, ⟨k3, HL3.out⟩, OwnR.row cM_len kO, HLM.out.1, HLM.out.2.1, HLM.out.2.2.1, HB.out.2.2.2.2.2.2.2.2⟩, HE4.out.size, Nat.le_trans HS5.out hs, kO, fun a ha => ⟨by have := (HU0.out a ha).1; have := HLV.out; omega, (HU0.out a ha).2⟩, fun a ha => ⟨by have := (HU1.out a ha).1; have := HLV.out; omega, (HU1.out a ha).2⟩, fun a ha => ⟨by have := (HU2.out a ha).1; have := HLV.out; omega, (HU2.out a ha).2⟩, fun a ha => ⟨by have := (HU3.out a ha).1; have := HLV.out; omega, (HU3.out a ha).2⟩⟩
end Go.Proofs.Ytlldmpcamdginaa.Trk
namespace Go.Proofs.Ytlldmpcamdginaa.Trk
open Go.ChangeShapes Go.WideShapes Go.ChangeAt Go.RowKit
open Go.Proofs.Ytlldmpcamdginaa.Rec
set_option linter.unusedVariables false
/-- A point as the document has it. -/
def cR (p : Pt) : List Value := [.int .i64 p.tick, .int .i64 p.x, .int .i64 p.y]
theorem cR_len (p : Pt) : (cR p).length = 3 := rfl
def PtsR (w : World) (A : Option Addr) (n c : Nat) (ps : List Pt) : Prop := RowR w A n 3 cR ps ∧ n ≤ c ∧ c ≤ 9223372036854775807 ∧ (A = none → n = 0 ∧ c = 0)
def RfV (w : World) (t : Tv) (x : Tk) : Prop := PtsR w t.s0.A t.s0.n t.s0.c x.c0 ∧ PtsR w t.s1.A t.s1.n t.s1.c x.c1 ∧ PtsR w t.s2.A t.s2.n t.s2.c x.c2 ∧ PtsR w t.s3.A t.s3.n t.s3.c x.c3 ∧ MksV w t.sm.A t.sm.n t.sm.c x.marks
theorem PtsR.ext {w w' : World} {A : Option Addr} {n c : Nat} {ps : List Pt} (h : PtsR w A n c ps) (e : Ext w w') : PtsR w' A n c ps := ⟨h.1.ext e, h.2⟩
theorem RfV.ext {w w' : World} {t : Tv} {x : Tk} (h : RfV w t x) (e : Ext w w') : RfV w' t x := ⟨h.1.ext e, h.2.1.ext e, h.2.2.1.ext e, h.2.2.2.1.ext e, h.2.2.2.2.ext e⟩
/-- What Great leaves: no more than 60 marks, names of 200 bytes, 100 points. -/
def Small (x : Tk) : Prop := x.marks.length ≤ 60 ∧ (∀ m ∈ x.marks, m.name.size ≤ 200) ∧ ∀ c ∈ x.cams, c.length ≤ 100
def GrPost (w : World) (x : Tk) (e : Ending) (w' : World) : Prop := ∃ b, e = .returned (.bool b) ∧ Ext w w' ∧ (b = false → Small x)
set_option maxHeartbeats 8000000 in
set_option maxRecDepth 100000 in
theorem great_tr (t : Tv) (x : Tk) (w : World) (hB : RfV w t x) :
    Calls Try.prog 17 #[.agg t.cells] w (GrPost w x) := by
  have HE0 := Lib.hid (ext_alloc (Ext.rfl' w) (.cells t.cells 47))
  have HH0 := Lib.hid (Blk.new w 47 t.cells)
  have HB := Lib.hid (hB.ext HE0.out)
  clear hB
  obtain ⟨⟨A0, n0, c0⟩, ⟨A1, n1, c1⟩, ⟨A2, n2, c2⟩, ⟨A3, n3, c3⟩, ⟨Am, nm, cm⟩⟩ := t
  obtain ⟨p0, p1, p2, p3, ms⟩ := x
  simp only [Tv.cells] at *
  have e0 : p0.length = n0 := HB.out.1.1.1
  have e1 : p1.length = n1 := HB.out.2.1.1.1
  have e2 : p2.length = n2 := HB.out.2.2.1.1.1
  have e3 : p3.length = n3 := HB.out.2.2.2.1.1.1
  have em : ms.length = nm := HB.out.2.2.2.2.1.1
  replace e0 := Lib.hid e0; replace e1 := Lib.hid e1; replace e2 := Lib.hid e2; replace e3 := Lib.hid e3; replace em := Lib.hid em
  go_enter Try.func17, Try.ntmps17
  go_upto_region 1 with fail
  obtain ⟨w0, hw0⟩ : ∃ q, q = w.alloc (.cells #[.slice A0 n0 c0, .slice A1 n1 c1, .slice A2 n2 c2, .slice A3 n3 c3, .slice Am nm cm] 47) := ⟨_, rfl⟩
  rw [← hw0] at HE0 HH0 HB ⊢
  clear hw0
  generalize w.heap.size = hb at *
  have h0 := HH0.out.cell 0; have h1 := HH0.out.cell 1; have h2 := HH0.out.cell 2; have h3 := HH0.out.cell 3; have h4 := HH0.out.cell 4
  simp only [List.getElem?_toArray, List.getElem?_cons_zero, List.getElem?_cons_succ] at h0 h1 h2 h3 h4
  by_cases hm : 60 < nm
  · have hm' : (60 : Int) < (nm : Int) := by omega
    go_wp2_with fail
    go_ret
    exact ⟨true, rfl, HE0.out, fun h => by cases h⟩
  · have hm' : ¬ (60 : Int) < (nm : Int) := by omega
    go_wp2_with fail
    go_loopg [3] nm (fun gh iv wr => ∃ (k : Nat), k + gh = nm ∧ iv = .int .i64 (k : Int) ∧ wr = w0 ∧ ∀ j (hj : j < ms.length), j < k → ms[j].name.size ≤ 200)
    case atStart => exact ⟨0, by omega, rfl, rfl, fun j hj h => absurd h (by omega)⟩
    case round =>
      obtain ⟨k, hk, rfl, hwr, hRk⟩ := hrel
      replace hwr := hwr.symm
      subst hwr
      obtain ⟨gh, rfl⟩ : ∃ gh : Nat, gh = gk := ⟨_, rfl⟩
      have HRK := Lib.hid hRk
      clear hRk
      have y1 : (0 : Int) ≤ (k : Int) := by omega
      by_cases hlt : k < nm
      · have hke : k < ms.length := by rw [em.out]; exact hlt
        obtain ⟨b, o, rfl, hbw, hc⟩ := HB.out.2.2.2.2.1.2 (show 0 < nm by omega)
        have q := fun i hi => hc k hke i hi
        have hmem : ms[k] ∈ ms := List.getElem_mem _
        have hsz := HB.out.2.2.2.2.2.2.2.2 _ hmem
        have HNX : Hid (ms[k].name.size ≤ 200 → ∀ j (hj : j < ms.length), j < k + 1 → ms[j].name.size ≤ 200) := Lib.hid (fun h j hj hjk => by
          by_cases hjk2 : j = k
          · subst hjk2; exact h
          · exact HRK.out j hj (by omega))
        generalize ms[k] = u at q hsz HNX
        obtain ⟨tk, s⟩ := u
        have a0 := q 0 (by omega); have a1 := q 1 (by omega)
        simp only [cM, Nat.add_zero, List.getElem?_cons_zero, List.getElem?_cons_succ] at a0 a1 hsz HNX
        have y2 : (k : Int) < (nm : Int) := by omega
        clear hc q hke hmem
        by_cases h200 : s.size ≤ 200
        · have h200' : ¬ (200 : Int) < (s.size : Int) := by omega
          have HF := Lib.hid (HNX.out h200)
          clear HNX
          go_wp2_with fail
          go_roundg (gh - 1)
          case measure => omega
          case rel => exact ⟨k + 1, by omega, by go_num, rfl, HF.out⟩
        · have h200' : (200 : Int) < (s.size : Int) := by omega
          go_wp2_with fail
          go_ret
          exact ⟨true, rfl, HE0.out, fun h => by cases h⟩
      · obtain rfl : gh = 0 := by omega
        obtain rfl : k = nm := by omega
        have y2 : ¬ (k : Int) < (k : Int) := by omega
        have HMS : Hid (ms.length ≤ 60 ∧ ∀ m ∈ ms, m.name.size ≤ 200) := Lib.hid ⟨by rw [em.out]; omega, fun m hm => by
          obtain ⟨j, hj, rfl⟩ := List.getElem_of_mem hm
          exact HRK.out j hj (by rw [← em.out]; exact hj)⟩
        go_wp2_with fail
        go_loopg [4] 4 (fun gh iv wr => ∃ (k : Nat), k + gh = 4 ∧ iv = .int .i64 (k : Int) ∧ wr = w0 ∧ ∀ j (hj : j < [p0, p1, p2, p3].length), j < k → ([p0, p1, p2, p3][j]).length ≤ 100)
        case atStart => exact ⟨0, by omega, rfl, rfl, fun j hj h => absurd h (by omega)⟩
        case round =>
          obtain ⟨k, hk, rfl, hwr, hRk⟩ := hrel
          replace hwr := hwr.symm
          subst hwr
          obtain ⟨gh, rfl⟩ : ∃ gh : Nat, gh = gk := ⟨_, rfl⟩
          have HRK := Lib.hid hRk
          clear hRk
          have hk5 : k = 0 ∨ k = 1 ∨ k = 2 ∨ k = 3 ∨ k = 4 := by omega
          rcases hk5 with rfl | rfl | rfl | rfl | rfl
          · by_cases h100 : n0 ≤ 100
            · have h100' : ¬ (100 : Int) < (n0 : Int) := by omega
              have HF : Hid (∀ j (hj : j < [p0, p1, p2, p3].length), j < 1 → ([p0, p1, p2, p3][j]).length ≤ 100) := Lib.hid (fun j hj hjk => by
                by_cases hjk2 : j = 0
                · subst hjk2; show p0.length ≤ 100; rw [e0.out]; exact h100
                · exact HRK.out j hj (by omega))
              go_wp2_with fail
              go_roundg (gh - 1)
              case measure => omega
              case rel => exact ⟨1, by omega, by rfl, rfl, HF.out⟩
            · have h100' : (100 : Int) < (n0 : Int) := by omega
              go_wp2_with fail
              go_ret
              exact ⟨true, rfl, HE0.out, fun h => by cases h⟩
          · by_cases h100 : n1 ≤ 100
            · have h100' : ¬ (100 : Int) < (n1 : Int) := by omega
              have HF : Hid (∀ j (hj : j < [p0, p1, p2, p3].length), j < 2 → ([p0, p1, p2, p3][j]).length ≤ 100) := Lib.hid (fun j hj hjk => by
                by_cases hjk2 : j = 1
                · subst hjk2; show p1.length ≤ 100; rw [e1.out]; exact h100
                · exact HRK.out j hj (by omega))
              go_wp2_with fail
              go_roundg (gh - 1)
              case measure => omega
              case rel => exact ⟨2, by omega, by rfl, rfl, HF.out⟩
            · have h100' : (100 : Int) < (n1 : Int) := by omega
              go_wp2_with fail
              go_ret
              exact ⟨true, rfl, HE0.out, fun h => by cases h⟩
          · by_cases h100 : n2 ≤ 100
            · have h100' : ¬ (100 : Int) < (n2 : Int) := by omega
              have HF : Hid (∀ j (hj : j < [p0, p1, p2, p3].length), j < 3 → ([p0, p1, p2, p3][j]).length ≤ 100) := Lib.hid (fun j hj hjk => by
                by_cases hjk2 : j = 2
                · subst hjk2; show p2.length ≤ 100; rw [e2.out]; exact h100
                · exact HRK.out j hj (by omega))
              go_wp2_with fail
              go_roundg (gh - 1)
              case measure => omega
              case rel => exact ⟨3, by omega, by rfl, rfl, HF.out⟩
            · have h100' : (100 : Int) < (n2 : Int) := by omega
              go_wp2_with fail
              go_ret
              exact ⟨true, rfl, HE0.out, fun h => by cases h⟩
          · by_cases h100 : n3 ≤ 100
            · have h100' : ¬ (100 : Int) < (n3 : Int) := by omega
              have HF : Hid (∀ j (hj : j < [p0, p1, p2, p3].length), j < 4 → ([p0, p1, p2, p3][j]).length ≤ 100) := Lib.hid (fun j hj hjk => by
                by_cases hjk2 : j = 3
                · subst hjk2; show p3.length ≤ 100; rw [e3.out]; exact h100
                · exact HRK.out j hj (by omega))
              go_wp2_with fail
              go_roundg (gh - 1)
              case measure => omega
              case rel => exact ⟨4, by omega, by rfl, rfl, HF.out⟩
            · have h100' : (100 : Int) < (n3 : Int) := by omega
              go_wp2_with fail
              go_ret
              exact ⟨true, rfl, HE0.out, fun h => by cases h⟩
          · obtain rfl : gh = 0 := by omega
            go_wp2_with fail
            go_ret
            refine ⟨false, rfl, HE0.out, fun _ => ⟨HMS.out.1, HMS.out.2, fun c hc => ?_⟩⟩
            obtain ⟨j, hj, rfl⟩ := List.getElem_of_mem (show c ∈ [p0, p1, p2, p3] from hc)
            exact HRK.out j hj (by simpa using hj)
end Go.Proofs.Ytlldmpcamdginaa.Trk
