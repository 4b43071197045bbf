/- Contracts of package delta: runs as bytes. -/
import Derived.Test.YtidnboeihkeljaaGreatDoorF26
import Derived.Maps.AppendAt
import Derived.Sort.CutIn
set_option maxHeartbeats 16000000
set_option maxRecDepth 100000
set_option linter.all false
namespace Go.Proofs.YtidnboeihkeljaaGreatDoor.Delta
open Go.ChangeShapes Go.WideShapes Go.ChangeAt Go.RowKit Go.Shelf
open Wire
attribute [local go_sem] Oper.semAt_some

theorem runs_in (n : Nat) (A : Option Addr) (m c : Nat) (w : World) :
  CallsIn Fence.wide n Tryz.prog 108 #[.slice A m c] w fun e w' => e = .returned (.func (.func 128) #[] #[.pointer (some ⟨w.heap.size, 0, none⟩)]) ∧ w' = w.alloc (.cells #[.slice A m c] 48) := by
 refine callsIn_of_wp Tryz.func108 rfl trivial ?_ rfl
 simp only [Tryz.ntmps108, List.size_toArray, List.length_cons, List.length_nil, Nat.reduceAdd, Nat.reduceSub, Array.replicate_succ, Array.replicate_zero, List.push_toArray, List.append_toArray, List.nil_append, List.cons_append]
 gi_wp2
 go_ret
 exact ⟨rfl, rfl⟩
theorem runs_stops (n : Nat) (hn : 1 ≤ n) (xb g c : Nat) (xs : List Nat) (hxl : xs.length ≤ 4000000000) (hc : xs.length ≤ c) (hc2 : c ≤ 9223372036854775807) (w : World)
  (hX : w.cell? ⟨xb, 0, none⟩ = some (.slice (some ⟨g, 0, none⟩) xs.length c)) (hB : Bs w (some ⟨g, 0, none⟩) xs.length xs) :
  SeqStopsK Fence.wide n Tryz.prog 128 #[.pointer (some ⟨xb, 0, none⟩)] (encR xs.length g c) (Keep2 xb g) (fun ys => txts xs ys = enc xs) (fun _ => True) xs.length w := fun l J Jx W hW _ _ hY h0 =>
 runs1_in n hn l xb g c xs J Jx hxl hc hc2 hY W ((hW.cell (p := ⟨xb, 0, none⟩) (World.block_lt_of_cell? w _ hX)).trans hX) (hB.ext hW) h0
theorem wpListIn_of_append {F : Fence} {n : Nat} {P : Program} {w : World} {ops : Array Oper} {rest : List Oper} {o : Oper} {a : Act} {Q : Exit → Act → World → Prop} (hgd : o.guard = none) (s x : Operand) (t tx : TypeId)
  (ho : o.op = .call { callee := .builtin .append, args := #[s, x], argTypes := #[t, tx] }) (vs vx : Value) (hs : a.eval s = vs) (hx : a.eval x = vx) {v' : Value} {w' : World}
  (hr : (Builtin.append_ #[t, tx] o.type #[vs, vx]).run P w = .ok v' w') (h : wpListIn F n P ops Q rest (a.put o.dst v') w') : wpListIn F n P ops Q (o :: rest) a w := by
 refine wpListIn_plain hgd fun K hK => ?_
 unfold Oper.wpIn
 refine ⟨?_, ?_⟩
 ·simp [Oper.about, ho, resolve, Target.leads, Sem.run_pure]
 ·rw [Oper.semAt_plain F _ _ (by rw [ho]; intro c hc'; cases hc')]
  simp [execOp, ho, resolve, invoke, builtin, hs, hx, hr, Result.andThen]
  exact hK _ _ h
theorem txt_len (xs : List Nat) {n : Nat} (t : Run n) (hn : n ≤ 1000000) : (txt xs t).length ≤ 1000020 := by
 obtain ⟨⟨z, a, b⟩, h1, h2, h3⟩ := t
 dsimp only at h1 h2 h3
 have v1 := vb_ten (n := z) (by omega)
 have v2 := vb_ten (n := b - a) (by omega)
 simp only [txt, List.length_append, List.length_take]
 omega
theorem txts_len (xs : List Nat) {n : Nat} (hn : n ≤ 1000000) (l : List (Run n)) : (txts xs l).length ≤ l.length * 1000020 := by
 induction l with
 | nil => simp [txts]
 | cons t l ih =>
  have h1 := txt_len xs t hn
  have e : txts xs (t :: l) = txt xs t ++ txts xs l := by simp [txts]
  rw [e, List.length_append, List.length_cons]
  omega
theorem bs_cut {w : World} {g n : Nat} {xs : List Nat} (h : Bs w (some ⟨g, 0, none⟩) n xs) (a m : Nat) (ham : a + m ≤ n) : Bs w (some ⟨g, a, none⟩) m ((xs.drop a).take m) := by
 have hl := h.1
 refine ⟨by rw [List.length_take, List.length_drop]; omega, fun j => ?_, fun hp => ?_⟩
 ·rcases Nat.lt_or_ge j m with hj | hj
  ·rw [List.getD_eq_getElem?_getD, List.getElem?_take_of_lt hj, List.getElem?_drop, ← List.getD_eq_getElem?_getD]; exact h.2.1 _
  ·rw [List.getD_eq_getElem?_getD, List.getElem?_eq_none (by rw [List.length_take]; omega)]; simp
 ·obtain ⟨b, o, he, hlt, hc⟩ := h.2.2 (by omega)
  obtain ⟨rfl, rfl⟩ : b = g ∧ o = 0 := by cases he; exact ⟨rfl, rfl⟩
  refine ⟨b, a, rfl, hlt, fun j hj => ?_⟩
  have := hc (a + j) (by omega)
  rw [Nat.zero_add] at this
  rw [this, List.getD_eq_getElem?_getD, List.getD_eq_getElem?_getD, List.getElem?_take_of_lt hj, List.getElem?_drop]
def EncW (w : World) (D xb : Nat) (sl : Value) (zs : List Nat) (W : World) : Prop :=
 ((∃ v, Boxed W D 48 v ∧ W.ownsRow w.heap.size 5 1 v zs.length (c8 zs) ∧ True) ∧ Boxed W xb 48 sl) ∧ Ext w W
def Rd (xb g : Nat) (W W' : World) : Prop := KeepsOthers W W' ∧ Keep2 xb g W W'
theorem Rd.trans {xb g : Nat} {a b c : World} (h : Rd xb g a b) (k : Rd xb g b c) : Rd xb g a c := ⟨h.1.trans k.1, h.2.trans k.2⟩
theorem rd_ext {xb g : Nat} {W W' : World} (h : Ext W W') : Rd xb g W W' :=
 ⟨⟨h.size, fun k o hk _ => (h.block k (Array.getElem?_eq_some_iff.1 hk).1).trans hk⟩, h.size, fun k _ hl => h.block k hl⟩
theorem boxed_ext {W W' : World} {B : Nat} {t : TypeId} {v : Value} (h : Boxed W B t v) (hE : Ext W W') : Boxed W' B t v := (hE.block B h.lt).trans h
theorem enc_store {w W1 W2 : World} {D xb g : Nat} {sl v v' : Value} {xs ys : List Nat} (hg : g < w.heap.size) (hD : w.heap.size ≤ D) (hne : D ≠ xb) (hv : Boxed W1 D 48 v) (hx : Boxed W1 xb 48 sl)
  (hr : W1.ownsRow w.heap.size 5 1 v xs.length (c8 xs)) (hE : Ext w W1) (ho : W2.ownsRow w.heap.size 5 1 v' (xs.length + ys.length) (c8 xs ++ c8 ys)) (hgr : W1.grownBy W2 v.ownBlock) :
  (W2.cell? ⟨D, 0, none⟩ = some v ∧ W2.frozen? ⟨D, 0, none⟩ = false) ∧ EncW w D xb sl (xs ++ ys) (W2.setCell ⟨D, 0, none⟩ v') ∧ Rd xb g W1 (W2.setCell ⟨D, 0, none⟩ v') := by
 have hv2 := hv.kept hgr (hv.not_row (by decide) hr)
 have hx2 := hx.kept hgr (hx.not_row (by decide) hr)
 refine ⟨⟨hv2.cell, hv2.frozen⟩, ⟨⟨⟨v', hv2.set v', ?_, trivial⟩, hx2.other (Ne.symm hne) v'⟩, ext_set (ext_grown hE hgr (own_ge hr)) hD _⟩, ?_, ?_⟩
 ·rw [List.length_append, c8_app]
  exact ho.kept (grownBy_setCell' W2 D v') (.inr (hv2.not_row (by decide) ho).symm)
 ·refine (KeepsOthers.of_grownBy hgr fun j o ej hj => ?_).trans (KeepsOthers.setCell _ _ _)
  rcases hr.2 with ⟨rfl, _⟩ | ⟨g', cap, cur, rfl, _, hgb, _⟩
  ·simp [Value.ownBlock] at ej
  ·obtain rfl : g' = j := by simpa [Value.ownBlock] using ej
   rw [hgb] at hj; cases hj; rfl
 ·refine ⟨by simpa [World.setCell] using hgr.size, fun k hk hl => ?_⟩
  have h1 : W2.heap[k]? = W1.heap[k]? := hgr.block k hl (by
   rcases hk with rfl | rfl
   ·exact hx.not_row (by decide) hr
   ·intro e
    have := own_ge hr k e.symm
    omega)
  exact (Below.heap_setCell W2 ⟨D, 0, none⟩ v' k (by rintro rfl; rcases hk with rfl | rfl; exact hne rfl; show False; omega)).trans h1
theorem encode (g c : Nat) (xs : List Nat) (w : World) (hB : Bs w (some ⟨g, 0, none⟩) xs.length xs) (hg : g < w.heap.size) (hxl : xs.length ≤ 1000000) (hc : xs.length ≤ c) (hc2 : c ≤ 9223372036854775807) :
  Calls Tryz.prog 64 #[.slice (some ⟨g, 0, none⟩) xs.length c] w (Puts w (vb xs.length ++ enc xs)) := by
 refine (callsIn_wide (n := 6)).1 ?_
 refine callsIn_of_wp_marks Tryz.func64 rfl trivial ?_ rfl
 simp only [Tryz.ntmps64, List.size_toArray, List.length_cons, List.length_nil, Nat.reduceAdd, Nat.reduceSub, Array.replicate_succ, Array.replicate_zero, List.push_toArray, List.append_toArray, List.nil_append, List.cons_append]
 have hw3 : IntKind.u64.wrap (xs.length : Int) = (xs.length : Int) := by rw [IntKind.wrap_u64]; omega
 gi_wp2_with fail
 refine ⟨trivial, (callsIn_wide.2 (put none 0 0 [] xs.length (by omega) w (Bs.none _ _) (fun _ => ⟨rfl, rfl⟩) (by omega) (by omega) (by omega))).mono ?_⟩
 rintro e w1 ⟨g1, c1, rfl, hc3, hc4, hg1, hO1, hE1⟩
 rw [List.nil_append] at hO1 hc3 ⊢
 have HO1 := Lib.hid hO1; have HE1 := Lib.hid hE1; clear hO1 hE1 hw3
 gi_wp2_with fail
 refine ⟨trivial, (runs_in _ _ _ _ _).mono ?_⟩
 rintro e w' ⟨rfl, rfl⟩
 gi_wp2_with fail
 have hsz1 : w.heap.size ≤ w1.heap.size := HE1.out.size
 have hgw1 : g < w1.heap.size := by omega
 have bD := Boxed.new w1 48 (.slice (some ⟨g1, 0, none⟩) (vb xs.length).length c1)
 have bX := Boxed.new (w1.alloc (.cells #[.slice (some ⟨g1, 0, none⟩) (vb xs.length).length c1] 48)) 48 (.slice (some ⟨g, 0, none⟩) xs.length c)
 rw [World.size_alloc] at bX
 have hE2 : Ext w ((w1.alloc (.cells #[.slice (some ⟨g1, 0, none⟩) (vb xs.length).length c1] 48)).alloc (.cells #[.slice (some ⟨g, 0, none⟩) xs.length c] 48)) := ext_alloc (ext_alloc HE1.out _) _
 have hI0 : EncW w w1.heap.size (w1.heap.size + 1) (.slice (some ⟨g, 0, none⟩) xs.length c) (vb xs.length ++ txts xs ([] : List (Run xs.length))) ((w1.alloc (.cells #[.slice (some ⟨g1, 0, none⟩) (vb xs.length).length c1] 48)).alloc (.cells #[.slice (some ⟨g, 0, none⟩) xs.length c] 48)) :=
  ⟨⟨⟨_, bD.alloc _, by simp only [txts, List.map_nil, List.flatten_nil, List.append_nil]; exact own_ext HO1.out (ext_alloc (ext_alloc (Ext.rfl' w1) _) _), trivial⟩, bX⟩, hE2⟩
 refine wpIn_rangeFunc_ownF rfl (by omega) (gf := 128) (lb := #[.pointer (some ⟨w1.heap.size + 1, 0, none⟩)]) rfl trivial (enters_of Tryz.func128 (by kernel_rfl) rfl)
  (runs_stops 5 (by omega) (w1.heap.size + 1) g c xs (by omega) hc hc2 _ bX.cell (hB.ext hE2)) (fun h k => h.trans k)
  (fun W l o o' hl ho _ _ => ⟨by simp, fun k hk hlt => World.putObj_heap_other (by simp at hl; rcases hk with rfl | rfl <;> omega)⟩) (Below.refl _ _) (fun _ => rfl)
  (fun pre W => EncW w w1.heap.size (w1.heap.size + 1) (.slice (some ⟨g, 0, none⟩) xs.length c) (vb xs.length ++ txts xs pre) W)
  (fun _ _ _ => False)
  (OwnFrom.and (OwnFrom.and (Own.from (holdsRow_own w.heap.size w1.heap.size 48 5 1 (fun pre => (vb xs.length ++ txts xs pre).length) (fun pre => c8 (vb xs.length ++ txts xs pre)) (fun _ _ => True)) _) (Own.from (boxed_own _ _ _) _)) (ownFrom_below (Nat.le_refl _) (by simp; omega)))
  (fun _ _ _ _ _ hs _ _ => hs)
  hI0 ?a1 ?assign ?body ?done ?stop
 case a1 => exact fun x => { tmps := #[.slice (some ⟨g, 0, none⟩) xs.length c, undef, .slice none 0 0, .pointer (some ⟨w1.heap.size, 0, none⟩), .int .i64 (x.1.1 : Int), .slice (some ⟨g, x.1.2.1, none⟩) (x.1.2.2 - x.1.2.1) (c - x.1.2.1), .slice (some ⟨g, 0, none⟩) xs.length c, .int .i64 (xs.length : Int), .int .u64 (xs.length : Int), .slice (some ⟨g1, 0, none⟩) (vb xs.length).length c1, .slice (some ⟨g, 0, none⟩) xs.length c, .func (.func 128) #[] #[.pointer (some ⟨w1.heap.size + 1, 0, none⟩)], .int .i64 (x.1.1 : Int), .slice (some ⟨g, x.1.2.1, none⟩) (x.1.2.2 - x.1.2.1) (c - x.1.2.1), undef, undef, undef, undef, undef, undef, undef, undef, undef, undef, undef, undef, undef, undef, undef], defers := [] }
 case assign =>
  intro l x W K hK
  simp only [encR]
  gi_wp2
  exact hK
 case body =>
  rintro l pre ⟨⟨z, a, b⟩, hx1, hx2, hx3⟩ W ⟨⟨⟨v, hv, hr, _⟩, hx⟩, hE⟩ hlt
  dsimp only at hx1 hx2 hx3 ⊢
  have hmx : Tryz.prog.follows .mixedOrders = true := by kernel_rfl
  obtain ⟨i0, hi0, hz0, hz1, hz2⟩ := info_parts info8
  have HI := Lib.hid (And.intro hi0 (And.intro hz0 (And.intro hz1 hz2))); clear hi0 hz0 hz1 hz2
  have hl1 := txts_len xs hxl pre
  have hl2 := vb_ten (n := xs.length) (by omega)
  have hl3 : (vb xs.length ++ txts xs pre).length ≤ 2000000000000 := by rw [List.length_append]; omega
  have HT : Hid (vb xs.length ++ txts xs (pre ++ [⟨(z, a, b), hx1, hx2, hx3⟩]) = vb xs.length ++ txts xs pre ++ vb z ++ vb (b - a) ++ (xs.drop a).take (b - a)) := Lib.hid (by rw [txts_snoc]; simp only [txt, List.append_assoc])
  have HBg := Lib.hid (hB.ext hE)
  have HB0 := Lib.hid hB
  have hab : a + (b - a) ≤ xs.length := by omega
  have hv1 := vb_ten (n := z) (by omega)
  have HLIT := Lib.hid (bs_cut HBg.out a (b - a) (by omega))
  have HLS := Lib.hid (HLIT.out.1)
  have hml : b - a ≤ xs.length := by omega
  clear hB hl1 hl2
  generalize b - a = m at *
  have hv2 := vb_ten (n := m) (by omega)
  generalize vb xs.length ++ txts xs pre = zs at *
  have HV := Lib.hid hv; have HX := Lib.hid hx; have HR := Lib.hid hr; have HE := Lib.hid hE
  have hc := hv.cell
  have hWs := hE.size
  have hDl := hv.lt
  clear hv hx hr hE
  have hw3 : IntKind.u64.wrap (z : Int) = (z : Int) := by rw [IntKind.wrap_u64]; omega
  gi_wp2_with fail
  gi_cut [] from 14 (fun wx => EncW w w1.heap.size (w1.heap.size + 1) (.slice (some ⟨g, 0, none⟩) xs.length c) (zs ++ vb z) wx ∧ Rd (w1.heap.size + 1) g W wx)
  case first =>
   refine region_round (S := fun _ => True) hmx (by kernel_rfl) ?_
   (refine wpAnyH_take (i := 1) (v := ?_) rfl (by kernel_rfl) (by kernel_rfl) (by kernel_rfl) (fun _ _ _ h => h) (Or.inl ⟨by rfl, ?_⟩) trivial ?_); rotate_left
   ·(intro w hSw; go_simp; try with_reducible rfl)
   (refine wpAnyH_take (i := 2) (v := ?_) rfl (by kernel_rfl) (by kernel_rfl) (by kernel_rfl) (fun _ _ _ h => h) (Or.inl ⟨by rfl, ?_⟩) trivial ?_); rotate_left
   ·(intro w hSw; go_simp; try with_reducible rfl)
   refine wpAnyH_ready (rs := [0, 3]) (by kernel_rfl) (by simp) ?_
   refine AllReadyH.cons rfl (fun K hK => ?_) (AllReadyH.cons rfl (fun K hK => ?_) AllReadyH.nil)
   ·go_simp
    refine hK.out _ _ trivial (fun _ => ?_)
    clear hK K
    refine wpAnyH_ready (rs := [3]) (by kernel_rfl) (by simp) ?_
    refine AllReadyH.cons rfl (fun K hK => ?_) AllReadyH.nil
    go_simp
    refine (put none 0 0 [] z (by omega) _ (Bs.none _ _) (fun _ => ⟨rfl, rfl⟩) (by omega) (by omega) (by omega)).mono ?_
    rintro e w8 ⟨g2, c2, rfl, hd3, hd4, hg2, hO2, hE8⟩
    rw [List.nil_append] at hO2 hd3 ⊢
    have he8 : Ext W w8 := ext_trans (ext_drew (Ext.rfl' W)) hE8
    have hv8 := boxed_ext HV.out he8
    have hc8 := hv8.cell
    have hx8 := Lib.hid (boxed_ext HX.out he8)
    have hr8 := Lib.hid (own_ext HR.out he8)
    have hs8 := he8.size
    have HE8 := Lib.hid (ext_trans HE.out he8)
    have HD8 := Lib.hid (rd_ext (xb := w1.heap.size + 1) (g := g) he8)
    have HV8 := Lib.hid hv8; clear hv8
    obtain ⟨v2, w9, hrun, ho2, hgr2⟩ := run_app_own (P := Tryz.prog) 48 48 48 5 i0 (.int .u8 0) 1 1 Tryz.underlying48 HI.out.1 HI.out.2.1 HI.out.2.2.1 HI.out.2.2.2 rfl w.heap.size v zs.length (c8 zs) hr8.out (.slice (some ⟨g2, 0, none⟩) (vb z).length c2) (vb z).length (c8 (vb z)) ((Own.bs hO2 (vb_byte z)).src Tryz.underlying48 c2) (by unfold maxLen; omega) (by omega) (by omega)
    have hst := enc_store hg hsz1 (show w1.heap.size ≠ w1.heap.size + 1 by omega) HV8.out hx8.out hr8.out HE8.out ho2 hgr2
    obtain ⟨A2, c3, rfl, _⟩ := own_shape ho2
    obtain ⟨⟨hc9, hf9⟩, hew, hrd⟩ := hst
    have HEW := Lib.hid hew
    have HRD := Lib.hid (HD8.out.trans hrd)
    have HRUN := Lib.hid hrun
    clear hew hrd hrun ho2 hgr2 hO2 hE8 he8
    (try go_wp2_with fail)
    refine hK.out _ _ trivial (fun _ => ?_)
    clear hK K
    refine wpAnyH_ready (rs := [4]) (by kernel_rfl) (by simp) ?_
    refine AllReadyH.cons rfl (fun K hK => ?_) AllReadyH.nil
    refine wanted_append rfl (.tmp 14) (.tmp 17) 48 48 rfl _ _ rfl rfl HRUN.out ?_
    refine hK.out _ _ trivial (fun _ => ?_)
    clear hK K
    refine wpAnyH_ready (rs := [5]) (by kernel_rfl) (by simp) ?_
    refine AllReadyH.cons rfl (fun K hK => ?_) AllReadyH.nil
    go_simp
    refine hK.out _ _ trivial (fun _ => ?_)
    clear hK K
    refine wpAnyH_done (by kernel_rfl) ?_ _
    simp only [Plainly]
    gi_wp2
    gi_meet
    exact ⟨HEW.out, HRD.out⟩
   ·go_simp
    refine (put none 0 0 [] z (by omega) _ (Bs.none _ _) (fun _ => ⟨rfl, rfl⟩) (by omega) (by omega) (by omega)).mono ?_
    rintro e w8 ⟨g2, c2, rfl, hd3, hd4, hg2, hO2, hE8⟩
    rw [List.nil_append] at hO2 hd3 ⊢
    have he8 : Ext W w8 := ext_trans (ext_drew (Ext.rfl' W)) hE8
    have hv8 := boxed_ext HV.out he8
    have hc8 := hv8.cell
    have hx8 := Lib.hid (boxed_ext HX.out he8)
    have hr8 := Lib.hid (own_ext HR.out he8)
    have hs8 := he8.size
    have HE8 := Lib.hid (ext_trans HE.out he8)
    have HD8 := Lib.hid (rd_ext (xb := w1.heap.size + 1) (g := g) he8)
    have HV8 := Lib.hid hv8; clear hv8
    obtain ⟨v2, w9, hrun, ho2, hgr2⟩ := run_app_own (P := Tryz.prog) 48 48 48 5 i0 (.int .u8 0) 1 1 Tryz.underlying48 HI.out.1 HI.out.2.1 HI.out.2.2.1 HI.out.2.2.2 rfl w.heap.size v zs.length (c8 zs) hr8.out (.slice (some ⟨g2, 0, none⟩) (vb z).length c2) (vb z).length (c8 (vb z)) ((Own.bs hO2 (vb_byte z)).src Tryz.underlying48 c2) (by unfold maxLen; omega) (by omega) (by omega)
    have hst := enc_store hg hsz1 (show w1.heap.size ≠ w1.heap.size + 1 by omega) HV8.out hx8.out hr8.out HE8.out ho2 hgr2
    obtain ⟨A2, c3, rfl, _⟩ := own_shape ho2
    obtain ⟨⟨hc9, hf9⟩, hew, hrd⟩ := hst
    have HEW := Lib.hid hew
    have HRD := Lib.hid (HD8.out.trans hrd)
    have HRUN := Lib.hid hrun
    clear hew hrd hrun ho2 hgr2 hO2 hE8 he8
    (try go_wp2_with fail)
    refine hK.out _ _ trivial (fun _ => ?_)
    clear hK K
    refine wpAnyH_ready (rs := [0]) (by kernel_rfl) (by simp) ?_
    refine AllReadyH.cons rfl (fun K hK => ?_) AllReadyH.nil
    go_simp
    refine hK.out _ _ trivial (fun _ => ?_)
    clear hK K
    refine wpAnyH_ready (rs := [4]) (by kernel_rfl) (by simp) ?_
    refine AllReadyH.cons rfl (fun K hK => ?_) AllReadyH.nil
    refine wanted_append rfl (.tmp 14) (.tmp 17) 48 48 rfl _ _ rfl rfl HRUN.out ?_
    refine hK.out _ _ trivial (fun _ => ?_)
    clear hK K
    refine wpAnyH_ready (rs := [5]) (by kernel_rfl) (by simp) ?_
    refine AllReadyH.cons rfl (fun K hK => ?_) AllReadyH.nil
    go_simp
    refine hK.out _ _ trivial (fun _ => ?_)
    clear hK K
    refine wpAnyH_done (by kernel_rfl) ?_ _
    simp only [Plainly]
    gi_wp2
    gi_meet
    exact ⟨HEW.out, HRD.out⟩
  case rest =>
   clear HV HX HR HE hc hDl hWs
   obtain ⟨⟨⟨⟨v, hv, hr, _⟩, hx⟩, hE⟩, hRW⟩ := hcut
   have HV := Lib.hid hv; have HX := Lib.hid hx; have HR := Lib.hid hr; have HE := Lib.hid hE; have HRW := Lib.hid hRW
   have hc := hv.cell
   have hWs := hE.size
   have hDl := hv.lt
   have hl4 : (zs ++ vb z).length ≤ 2000000000010 := by rw [List.length_append]; omega
   generalize zs ++ vb z = zs2 at *
   clear hv hx hr hE hRW
   have hw4 : IntKind.u64.wrap (m : Int) = (m : Int) := by rw [IntKind.wrap_u64]; omega
   gi_wp2_with fail
   gi_cut [] from 14 (fun wx => EncW w w1.heap.size (w1.heap.size + 1) (.slice (some ⟨g, 0, none⟩) xs.length c) (zs2 ++ vb m) wx ∧ Rd (w1.heap.size + 1) g W wx)
   case first =>
    refine region_round (S := fun _ => True) hmx (by kernel_rfl) ?_
    (refine wpAnyH_take (i := 1) (v := ?_) rfl (by kernel_rfl) (by kernel_rfl) (by kernel_rfl) (fun _ _ _ h => h) (Or.inl ⟨by rfl, ?_⟩) trivial ?_); rotate_left
    ·(intro w hSw; go_simp; try with_reducible rfl)
    (refine wpAnyH_take (i := 2) (v := ?_) rfl (by kernel_rfl) (by kernel_rfl) (by kernel_rfl) (fun _ _ _ h => h) (Or.inl ⟨by rfl, ?_⟩) trivial ?_); rotate_left
    ·(intro w hSw; go_simp; try with_reducible rfl)
    (refine wpAnyH_take (i := 3) (v := ?_) rfl (by kernel_rfl) (by kernel_rfl) (by kernel_rfl) (fun _ _ _ h => h) (Or.inl ⟨by rfl, ?_⟩) trivial ?_); rotate_left
    ·(intro w hSw; go_simp; try with_reducible rfl)
    refine wpAnyH_ready (rs := [0, 4]) (by kernel_rfl) (by simp) ?_
    refine AllReadyH.cons rfl (fun K hK => ?_) (AllReadyH.cons rfl (fun K hK => ?_) AllReadyH.nil)
    ·go_simp
     refine hK.out _ _ trivial (fun _ => ?_)
     clear hK K
     refine wpAnyH_ready (rs := [4]) (by kernel_rfl) (by simp) ?_
     refine AllReadyH.cons rfl (fun K hK => ?_) AllReadyH.nil
     go_simp
     refine (put none 0 0 [] m (by omega) _ (Bs.none _ _) (fun _ => ⟨rfl, rfl⟩) (by omega) (by omega) (by omega)).mono ?_
     rintro e w8 ⟨g2, c2, rfl, hd3, hd4, hg2, hO2, hE8⟩
     rw [List.nil_append] at hO2 hd3 ⊢
     have he8 : Ext wc w8 := ext_trans (ext_drew (Ext.rfl' wc)) hE8
     have hv8 := boxed_ext HV.out he8
     have hc8 := hv8.cell
     have hx8 := Lib.hid (boxed_ext HX.out he8)
     have hr8 := Lib.hid (own_ext HR.out he8)
     have hs8 := he8.size
     have HE8 := Lib.hid (ext_trans HE.out he8)
     have HD8 := Lib.hid (rd_ext (xb := w1.heap.size + 1) (g := g) he8)
     have HV8 := Lib.hid hv8; clear hv8
     obtain ⟨v2, w9, hrun, ho2, hgr2⟩ := run_app_own (P := Tryz.prog) 48 48 48 5 i0 (.int .u8 0) 1 1 Tryz.underlying48 HI.out.1 HI.out.2.1 HI.out.2.2.1 HI.out.2.2.2 rfl w.heap.size v zs2.length (c8 zs2) hr8.out (.slice (some ⟨g2, 0, none⟩) (vb m).length c2) (vb m).length (c8 (vb m)) ((Own.bs hO2 (vb_byte m)).src Tryz.underlying48 c2) (by unfold maxLen; omega) (by omega) (by omega)
     have hst := enc_store hg hsz1 (show w1.heap.size ≠ w1.heap.size + 1 by omega) HV8.out hx8.out hr8.out HE8.out ho2 hgr2
     obtain ⟨A2, c3, rfl, _⟩ := own_shape ho2
     obtain ⟨⟨hc9, hf9⟩, hew, hrd⟩ := hst
     have HEW := Lib.hid hew
     have HRD := Lib.hid ((HRW.out.trans HD8.out).trans hrd)
     have HRUN := Lib.hid hrun
     clear hew hrd hrun ho2 hgr2 hO2 hE8 he8
     (try go_wp2_with fail)
     refine hK.out _ _ trivial (fun _ => ?_)
     clear hK K
     refine wpAnyH_ready (rs := [5]) (by kernel_rfl) (by simp) ?_
     refine AllReadyH.cons rfl (fun K hK => ?_) AllReadyH.nil
     refine wanted_append rfl (.tmp 19) (.tmp 23) 48 48 rfl _ _ rfl rfl HRUN.out ?_
     refine hK.out _ _ trivial (fun _ => ?_)
     clear hK K
     refine wpAnyH_ready (rs := [6]) (by kernel_rfl) (by simp) ?_
     refine AllReadyH.cons rfl (fun K hK => ?_) AllReadyH.nil
     go_simp
     refine hK.out _ _ trivial (fun _ => ?_)
     clear hK K
     refine wpAnyH_done (by kernel_rfl) ?_ _
     simp only [Plainly]
     gi_wp2
     gi_meet
     exact ⟨HEW.out, HRD.out⟩
    ·go_simp
     refine (put none 0 0 [] m (by omega) _ (Bs.none _ _) (fun _ => ⟨rfl, rfl⟩) (by omega) (by omega) (by omega)).mono ?_
     rintro e w8 ⟨g2, c2, rfl, hd3, hd4, hg2, hO2, hE8⟩
     rw [List.nil_append] at hO2 hd3 ⊢
     have he8 : Ext wc w8 := ext_trans (ext_drew (Ext.rfl' wc)) hE8
     have hv8 := boxed_ext HV.out he8
     have hc8 := hv8.cell
     have hx8 := Lib.hid (boxed_ext HX.out he8)
     have hr8 := Lib.hid (own_ext HR.out he8)
     have hs8 := he8.size
     have HE8 := Lib.hid (ext_trans HE.out he8)
     have HD8 := Lib.hid (rd_ext (xb := w1.heap.size + 1) (g := g) he8)
     have HV8 := Lib.hid hv8; clear hv8
     obtain ⟨v2, w9, hrun, ho2, hgr2⟩ := run_app_own (P := Tryz.prog) 48 48 48 5 i0 (.int .u8 0) 1 1 Tryz.underlying48 HI.out.1 HI.out.2.1 HI.out.2.2.1 HI.out.2.2.2 rfl w.heap.size v zs2.length (c8 zs2) hr8.out (.slice (some ⟨g2, 0, none⟩) (vb m).length c2) (vb m).length (c8 (vb m)) ((Own.bs hO2 (vb_byte m)).src Tryz.underlying48 c2) (by unfold maxLen; omega) (by omega) (by omega)
     have hst := enc_store hg hsz1 (show w1.heap.size ≠ w1.heap.size + 1 by omega) HV8.out hx8.out hr8.out HE8.out ho2 hgr2
     obtain ⟨A2, c3, rfl, _⟩ := own_shape ho2
     obtain ⟨⟨hc9, hf9⟩, hew, hrd⟩ := hst
     have HEW := Lib.hid hew
     have HRD := Lib.hid ((HRW.out.trans HD8.out).trans hrd)
     have HRUN := Lib.hid hrun
     clear hew hrd hrun ho2 hgr2 hO2 hE8 he8
     (try go_wp2_with fail)
     refine hK.out _ _ trivial (fun _ => ?_)
     clear hK K
     refine wpAnyH_ready (rs := [0]) (by kernel_rfl) (by simp) ?_
     refine AllReadyH.cons rfl (fun K hK => ?_) AllReadyH.nil
     go_simp
     refine hK.out _ _ trivial (fun _ => ?_)
     clear hK K
     refine wpAnyH_ready (rs := [5]) (by kernel_rfl) (by simp) ?_
     refine AllReadyH.cons rfl (fun K hK => ?_) AllReadyH.nil
     refine wanted_append rfl (.tmp 19) (.tmp 23) 48 48 rfl _ _ rfl rfl HRUN.out ?_
     refine hK.out _ _ trivial (fun _ => ?_)
     clear hK K
     refine wpAnyH_ready (rs := [6]) (by kernel_rfl) (by simp) ?_
     refine AllReadyH.cons rfl (fun K hK => ?_) AllReadyH.nil
     go_simp
     refine hK.out _ _ trivial (fun _ => ?_)
     clear hK K
     refine wpAnyH_done (by kernel_rfl) ?_ _
     simp only [Plainly]
     gi_wp2
     gi_meet
     exact ⟨HEW.out, HRD.out⟩
   case rest =>
    clear HV HX HR HE HRW hc hDl hWs
    obtain ⟨⟨⟨⟨v, hv, hr, _⟩, hx⟩, hE⟩, hRW⟩ := hcut
    have hl5 : (zs2 ++ vb m).length ≤ 2000000000020 := by rw [List.length_append]; omega
    generalize zs2 ++ vb m = zs3 at *
    have hc := hv.cell
    have hWs := hE.size
    have HLW := Lib.hid (HB0.out.ext hE)
    have hLL := (bs_cut HLW.out a m hab).1
    obtain ⟨v2, w9, hrun, ho2, hgr2⟩ := run_app_own (P := Tryz.prog) 48 48 48 5 i0 (.int .u8 0) 1 1 Tryz.underlying48 HI.out.1 HI.out.2.1 HI.out.2.2.1 HI.out.2.2.2 rfl w.heap.size v zs3.length (c8 zs3) hr (.slice (some ⟨g, a, none⟩) m (c - a)) m (c8 ((xs.drop a).take m)) ((bs_cut HLW.out a m hab).src Tryz.underlying48 (c - a)) (by unfold maxLen; omega) (by omega) (by omega)
    have ho3 : w9.ownsRow w.heap.size 5 1 v2 (zs3.length + ((xs.drop a).take m).length) (c8 zs3 ++ c8 ((xs.drop a).take m)) := by rw [hLL]; exact ho2
    have hst := enc_store hg hsz1 (show w1.heap.size ≠ w1.heap.size + 1 by omega) hv hx hr hE ho3 hgr2
    obtain ⟨A2, c3, rfl, _⟩ := own_shape ho2
    obtain ⟨⟨hc9, hf9⟩, hew, hrd⟩ := hst
    have HEW := Lib.hid hew
    have HRD := Lib.hid (hRW.trans hrd)
    have HRUN := Lib.hid hrun
    clear hew hrd hrun ho2 ho3 hgr2 hv hx hr hE hRW hLL
    gi_wp2_with (gi_at_builtin; refine wpListIn_of_append rfl (.tmp 25) (.tmp 26) 48 48 rfl _ _ rfl rfl HRUN.out ?_)
    exact ⟨HRD.out.1, HRD.out.2, by have e := HT.out; show EncW _ _ _ _ (vb xs.length ++ txts xs (pre ++ [_])) _; rw [e]; exact HEW.out⟩
 case done =>
  rintro D ys W hD hS ⟨⟨⟨v, hv, hr, _⟩, hx⟩, hE⟩ hK
  have hc := hv.cell
  have HS := Lib.hid hS; clear hS
  gi_wp2
  refine ⟨by simp, .inl ⟨_, _, rfl, run_takeDeferred hK, ?_⟩⟩
  refine ⟨_, results_tmp rfl _ _ _, ?_⟩
  rw [← HS.out]
  have hp := vb_pos xs.length
  exact puts_of (ownsRow_putObj hr _ hK rfl) (hE.trans (belowK_b (w := w) (Nat.le_refl _) W D _ _ (by simp at hD; omega) hK rfl rfl)) (by rw [List.length_append]; omega)
 case stop =>
  rintro D cc pre W hD _ h _
  exact h.elim
end Go.Proofs.YtidnboeihkeljaaGreatDoor.Delta
