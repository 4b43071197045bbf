/- Path: search.take. -/
import Derived.Test.YtmceaocknlnmpaaPthO
import Derived.Deep.LoopGhost
namespace Go.Proofs.Ytmceaocknlnmpaa.Pth
open Go.ChangeShapes Go.WideShapes Go.ChangeAt Go.RowKit
open Go.Proofs.Ytmceaocknlnmpaa.Rec Go.Proofs.Ytmceaocknlnmpaa.Grid
set_option linter.unusedVariables false
/-- What the map tells is what the search knows. -/
def Cm (f : Nat) (all : List Ti) (C : Co) : Prop := ∀ t, (C t).isSome = (ti all t).seen ∧ ∀ a, C t = some a → a.2 = (ti all t).g ∧ (t ≠ f → a.1 = (ti all t).by')
theorem Cm.some {f t : Nat} {all : List Ti} {C : Co} (h : Cm f all C) (hs : (ti all t).seen = true) : ∃ fr, C t = some (fr, (ti all t).g) ∧ (t ≠ f → fr = (ti all t).by') := by
  obtain ⟨a, b⟩ := h t
  rw [hs] at a
  obtain ⟨⟨fr, g⟩, e⟩ := Option.isSome_iff_exists.1 a
  have := b _ e
  exact ⟨fr, by rw [e, ← this.1], this.2⟩
theorem mem_at {q : List Nd} {a : Nd} (h : a ∈ q) : ∃ k, k < q.length ∧ at' q k = a := by
  obtain ⟨k, hk, e⟩ := List.getElem_of_mem h
  exact ⟨k, hk, by rw [at_get hk]; exact e⟩
theorem heap_top {q q' : List Nd} (hH : Heap q q.length) (hp : q.Perm (at' q 0 :: q')) : ∀ n ∈ q', ¬ lt n (at' q 0) := fun n hn => by
  obtain ⟨k, hk, e⟩ := mem_at (hp.mem_iff.2 (List.mem_cons_of_mem _ hn))
  rw [← e]; exact heap_min hH k hk
theorem come_g (a g : Nat) (w : World) : (Instr.field 65 (.agg #[.int .i64 (a : Int), .int .i64 (g : Int)]) 1).run Try.prog w = .ok (.int .i64 (g : Int)) w := by kernel_rfl
theorem come_from (a g : Nat) (w : World) : (Instr.field 65 (.agg #[.int .i64 (a : Int), .int .i64 (g : Int)]) 0).run Try.prog w = .ok (.int .i64 (a : Int)) w := by kernel_rfl
theorem run_look_c {M t : Nat} {C : Co} {w : World} (hM : Map64.MapR w M (cF C)) {a : Nat × Nat} (h : C t = some a) : (Instr.lookup 44 (.map (Option.some M)) (.int .i64 (t : Int)) false).run Try.prog w = .ok (cV a) w := by
  rw [Map64.run_look hM Try.underlying44 Try.underlying3 (zCome _) t, cF_at, h]
  rfl
theorem results_cell2 {P : Program} {fn : Func} {p q : Tmp} {ty : TypeId} (h : fn.results = #[.cell p ty, .tmp q]) (tmps : Array Value) (w : World) (g : Nat) (t : TypeId) (cs : Array Value) (fr : Nat × Nat) (d : TypeDesc)
    (hp : tmps.getD p undef = .pointer (Option.some ⟨g, 0, none⟩)) (hg : w.heap[g]? = Option.some (.cells cs t fr)) (b : Value) (hq : tmps.getD q undef = b)
    (hu : P.underlying ty = Option.some d) (hd : (match d with | .struct _ | .array _ _ => true | _ => false) = true) (hi : (P.info? ty).map (·.size) = Option.some cs.size) :
    (results fn tmps).run P w = .ok (.tuple #[.agg cs, b]) w := by
  have hp' : tmps[p]?.getD undef = .pointer (Option.some ⟨g, 0, none⟩) := by simpa using hp
  have hq' : tmps[q]?.getD undef = b := by simpa using hq
  simp [results, h, hp', hq', asAddr, run_loadVar_row w g t ty cs fr d hg hu hd hi]
theorem put3 {w : World} {g : Nat} {t : TypeId} {a b c a' b' c' : Value} (h : Blk w g t #[a, b, c]) : Blk (((w.setCell ⟨g, 0, none⟩ a').setCell ⟨g, 1, none⟩ b').setCell ⟨g, 2, none⟩ c') g t #[a', b', c'] ∧ w.grownBy (((w.setCell ⟨g, 0, none⟩ a').setCell ⟨g, 1, none⟩ b').setCell ⟨g, 2, none⟩ c') (Option.some g) :=
  ⟨((h.set_ 0 a').set_ 1 b').set_ 2 c', gbt (gbt (set_grown w g 0 a') (set_grown _ g 1 b')) (set_grown _ g 2 c')⟩
/-- What the loop of take keeps. -/
def TkR (base B M W H : Nat) (T : ByteArray) (bu : Value) (tv near : Int) (C : Co) (h : Nat → Nat) (all : List Ti) (q0 : List Nd) (v0 : Value) (w : World) (RB k : Nat) (wr : World) : Prop :=
  k ≤ q0.length ∧ ∃ q v, q.length ≤ k ∧ Hp h all q ∧ (∀ a ∈ q, a ∈ q0) ∧ Se base B M W H T bu tv near C q v wr ∧ SR w wr B M v0 v ∧ Blk wr RB 51 #[.int .i64 0, .int .i64 0, .int .i64 0] ∧ Off v RB
def TkPost (base B M W H : Nat) (T : ByteArray) (bu : Value) (tv near : Int) (C : Co) (h : Nat → Nat) (all : List Ti) (q0 : List Nd) (v0 : Value) (w : World) (e : Ending) (w' : World) : Prop :=
  match best h all all.length with
  | none => e = .returned (.tuple #[.agg #[.int .i64 0, .int .i64 0, .int .i64 0], .bool false]) ∧ ∃ v, SR w w' B M v0 v
  | some t => e = .returned (.tuple #[.agg (cNd (nd h all t)).toArray, .bool true]) ∧ ∃ q v, Hp h (shut all t) q ∧ (∀ a ∈ q, a ∈ q0) ∧ q.length ≤ q0.length ∧ Se base B M W H T bu tv near C q v w' ∧ SR w w' B M v0 v
set_option maxHeartbeats 4000000 in
set_option maxRecDepth 100000 in
theorem take_st (base B M W H f : Nat) (T : ByteArray) (bu v : Value) (tv near : Int) (C : Co) (h : Nat → Nat) (all : List Ti) (q : List Nd) (w : World) (hSe : Se base B M W H T bu tv near C q v w)
    (hC : Cm f all C) (hH : Hp h all q) (hn : q.length < 100000) (hS : Sm q) :
    Calls Try.prog 18 #[.pointer (some ⟨B, 0, none⟩)] w fun e w' => TkPost base B M W H T bu tv near C h all q v w e w' := by
  have HS0 := Lib.hid hSe
  have HC := Lib.hid hC; have HH := Lib.hid hH
  have HR0 : Hid (TkR base B M W H T bu tv near C h all q v w w.heap.size q.length (w.alloc (.cells #[.int .i64 0, .int .i64 0, .int .i64 0] 51))) :=
    Lib.hid ⟨Nat.le_refl _, q, v, Nat.le_refl _, hH, fun a ha => ha, hSe.ext (ext_alloc (Ext.rfl' w) _), SR.ext (ext_alloc (Ext.rfl' w) _) B M v, Blk.new w _ _, fun e => by have := (World.ownsRow.lt hSe.own _ e).2; omega⟩
  clear hSe hC hH
  go_enter Try.func18, Try.ntmps18
  go_wp2_with fail
  generalize w.alloc (.cells #[.int .i64 0, .int .i64 0, .int .i64 0] 51) = w1 at *
  generalize hRB : w.heap.size = RB at *
  replace hRB := Lib.hid hRB
  go_loopg [] q.length (fun k wr => TkR base B M W H T bu tv near C h all q v w RB k wr)
  case atStart => exact HR0.out
  case round =>
    obtain ⟨hkq, q1, v1, hk, hH1, hq1, hS1, hr1, hB1, ho1⟩ := hrel
    obtain ⟨wi, rfl⟩ : ∃ wi : World, wi = wr := ⟨_, rfl⟩
    have HS1 := Lib.hid hS1; have HR1 := Lib.hid hr1; have HB1 := Lib.hid hB1; have HO1 := Lib.hid ho1; have HH1 := Lib.hid hH1; have HQ1 := Lib.hid hq1
    obtain ⟨A, c, rfl, _⟩ := hS1.own.shape
    clear hS1 hr1 hB1 ho1 hH1 hq1 HR0
    have b6 : wi.cell? ⟨B, 6, none⟩ = some (.slice A q1.length c) := HS1.out.blk.cell 6
    obtain ⟨N, hN⟩ : ∃ N, q1.length = N := ⟨_, rfl⟩
    rw [hN] at b6 hk
    have HN := Lib.hid hN
    have HLEN := Lib.hid (len_st A N c wi (by omega))
    have hNle : N < 100000 := by omega
    clear hN
    by_cases h0 : 0 < N
    · have y1 : (0 : Int) < (N : Int) := by omega
      go_wp2_with fail
      refine HLEN.out.mono ?_
      rintro e w2 ⟨rfl, b2⟩
      have HS2 := Lib.hid (HS1.out.ext b2)
      have HR2 := Lib.hid (HR1.out.trans (SR.ext b2 B M _))
      have HB2 := Lib.hid (HB1.out.ext b2)
      obtain ⟨n, hn1⟩ : ∃ n, N = n + 1 := ⟨N - 1, by omega⟩
      obtain ⟨x, hx⟩ : ∃ x, x = at' q1 0 := ⟨_, rfl⟩
      obtain ⟨xt, xg, xh⟩ := x
      have HPOP := Lib.hid (hpop_st base B _ _ _ _ _ _ _ _ q1 n w2 HS2.out.hq (by rw [HN.out, hn1]) (by omega) (fun a ha => hS a (HQ1.out a ha)) HS2.out.heap)
      have HTOP := Lib.hid (fun q' hp => heap_top (q := q1) (q' := q') HS1.out.heap hp)
      rw [← hx, show (cNd (xt, xg, xh)).toArray = #[.int .i64 (xt : Int), .int .i64 (xg : Int), .int .i64 (xh : Int)] from rfl] at HPOP
      rw [← hx] at HTOP
      clear b2 HLEN b6 hn1 HS1 HR1 HB1 hx
      go_wp2_with fail
      refine HPOP.out.mono ?_
      rintro e w3 ⟨rfl, v3, q3, hq3, hp3, hh3, hs3⟩
      have HS3 := Lib.hid (HS2.out.turn hq3 hh3 hs3)
      have HR3 := Lib.hid (HR2.out.trans (SR.hs hs3 M))
      have HLEN3 : Hid (N = q3.length + 1) := Lib.hid <| by have := hp3.length_eq; rw [HN.out] at this; simpa using this
      have HLT := Lib.hid (HTOP.out q3 hp3)
      have HP3 := Lib.hid hp3
      have hH3 := HH1.out.perm hp3.symm
      have hkn := hH3.known _ (List.mem_cons_self ..)
      obtain ⟨k1, k2, k3, k4, k5⟩ := hkn
      obtain ⟨fr, hC1, _⟩ := HC.out.some k2
      have HH3 := Lib.hid hH3
      have HB3 : Hid (Blk w3 RB 51 #[.int .i64 0, .int .i64 0, .int .i64 0]) := Lib.hid ((hs3.block RB HB2.out.lt (fun e => by rw [e] at HB2; exact absurd (HB2.out.symm.trans HS2.out.blk) (by simp [sM, sC])) HO1.out).trans HB2.out)
      have HO3 : Hid (Off v3 RB) := Lib.hid (hs3.off HO1.out HB2.out.lt)
      have HQ3 : Hid (∀ a ∈ q3, a ∈ q) := Lib.hid fun a ha => HQ1.out a (hp3.mem_iff.2 (List.mem_cons_of_mem _ ha))
      clear hq3 hh3 hs3 hp3 hH3 HPOP HTOP HS2 HR2 HB2 k1 k2 k3 k4 k5 HO1
      have hta := ta_node (.agg #[.int .i64 (xt : Int), .int .i64 (xg : Int), .int .i64 (xh : Int)]) w3
      go_upto_region 3 with fail
      clear hta
      have hd0 := Blk.new w3 51 #[.int .i64 (xt : Int), .int .i64 (xg : Int), .int .i64 (xh : Int)]
      have hE4 := ext_alloc (Ext.rfl' w3) (.cells #[.int .i64 (xt : Int), .int .i64 (xg : Int), .int .i64 (xh : Int)] 51)
      have hDo : Off v3 w3.heap.size := fun e => by have := (World.ownsRow.lt HS3.out.own _ e).2; omega
      obtain ⟨w4, hw4⟩ : ∃ W, W = w3.alloc (.cells #[.int .i64 (xt : Int), .int .i64 (xg : Int), .int .i64 (xh : Int)] 51) := ⟨_, rfl⟩
      rw [← hw4] at hd0 hE4 ⊢
      generalize w3.heap.size = D at *
      clear hw4
      have HS4 := Lib.hid (HS3.out.ext hE4)
      have HR4 := Lib.hid (HR3.out.trans (SR.ext hE4 B M _))
      have HB4 := Lib.hid (HB3.out.ext hE4)
      have HD4 := Lib.hid hd0
      clear hE4 hd0 HB3 HS3 HR3
      have hlk := run_look_c (w := w4.drew) (HS4.out.map.blk rfl) hC1
      have hfd := fun W' => come_g fr (ti all (Nd.t (xt, xg, xh))).g W'
      have b7 : w4.cell? ⟨B, 7, none⟩ = some (.map (some M)) := HS4.out.blk.cell 7
      have d0 : w4.cell? ⟨D, 0, none⟩ = some (.int .i64 (xt : Int)) := HD4.out.cell 0
      have d1 : w4.cell? ⟨D, 1, none⟩ = some (.int .i64 (xg : Int)) := HD4.out.cell 1
      obtain ⟨gg, hgg⟩ : ∃ gg, gg = (ti all xt).g := ⟨_, rfl⟩
      rw [show (ti all (Nd.t (xt, xg, xh))).g = gg from hgg.symm, show Nd.t (xt, xg, xh) = xt from rfl, show cV (fr, gg) = .agg #[.int .i64 (fr : Int), .int .i64 (gg : Int)] from rfl] at hlk
      rw [show (ti all (Nd.t (xt, xg, xh))).g = gg from hgg.symm] at hfd
      have HGG := Lib.hid hgg
      clear hgg
      by_cases hxg : xg = gg
      · have HBS : Hid (best h all all.length = some xt) := Lib.hid (HH3.out.best HLT.out (hxg.trans HGG.out))
        have HTK : Hid (Hp h (shut all xt) q3) := Lib.hid (HH3.out.taken (hxg.trans HGG.out))
        have HND : Hid ((cNd (nd h all xt)).toArray = #[.int .i64 (xt : Int), .int .i64 (xg : Int), .int .i64 (xh : Int)]) := Lib.hid (by
          have e := (HH3.out.known _ (List.mem_cons_self ..)).2.2.2.1
          show (cNd (xt, (ti all xt).g, h xt)).toArray = _
          rw [← HGG.out, ← hxg, show h xt = xh from e.symm]; rfl)
        subst hxg
        go_region_held3 (fun w' => w'.cell? ⟨D, 0, none⟩ = some (.int .i64 (xt : Int)) ∧ w'.cell? ⟨D, 1, none⟩ = some (.int .i64 (xg : Int)) ∧ w'.cell? ⟨B, 7, none⟩ = some (.map (some M)) ∧ (Instr.lookup 44 (.map (some M)) (.int .i64 (xt : Int)) false).run Try.prog w' = .ok (.agg #[.int .i64 (fr : Int), .int .i64 (xg : Int)]) w')
          (first | assumption | exact ⟨d0, d1, b7, hlk⟩)
          (fail)
        have HS5 := Lib.hid (HS4.out.ext (ext_drew (Ext.rfl' _)))
        have HR5 := Lib.hid (HR4.out.trans (SR.ext (ext_drew (Ext.rfl' _)) B M _))
        have HB5 := Lib.hid (HB4.out.drew)
        have HD5 := Lib.hid (HD4.out.drew)
        clear hlk hfd b7 d0 d1
        obtain ⟨w5, hw5⟩ : ∃ W, W = w4.drew := ⟨_, rfl⟩
        rw [← hw5] at HS5 HR5 HB5 HD5 ⊢
        clear hw5 HS4 HR4 HD4
        have hf2 := HB5.out.frozen
        have hc2 := HB5.out.cell
        have hd2 := HD5.out.cell
        have HB6 := Lib.hid (put3 (a' := .int .i64 (xt : Int)) (b' := .int .i64 (xg : Int)) (c' := .int .i64 (xh : Int)) HB5.out)
        have HBR : Hid (RB ≠ B) := Lib.hid (fun e => by rw [e] at HB5; exact absurd (HB5.out.symm.trans HS5.out.blk) (by simp [sM, sC]))
        have HBM : Hid (RB ≠ M) := Lib.hid (fun e => by rw [e] at HB5; exact map_blk HB5.out HS5.out.map rfl)
        go_wp2_with fail
        refine bodyPost_ret (v := .tuple #[.agg #[.int .i64 (xt : Int), .int .i64 (xg : Int), .int .i64 (xh : Int)], .bool true]) (results_cell2 Try.results18 _ _ RB 51 _ (0, 0) _ rfl HB6.out.1 _ rfl Try.underlying51 rfl (by kernel_rfl)) rfl ?_
        unfold TkPost
        rw [HBS.out]
        refine ⟨by rw [HND.out], q3, v3, HTK.out, HQ3.out, by have := HLEN3.out; omega, HS5.out.far HB6.out.2 HBR.out HBM.out HO3.out, HR5.out.new HB6.out.2 (Nat.le_of_eq hRB.out)⟩
      · have z1 : ¬ (xg : Int) = (gg : Int) := by omega
        have HST : Hid (Hp h all q3) := Lib.hid (HH3.out.stale (fun e => hxg (e.trans HGG.out.symm)))
        go_region_held3 (fun w' => w'.cell? ⟨D, 0, none⟩ = some (.int .i64 (xt : Int)) ∧ w'.cell? ⟨D, 1, none⟩ = some (.int .i64 (xg : Int)) ∧ w'.cell? ⟨B, 7, none⟩ = some (.map (some M)) ∧ (Instr.lookup 44 (.map (some M)) (.int .i64 (xt : Int)) false).run Try.prog w' = .ok (.agg #[.int .i64 (fr : Int), .int .i64 (gg : Int)]) w')
          (first | assumption | exact ⟨d0, d1, b7, hlk⟩)
          (fail)
        clear hlk hfd b7
        go_wp2_with fail
        go_roundg (gk - 1)
        case measure => omega
        case rel => exact ⟨by omega, q3, v3, by have := HLEN3.out; omega, HST.out, HQ3.out, HS4.out.ext (ext_drew (Ext.rfl' _)), HR4.out.trans (SR.ext (ext_drew (Ext.rfl' _)) B M _), HB4.out.drew, HO3.out⟩
    · have y1 : ¬ (0 : Int) < (N : Int) := by omega
      have HBN : Hid (best h all all.length = none) := Lib.hid (by
        have e : q1 = [] := List.eq_nil_of_length_eq_zero (by rw [HN.out]; omega)
        have := HH1.out
        rw [e] at this; exact this.empty _)
      go_wp2_with fail
      refine HLEN.out.mono ?_
      rintro e w2 ⟨rfl, b2⟩
      have HR2 := Lib.hid (HR1.out.trans (SR.ext b2 B M _))
      have HB2 := Lib.hid (HB1.out.ext b2)
      have HB3 := Lib.hid (put3 (a' := .int .i64 0) (b' := .int .i64 0) (c' := .int .i64 0) HB2.out)
      have hf2 := HB2.out.frozen
      have hc2 := HB2.out.cell
      clear b2 HLEN b6
      go_wp2_with fail
      refine bodyPost_ret (v := .tuple #[.agg #[.int .i64 0, .int .i64 0, .int .i64 0], .bool false]) (results_cell2 Try.results18 _ _ RB 51 _ (0, 0) _ rfl HB3.out.1 _ rfl Try.underlying51 rfl (by kernel_rfl)) rfl ?_
      unfold TkPost
      rw [HBN.out]
      exact ⟨rfl, _, HR2.out.new HB3.out.2 (Nat.le_of_eq hRB.out)⟩
end Go.Proofs.Ytmceaocknlnmpaa.Pth
