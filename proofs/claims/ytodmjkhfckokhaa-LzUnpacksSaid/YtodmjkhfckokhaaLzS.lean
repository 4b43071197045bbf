/- Contracts of package lz: literals are told (a closure over three boxes). -/
import Derived.Test.YtodmjkhfckokhaaLzR
import Derived.Test.YtodmjkhfckokhaaRnd
import Derived.Deep.DeepCutAuto
namespace Go.Proofs.Ytodmjkhfckokhaa.Lz
open Go.ChangeShapes Go.WideShapes Go.ChangeAt Go.RowKit Go.Shelf
open Go.Proofs.Ytodmjkhfckokhaa.Wire Go.Proofs.Ytodmjkhfckokhaa.Map32
set_option linter.unusedVariables false

/-- What putRuns comes to. -/
def PutR (w : World) (G up : Nat) (sl : Value) (zs : List Nat) (w' : World) : Prop :=
  ∃ v', Outs w' (G + 3) (G + 2) (G + 1) G up v' sl zs ∧ Chg (G + 3) (G + 2) (G + 1) w w'
def RunRel (w : World) (G up told : Nat) (sl : Value) (xs ys : List Nat) (wr : World) : Prop :=
  ∃ (t : Nat) (v : Value) (zs : List Nat), told ≤ t ∧ t ≤ up ∧ Outs wr (G + 3) (G + 2) (G + 1) G t v sl zs ∧ zs ++ litT ((xs.drop t).take (up - t)) = ys ++ litT ((xs.drop told).take (up - told)) ∧ Chg (G + 3) (G + 2) (G + 1) w wr
theorem lit_cut {xs : List Nat} {t up n : Nat} (ht : t < up) (hto : up ≤ xs.length) (hn : n = min 64 (up - t)) :
    litT ((xs.drop t).take (up - t)) = (2 * (n - 1)) :: ((xs.drop t).take n ++ litT ((xs.drop (t + n)).take (up - (t + n)))) := by
  have hl : ((xs.drop t).take (up - t)).length = up - t := by rw [List.length_take, List.length_drop]; omega
  rw [litT_step (by omega), hl, ← hn, List.take_take, show min n (up - t) = n from by omega, List.drop_take, List.drop_drop, show up - t - n = up - (t + n) from by omega]
theorem apart_of (G : Nat) : Apart (G + 3) (G + 2) (G + 1) G := ⟨by omega, by omega, by omega, by omega, by omega, by omega⟩
def SR (G t : Nat) (sl : Value) (w : World) : Prop := w.cell? ⟨G + 2, 0, none⟩ = some (.int .i64 (t : Int)) ∧ w.cell? ⟨G, 0, none⟩ = some sl
theorem hmx : Try.prog.follows .mixedOrders = true := by kernel_rfl
/-- A part of a slice that reads as bytes. -/
theorem bs_part {w : World} {g o n : Nat} {xs : List Nat} (h : Bs w (some ⟨g, o, none⟩) n xs) (a m : Nat) (ham : a + m ≤ n) : Bs w (some ⟨g, o + a, none⟩) m ((xs.drop a).take m) := by
  have hl := h.1
  refine ⟨by rw [List.length_take, List.length_drop]; omega, fun j => ?_, fun hp => ?_⟩
  · rcases Nat.lt_or_ge j m with hj | hj
    · rw [List.getD_eq_getElem?_getD, List.getElem?_take_of_lt hj, List.getElem?_drop, ← List.getD_eq_getElem?_getD]; exact h.2.1 _
    · rw [List.getD_eq_getElem?_getD, List.getElem?_eq_none (by rw [List.length_take]; omega)]; simp
  · obtain ⟨b, o', he, hlt, hc⟩ := h.2.2 (by omega)
    obtain ⟨rfl, rfl⟩ : b = g ∧ o' = o := by cases he; exact ⟨rfl, rfl⟩
    refine ⟨b, o' + a, rfl, hlt, fun j hj => ?_⟩
    have := hc (a + j) (by omega)
    rw [← Nat.add_assoc] at this
    rw [this, List.getD_eq_getElem?_getD, List.getD_eq_getElem?_getD, List.getElem?_take_of_lt hj, List.getElem?_drop]
set_option maxHeartbeats 4000000 in
set_option maxRecDepth 100000 in
theorem putRuns (G N c told up : Nat) (A : Option Addr) (xs ys : List Nat) (v : Value) (w : World) (hB : Bs w A N xs) (hAd : 0 < N → ∀ ad, A = some ad → ad.block < G) (hN : N ≤ 1000000) (hc1 : N ≤ c) (hc2 : c ≤ 9223372036854775807) (hO : Outs w (G + 3) (G + 2) (G + 1) G told v (.slice A N c) ys) (ht : told ≤ up) (hto : up ≤ N) (hyl : ys.length ≤ 100000000) :
    Calls Try.prog 58 #[.int .i64 (up : Int), .pointer (some ⟨G + 2, 0, none⟩), .pointer (some ⟨G + 1, 0, none⟩), .pointer (some ⟨G, 0, none⟩)] w fun e w' => e = .returned (.tuple #[]) ∧ PutR w G up (.slice A N c) (ys ++ litT ((xs.drop told).take (up - told))) w' := by
  have hxl : xs.length = N := hB.1
  have HB := Lib.hid hB; have HAD := Lib.hid hAd; have HO := Lib.hid hO; have HXL := Lib.hid hxl
  have HAP := Lib.hid (apart_of G)
  have hlt0 := litT_len _ ((xs.drop told).take (up - told)) rfl
  have hlt1 : ((xs.drop told).take (up - told)).length ≤ 1000000 := by rw [List.length_take, List.length_drop]; omega
  obtain ⟨R, hR⟩ : ∃ R, R = ys ++ litT ((xs.drop told).take (up - told)) := ⟨_, rfl⟩
  have hRl : R.length ≤ 110000000 := by rw [hR, List.length_append]; omega
  have HR := Lib.hid hR
  rw [← hR]
  obtain ⟨i0, hi0, hz0, hz1, hz2⟩ := info_parts info8
  have HI := Lib.hid (And.intro hi0 (And.intro hz0 (And.intro hz1 hz2))); clear hi0 hz0 hz1 hz2
  clear hB hAd hO hxl hlt0 hlt1 hR
  go_enter Try.func58, Try.ntmps58
  go_wp2_with fail
  go_loopw [5] (fun _ wr => RunRel w G up told (.slice A N c) xs ys wr) (fun _ wr => up - (intOf ((wr.cell? ⟨G + 2, 0, none⟩).getD undef)).toNat)
  case atStart => exact ⟨told, v, ys, Nat.le_refl _, ht, HO.out, rfl, Chg.refl _ _ _ _⟩
  case round =>
    obtain ⟨t, u, zs, ht1, ht2, hO, hE, hC⟩ := hrel
    rw [← HR.out] at hE
    have c0 := hO.t.cell; have c1 := hO.o.cell; have c2 := hO.b.cell
    have f0 := hO.t.frozen; have f1 := hO.o.frozen
    have HO := Lib.hid hO; have HE := Lib.hid hE; have HC := Lib.hid hC
    clear hO hE hC
    by_cases hlt : t < up
    · obtain ⟨n, hn⟩ : ∃ n, n = min 64 (up - t) := ⟨_, rfl⟩
      have hn1 : 1 ≤ n := by omega
      have hn2 : n ≤ 64 := by omega
      have hn3 : t + n ≤ up := by omega
      have HCUT := Lib.hid (lit_cut (xs := xs) hlt (by rw [HXL.out]; exact hto) hn)
      have z0 : (t : Int) < (up : Int) := by omega
      go_upto_region 1 with fail
      go_cut [5] (fun nv wx => nv = .int .i64 (n : Int) ∧ wr = wx)
      case first =>
        by_cases hm : up - t ≤ 64
        · have hm1 : (up : Int) - (t : Int) ≤ 64 := by omega
          go_wp2_with fail
          go_meet
          exact ⟨int_eq (by omega), rfl⟩
        · have hm1 : ¬ (up : Int) - (t : Int) ≤ 64 := by omega
          go_wp2_with fail
          go_meet
          exact ⟨int_eq (by omega), rfl⟩
      case rest =>
      obtain ⟨rfl, rfl⟩ := hcut
      have HN := Lib.hid hn; clear hn
      have hzl : zs.length ≤ 110000000 := by
        have e := congrArg List.length HE.out
        rw [List.length_append] at e
        omega
      obtain ⟨m, hm⟩ : ∃ m, m = 2 * (n - 1) := ⟨_, rfl⟩
      have q0 : (2 : Int) * ((n : Int) - 1) = (m : Int) := by omega
      have hm1 : m ≤ 126 := by omega
      have HM := Lib.hid hm; clear hm
      have HO1 := Lib.hid (HO.out.ext (ext_alloc (Ext.rfl' wr) (.cells #[.int .u8 (m : Int)] 5)))
      have HSR := Lib.hid (src_one wr m)
      have hzs := HO1.out.t.lt
      go_wp2_with (at_builtin; refine wpList_app_own rfl (.tmp 13) (.tmp 18) 22 22 rfl 5 i0 (.int .u8 0) 1 1 Try.underlying22 HI.out.1 HI.out.2.1 HI.out.2.2.1 HI.out.2.2.2 rfl (G + 3) u _ zs.length (c8 zs) rfl rfl HO1.out.r [m].length (c8 [m]) HSR.out (by unfold maxLen; simp; omega) (by simp; omega) (by omega) ?_; intro v5 w5 hown5 hgr5; have hst := Outs.put HO1.out HAP.out (zs := zs ++ [m]) (by rw [List.length_append, c8_app]; exact hown5) hgr5; obtain ⟨A5, k5, rfl, _⟩ := own_shape hown5; obtain ⟨hc5, hf5, hO5⟩ := hst; have HO5 := Lib.hid hO5; have HC5 := Lib.hid ((HC.out.trans (Chg.of_ext (ext_alloc (Ext.rfl' wr) _))).trans ((Chg.of_row HO1.out.r hgr5).trans (Chg.of_set (G + 1) (.slice A5 (zs.length + [m].length) k5) (.inr rfl)))); clear hown5 hgr5 hO5)
      have HO6 : Hid (Outs (w5.setCell ⟨G + 1, 0, none⟩ (.slice A5 (zs.length + 1) k5)) (G + 3) (G + 2) (G + 1) G t (.slice A5 (zs.length + 1) k5) (.slice A N c) (zs ++ [m])) := HO5
      have HC6 : Hid (Chg (G + 3) (G + 2) (G + 1) w (w5.setCell ⟨G + 1, 0, none⟩ (.slice A5 (zs.length + 1) k5))) := HC5
      clear HO5 HC5 HO1 HSR hzs hc5 hf5
      obtain ⟨W1, hW1⟩ : ∃ W, W = w5.setCell ⟨G + 1, 0, none⟩ (.slice A5 (zs.length + 1) k5) := ⟨_, rfl⟩
      rw [← hW1] at HO6 HC6 ⊢
      clear hW1
      obtain ⟨b, o, rfl, _, _⟩ := HB.out.2.2 (by omega)
      have d0 := HO6.out.t.cell; have d1 := HO6.out.o.cell; have d2 := HO6.out.b.cell
      have g0 := HO6.out.t.frozen; have g1 := HO6.out.o.frozen
      clear c0 c1 c2 f0 f1
      have s1 : IntKind.i64.wrap ((t : Int) + (n : Int)) = (t : Int) + (n : Int) := by rw [IntKind.wrap_i64]; omega
      have s2 : (0 : Int) ≤ (t : Int) := by omega
      have s3 : (t : Int) ≤ (t : Int) + (n : Int) := by omega
      have s4 : (t : Int) + (n : Int) ≤ (c : Int) := by omega
      have s5 : ((t : Int) + (n : Int)).toNat = t + n := by omega
      have s6 : ¬ c = t := by omega
      obtain ⟨q, hq⟩ : ∃ q, q = zs ++ [m] ++ (xs.drop t).take n := ⟨_, rfl⟩
      have HQ := Lib.hid hq; clear hq
      go_cut [] (fun wx => (∃ v9, Outs wx (G + 3) (G + 2) (G + 1) G t v9 (.slice (some ⟨b, o, none⟩) N c) q) ∧ Chg (G + 3) (G + 2) (G + 1) w wx)
      case first =>
        refine wp_region_held_drew (S := SR G t (.slice (some ⟨b, o, none⟩) N c)) hmx ⟨d0, d2⟩ (fun _ => ?_)
        (refine wpAnyH_take (i := 1) (v := ?_) rfl (by kernel_rfl) (by kernel_rfl) (by kernel_rfl) (fun _ _ _ h => h) (Or.inl ⟨by rfl, ?_⟩) (by assumption) ?_); rotate_left
        · (intro w' hSw; obtain ⟨t0, t2⟩ := hSw; go_simp; try with_reducible rfl)
        (refine wpAnyH_take (i := 2) (v := ?_) rfl (by kernel_rfl) (by kernel_rfl) (by kernel_rfl) (fun _ _ _ h => h) (Or.inl ⟨by rfl, ?_⟩) (by assumption) ?_); rotate_left
        · (intro w' hSw; obtain ⟨t0, t2⟩ := hSw; go_simp; try with_reducible rfl)
        (refine wpAnyH_take (i := 3) (v := ?_) rfl (by kernel_rfl) (by kernel_rfl) (by kernel_rfl) (fun _ _ _ h => h) (Or.inl ⟨by rfl, ?_⟩) (by assumption) ?_); rotate_left
        · (intro w' hSw; obtain ⟨t0, t2⟩ := hSw; go_simp; try with_reducible rfl)
        (refine wpAnyH_take (i := 4) (v := ?_) rfl (by kernel_rfl) (by kernel_rfl) (by kernel_rfl) (fun _ _ _ h => h) (Or.inl ⟨by rfl, ?_⟩) (by assumption) ?_); rotate_left
        · (intro w' hSw; obtain ⟨t0, t2⟩ := hSw; go_simp; try with_reducible rfl)
        (refine wpAnyH_take (i := 5) (v := ?_) rfl (by kernel_rfl) (by kernel_rfl) (by kernel_rfl) (fun _ _ _ h => h) (Or.inl ⟨by rfl, ?_⟩) (by assumption) ?_); rotate_left
        · (intro w' hSw; obtain ⟨t0, t2⟩ := hSw; go_simp; try with_reducible rfl)
        (refine wpAnyH_take (i := 6) (v := ?_) rfl (by kernel_rfl) (by kernel_rfl) (by kernel_rfl) (fun _ _ _ h => h) (Or.inl ⟨by rfl, ?_⟩) (by assumption) ?_); rotate_left
        · (intro w' hSw; obtain ⟨t0, t2⟩ := hSw; go_simp; try with_reducible rfl)
        have hN3 : t + n ≤ N := by omega
        have HO7 := Lib.hid (HO6.out.ext (ext_drew (Ext.rfl' W1)))
        have HB7 := Lib.hid ((HC6.out.trans (Chg.of_ext (ext_drew (Ext.rfl' W1)))).bs HB.out (fun ad h => by have := HAD.out (by omega) ad h; omega))
        obtain ⟨v2, w9, hrun, ho2, hgr2⟩ := run_app_own (P := Try.prog) 22 22 22 5 i0 (.int .u8 0) 1 1 Try.underlying22 HI.out.1 HI.out.2.1 HI.out.2.2.1 HI.out.2.2.2 rfl (G + 3) (.slice A5 (zs.length + 1) k5) (zs ++ [m]).length (c8 (zs ++ [m])) HO7.out.r (.slice (some ⟨b, o + t, none⟩) n (c - t)) n (c8 ((xs.drop t).take n)) ((bs_part HB7.out t n hN3).src Try.underlying22 (c - t)) (by unfold maxLen; rw [List.length_append]; simp; omega) (by rw [List.length_append]; simp; omega) (by have := HO7.out.t.lt; omega)
        have hl9 : ((xs.drop t).take n).length = n := (bs_part HB7.out t n hN3).1
        have ho3 : w9.ownsRow (G + 3) 5 1 v2 q.length (c8 q) := by rw [HQ.out, List.length_append, hl9, c8_app (zs ++ [m])]; exact ho2
        have hst := Outs.put HO7.out HAP.out ho3 hgr2
        have HST := Lib.hid (Outs.still HO7.out HAP.out hgr2)
        obtain ⟨A2, c3, rfl, _⟩ := own_shape ho3
        obtain ⟨hc9, hf9, hO9⟩ := hst
        have HO9 := Lib.hid hO9
        have HC9 := Lib.hid (HC6.out.trans ((Chg.of_ext (ext_drew (Ext.rfl' W1))).trans ((Chg.of_row HO7.out.r hgr2).trans (Chg.of_set (G + 1) (.slice A2 q.length c3) (.inr rfl)))))
        have HRUN := Lib.hid hrun
        clear ho2 ho3 hgr2 hO9 hrun hl9
        refine wpAnyH_ready (rs := [0]) (by kernel_rfl) (by simp) ?_
        refine AllReadyH.cons rfl (fun K hK => ?_) AllReadyH.nil
        go_simp
        refine hK.out _ _ (by assumption) (fun _ => ?_)
        clear hK K
        refine wpAnyH_ready (rs := [7]) (by kernel_rfl) (by simp) ?_
        refine AllReadyH.cons rfl (fun K hK => ?_) AllReadyH.nil
        refine wanted_append rfl (.tmp 20) (.tmp 26) 22 22 rfl _ _ rfl rfl HRUN.out ?_
        refine hK.out _ _ HST.out (fun _ => ?_)
        clear hK K
        refine wpAnyH_ready (rs := [8]) (by kernel_rfl) (by simp) ?_
        refine AllReadyH.cons rfl (fun K hK => ?_) AllReadyH.nil
        go_simp
        refine hK.out _ _ ⟨HO9.out.t.cell, HO9.out.b.cell⟩ (fun _ => ?_)
        clear hK K
        refine wpAnyH_done (by kernel_rfl) ?_ _
        go_wp2_with fail
        go_meet
        exact ⟨⟨_, HO9.out⟩, HC9.out⟩
      case rest =>
        clear HO6 HC6 d0 d1 d2 g0 g1 s1 s2 s3 s4 s5 s6
        obtain ⟨⟨v9, hO9⟩, hC9⟩ := hcut
        have c0 := hO9.t.cell; have f0 := hO9.t.frozen
        have HO9 := Lib.hid hO9; have HC9 := Lib.hid hC9
        clear hO9 hC9
        have z3 : IntKind.i64.wrap ((t : Int) + (n : Int)) = (t : Int) + (n : Int) := by rw [IntKind.wrap_i64]; omega
        go_wp2_with fail
        go_roundw
        case rel => exact ⟨t + n, v9, q, by omega, by omega, HO9.out.tell HAP.out (by omega), by rw [← HR.out, ← HE.out, HCUT.out, HQ.out, HM.out]; simp only [List.append_assoc, List.cons_append, List.nil_append], HC9.out.trans (Chg.of_set (G + 2) _ (.inl rfl))⟩
        case measure =>
          have e1 := HO.out.t.cell
          have e2 := (HO9.out.tell HAP.out (m := (t : Int) + (n : Int)) (n := t + n) (by omega)).t.cell
          rw [e1, e2]
          simp only [Option.getD_some, intOf]
          omega
    · have z0 : ¬ (t : Int) < (up : Int) := by omega
      have htt : t = up := by omega
      have HF : Hid (zs = R) := Lib.hid (by
        have e := HE.out
        rw [htt, Nat.sub_self, List.take_zero, litT_nil, List.append_nil] at e
        exact e)
      have HT := Lib.hid htt; clear htt
      go_wp2_with fail
      refine bodyPost_end (results_none rfl _ _ _) rfl ⟨rfl, ?_⟩
      exact ⟨u, by rw [← HF.out, ← HT.out]; exact HO.out, HC.out⟩
end Go.Proofs.Ytodmjkhfckokhaa.Lz
