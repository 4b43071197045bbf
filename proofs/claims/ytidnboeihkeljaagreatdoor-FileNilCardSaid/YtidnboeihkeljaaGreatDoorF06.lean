
import Derived.Test.YtidnboeihkeljaaGreatDoorF05
import Derived.Deep.DeepCutAuto
set_option maxHeartbeats 16000000
set_option maxRecDepth 100000
set_option linter.all false
namespace Go.Proofs.YtidnboeihkeljaaGreatDoor.Lz
open Go.ChangeShapes Go.WideShapes Go.ChangeAt Go.RowKit Go.Shelf
open Wire Go.Proofs.YtidnboeihkeljaaGreatDoor.Map32
def PutR (w : World) (G up : Nat) (sl : Value) (zs : List Nat) (w' : World) : Prop :=
 ∃ v', Outs w' (G + 3) (G + 2) (G + 1) G up v' sl zs ∧ Chg (G + 3) (G + 2) (G + 1) w w'
def RunRel (w : World) (G up told : Nat) (sl : Value) (xs ys : List Nat) (wr : World) : Prop :=
 ∃ (t : Nat) (v : Value) (zs : List Nat), told ≤ t ∧ t ≤ up ∧ Outs wr (G + 3) (G + 2) (G + 1) G t v sl zs ∧ zs ++ litT ((xs.drop t).take (up - t)) = ys ++ litT ((xs.drop told).take (up - told)) ∧ Chg (G + 3) (G + 2) (G + 1) w wr
theorem lit_cut {xs : List Nat} {t up n : Nat} (ht : t < up) (hto : up ≤ xs.length) (hn : n = min 64 (up - t)) :
  litT ((xs.drop t).take (up - t)) = (2 * (n - 1)) :: ((xs.drop t).take n ++ litT ((xs.drop (t + n)).take (up - (t + n)))) := by
 have hl : ((xs.drop t).take (up - t)).length = up - t := by rw [List.length_take, List.length_drop]; omega
 rw [litT_step (by omega), hl, ← hn, List.take_take, show min n (up - t) = n from by omega, List.drop_take, List.drop_drop, show up - t - n = up - (t + n) from by omega]
theorem apart_of (G : Nat) : Apart (G + 3) (G + 2) (G + 1) G := ⟨by omega, by omega, by omega, by omega, by omega, by omega⟩
def SR (G t : Nat) (sl : Value) (w : World) : Prop := w.cell? ⟨G + 2, 0, none⟩ = some (.int .i64 (t : Int)) ∧ w.cell? ⟨G, 0, none⟩ = some sl
theorem hmx : Tryz.prog.follows .mixedOrders = true := by kernel_rfl
theorem bs_part {w : World} {g o n : Nat} {xs : List Nat} (h : Bs w (some ⟨g, o, none⟩) n xs) (a m : Nat) (ham : a + m ≤ n) : Bs w (some ⟨g, o + a, none⟩) m ((xs.drop a).take m) := by
 have hl := h.1
 refine ⟨by rw [List.length_take, List.length_drop]; omega, fun j => ?_, fun hp => ?_⟩
 ·rcases Nat.lt_or_ge j m with hj | hj
  ·rw [List.getD_eq_getElem?_getD, List.getElem?_take_of_lt hj, List.getElem?_drop, ← List.getD_eq_getElem?_getD]; exact h.2.1 _
  ·rw [List.getD_eq_getElem?_getD, List.getElem?_eq_none (by rw [List.length_take]; omega)]; simp
 ·obtain ⟨b, o', he, hlt, hc⟩ := h.2.2 (by omega)
  obtain ⟨rfl, rfl⟩ : b = g ∧ o' = o := by cases he; exact ⟨rfl, rfl⟩
  refine ⟨b, o' + a, rfl, hlt, fun j hj => ?_⟩
  have := hc (a + j) (by omega)
  rw [← Nat.add_assoc] at this
  rw [this, List.getD_eq_getElem?_getD, List.getD_eq_getElem?_getD, List.getElem?_take_of_lt hj, List.getElem?_drop]
theorem putRuns (G N c told up : Nat) (A : Option Addr) (xs ys : List Nat) (v : Value) (w : World) (hB : Bs w A N xs) (hAd : 0 < N → ∀ ad, A = some ad → ad.block < G) (hN : N ≤ 1000000) (hc1 : N ≤ c) (hc2 : c ≤ 9223372036854775807) (hO : Outs w (G + 3) (G + 2) (G + 1) G told v (.slice A N c) ys) (ht : told ≤ up) (hto : up ≤ N) (hyl : ys.length ≤ 100000000) :
  Calls Tryz.prog 125 #[.int .i64 (up : Int), .pointer (some ⟨G + 2, 0, none⟩), .pointer (some ⟨G + 1, 0, none⟩), .pointer (some ⟨G, 0, none⟩)] w fun e w' => e = .returned (.tuple #[]) ∧ PutR w G up (.slice A N c) (ys ++ litT ((xs.drop told).take (up - told))) w' := by
 have hxl : xs.length = N := hB.1
 have HB := Lib.hid hB; have HAD := Lib.hid hAd; have HO := Lib.hid hO; have HXL := Lib.hid hxl
 have HAP := Lib.hid (apart_of G)
 have hlt0 := litT_len _ ((xs.drop told).take (up - told)) rfl
 have hlt1 : ((xs.drop told).take (up - told)).length ≤ 1000000 := by rw [List.length_take, List.length_drop]; omega
 obtain ⟨R, hR⟩ : ∃ R, R = ys ++ litT ((xs.drop told).take (up - told)) := ⟨_, rfl⟩
 have hRl : R.length ≤ 110000000 := by rw [hR, List.length_append]; omega
 have HR := Lib.hid hR
 rw [← hR]
 obtain ⟨i0, hi0, hz0, hz1, hz2⟩ := info_parts info8
 have HI := Lib.hid (And.intro hi0 (And.intro hz0 (And.intro hz1 hz2))); clear hi0 hz0 hz1 hz2
 clear hB hAd hO hxl hlt0 hlt1 hR
 go_enter Tryz.func125, Tryz.ntmps125
 go_wp2_with fail
 go_loopw [5] (fun _ wr => RunRel w G up told (.slice A N c) xs ys wr) (fun _ wr => up - (intOf ((wr.cell? ⟨G + 2, 0, none⟩).getD undef)).toNat)
 case atStart => exact ⟨told, v, ys, Nat.le_refl _, ht, HO.out, rfl, Chg.refl _ _ _ _⟩
 case round =>
  obtain ⟨t, u, zs, ht1, ht2, hO, hE, hC⟩ := hrel
  rw [← HR.out] at hE
  have c0 := hO.t.cell; have c1 := hO.o.cell; have c2 := hO.b.cell
  have f0 := hO.t.frozen; have f1 := hO.o.frozen
  have HO := Lib.hid hO; have HE := Lib.hid hE; have HC := Lib.hid hC
  clear hO hE hC
  by_cases hlt : t < up
  ·obtain ⟨n, hn⟩ : ∃ n, n = min 64 (up - t) := ⟨_, rfl⟩
   have hn1 : 1 ≤ n := by omega
   have hn2 : n ≤ 64 := by omega
   have hn3 : t + n ≤ up := by omega
   have HCUT := Lib.hid (lit_cut (xs := xs) hlt (by rw [HXL.out]; exact hto) hn)
   have z0 : (t : Int) < (up : Int) := by omega
   go_upto_region 1 with fail
   go_cut [5] (fun nv wx => nv = .int .i64 (n : Int) ∧ wr = wx)
   case first =>
    by_cases hm : up - t ≤ 64
    ·have hm1 : (up : Int) - (t : Int) ≤ 64 := by omega
     go_wp2_with fail
     go_meet
     exact ⟨int_eq (by omega), rfl⟩
    ·have hm1 : ¬ (up : Int) - (t : Int) ≤ 64 := by omega
     go_wp2_with fail
     go_meet
     exact ⟨int_eq (by omega), rfl⟩
   case rest =>
   obtain ⟨rfl, rfl⟩ := hcut
   have HN := Lib.hid hn; clear hn
   have hzl : zs.length ≤ 110000000 := by
    have e := congrArg List.length HE.out
    rw [List.length_append] at e
    omega
   obtain ⟨m, hm⟩ : ∃ m, m = 2 * (n - 1) := ⟨_, rfl⟩
   have q0 : (2 : Int) * ((n : Int) - 1) = (m : Int) := by omega
   have hm1 : m ≤ 126 := by omega
   have HM := Lib.hid hm; clear hm
   have HO1 := Lib.hid (HO.out.ext (ext_alloc (Ext.rfl' wr) (.cells #[.int .u8 (m : Int)] 5)))
   have HSR := Lib.hid (src_one wr m)
   have hzs := HO1.out.t.lt
   go_wp2_with (at_builtin; refine wpList_app_own rfl (.tmp 13) (.tmp 18) 48 48 rfl 5 i0 (.int .u8 0) 1 1 Tryz.underlying48 HI.out.1 HI.out.2.1 HI.out.2.2.1 HI.out.2.2.2 rfl (G + 3) u _ zs.length (c8 zs) rfl rfl HO1.out.r [m].length (c8 [m]) HSR.out (by unfold maxLen; simp; omega) (by simp; omega) (by omega) ?_; intro v5 w5 hown5 hgr5; have hst := Outs.put HO1.out HAP.out (zs := zs ++ [m]) (by rw [List.length_append, c8_app]; exact hown5) hgr5; obtain ⟨A5, k5, rfl, _⟩ := own_shape hown5; obtain ⟨hc5, hf5, hO5⟩ := hst; have HO5 := Lib.hid hO5; have HC5 := Lib.hid ((HC.out.trans (Chg.of_ext (ext_alloc (Ext.rfl' wr) _))).trans ((Chg.of_row HO1.out.r hgr5).trans (Chg.of_set (G + 1) (.slice A5 (zs.length + [m].length) k5) (.inr rfl)))); clear hown5 hgr5 hO5)
   have HO6 : Hid (Outs (w5.setCell ⟨G + 1, 0, none⟩ (.slice A5 (zs.length + 1) k5)) (G + 3) (G + 2) (G + 1) G t (.slice A5 (zs.length + 1) k5) (.slice A N c) (zs ++ [m])) := HO5
   have HC6 : Hid (Chg (G + 3) (G + 2) (G + 1) w (w5.setCell ⟨G + 1, 0, none⟩ (.slice A5 (zs.length + 1) k5))) := HC5
   clear HO5 HC5 HO1 HSR hzs hc5 hf5
   obtain ⟨W1, hW1⟩ : ∃ W, W = w5.setCell ⟨G + 1, 0, none⟩ (.slice A5 (zs.length + 1) k5) := ⟨_, rfl⟩
   rw [← hW1] at HO6 HC6 ⊢
   clear hW1
   obtain ⟨b, o, rfl, _, _⟩ := HB.out.2.2 (by omega)
   have d0 := HO6.out.t.cell; have d1 := HO6.out.o.cell; have d2 := HO6.out.b.cell
   have g0 := HO6.out.t.frozen; have g1 := HO6.out.o.frozen
   clear c0 c1 c2 f0 f1
   have s1 : IntKind.i64.wrap ((t : Int) + (n : Int)) = (t : Int) + (n : Int) := by rw [IntKind.wrap_i64]; omega
   have s2 : (0 : Int) ≤ (t : Int) := by omega
   have s3 : (t : Int) ≤ (t : Int) + (n : Int) := by omega
   have s4 : (t : Int) + (n : Int) ≤ (c : Int) := by omega
   have s5 : ((t : Int) + (n : Int)).toNat = t + n := by omega
   have s6 : ¬ c = t := by omega
   obtain ⟨q, hq⟩ : ∃ q, q = zs ++ [m] ++ (xs.drop t).take n := ⟨_, rfl⟩
   have HQ := Lib.hid hq; clear hq
   go_cut [] (fun wx => (∃ v9, Outs wx (G + 3) (G + 2) (G + 1) G t v9 (.slice (some ⟨b, o, none⟩) N c) q) ∧ Chg (G + 3) (G + 2) (G + 1) w wx)
   case first =>
    refine wp_region_held_drew (S := SR G t (.slice (some ⟨b, o, none⟩) N c)) hmx ⟨d0, d2⟩ (fun _ => ?_)
    (refine wpAnyH_take (i := 1) (v := ?_) rfl (by kernel_rfl) (by kernel_rfl) (by kernel_rfl) (fun _ _ _ h => h) (Or.inl ⟨by rfl, ?_⟩) (by assumption) ?_); rotate_left
    ·(intro w' hSw; obtain ⟨t0, t2⟩ := hSw; go_simp; try with_reducible rfl)
    (refine wpAnyH_take (i := 2) (v := ?_) rfl (by kernel_rfl) (by kernel_rfl) (by kernel_rfl) (fun _ _ _ h => h) (Or.inl ⟨by rfl, ?_⟩) (by assumption) ?_); rotate_left
    ·(intro w' hSw; obtain ⟨t0, t2⟩ := hSw; go_simp; try with_reducible rfl)
    (refine wpAnyH_take (i := 3) (v := ?_) rfl (by kernel_rfl) (by kernel_rfl) (by kernel_rfl) (fun _ _ _ h => h) (Or.inl ⟨by rfl, ?_⟩) (by assumption) ?_); rotate_left
    ·(intro w' hSw; obtain ⟨t0, t2⟩ := hSw; go_simp; try with_reducible rfl)
    (refine wpAnyH_take (i := 4) (v := ?_) rfl (by kernel_rfl) (by kernel_rfl) (by kernel_rfl) (fun _ _ _ h => h) (Or.inl ⟨by rfl, ?_⟩) (by assumption) ?_); rotate_left
    ·(intro w' hSw; obtain ⟨t0, t2⟩ := hSw; go_simp; try with_reducible rfl)
    (refine wpAnyH_take (i := 5) (v := ?_) rfl (by kernel_rfl) (by kernel_rfl) (by kernel_rfl) (fun _ _ _ h => h) (Or.inl ⟨by rfl, ?_⟩) (by assumption) ?_); rotate_left
    ·(intro w' hSw; obtain ⟨t0, t2⟩ := hSw; go_simp; try with_reducible rfl)
    (refine wpAnyH_take (i := 6) (v := ?_) rfl (by kernel_rfl) (by kernel_rfl) (by kernel_rfl) (fun _ _ _ h => h) (Or.inl ⟨by rfl, ?_⟩) (by assumption) ?_); rotate_left
    ·(intro w' hSw; obtain ⟨t0, t2⟩ := hSw; go_simp; try with_reducible rfl)
    have hN3 : t + n ≤ N := by omega
    have HO7 := Lib.hid (HO6.out.ext (ext_drew (Ext.rfl' W1)))
    have HB7 := Lib.hid ((HC6.out.trans (Chg.of_ext (ext_drew (Ext.rfl' W1)))).bs HB.out (fun ad h => by have := HAD.out (by omega) ad h; omega))
    obtain ⟨v2, w9, hrun, ho2, hgr2⟩ := run_app_own (P := Tryz.prog) 48 48 48 5 i0 (.int .u8 0) 1 1 Tryz.underlying48 HI.out.1 HI.out.2.1 HI.out.2.2.1 HI.out.2.2.2 rfl (G + 3) (.slice A5 (zs.length + 1) k5) (zs ++ [m]).length (c8 (zs ++ [m])) HO7.out.r (.slice (some ⟨b, o + t, none⟩) n (c - t)) n (c8 ((xs.drop t).take n)) ((bs_part HB7.out t n hN3).src Tryz.underlying48 (c - t)) (by unfold maxLen; rw [List.length_append]; simp; omega) (by rw [List.length_append]; simp; omega) (by have := HO7.out.t.lt; omega)
    have hl9 : ((xs.drop t).take n).length = n := (bs_part HB7.out t n hN3).1
    have ho3 : w9.ownsRow (G + 3) 5 1 v2 q.length (c8 q) := by rw [HQ.out, List.length_append, hl9, c8_app (zs ++ [m])]; exact ho2
    have hst := Outs.put HO7.out HAP.out ho3 hgr2
    have HST := Lib.hid (Outs.still HO7.out HAP.out hgr2)
    obtain ⟨A2, c3, rfl, _⟩ := own_shape ho3
    obtain ⟨hc9, hf9, hO9⟩ := hst
    have HO9 := Lib.hid hO9
    have HC9 := Lib.hid (HC6.out.trans ((Chg.of_ext (ext_drew (Ext.rfl' W1))).trans ((Chg.of_row HO7.out.r hgr2).trans (Chg.of_set (G + 1) (.slice A2 q.length c3) (.inr rfl)))))
    have HRUN := Lib.hid hrun
    clear ho2 ho3 hgr2 hO9 hrun hl9
    refine wpAnyH_ready (rs := [0]) (by kernel_rfl) (by simp) ?_
    refine AllReadyH.cons rfl (fun K hK => ?_) AllReadyH.nil
    go_simp
    refine hK.out _ _ (by assumption) (fun _ => ?_)
    clear hK K
    refine wpAnyH_ready (rs := [7]) (by kernel_rfl) (by simp) ?_
    refine AllReadyH.cons rfl (fun K hK => ?_) AllReadyH.nil
    refine wanted_append rfl (.tmp 20) (.tmp 26) 48 48 rfl _ _ rfl rfl HRUN.out ?_
    refine hK.out _ _ HST.out (fun _ => ?_)
    clear hK K
    refine wpAnyH_ready (rs := [8]) (by kernel_rfl) (by simp) ?_
    refine AllReadyH.cons rfl (fun K hK => ?_) AllReadyH.nil
    go_simp
    refine hK.out _ _ ⟨HO9.out.t.cell, HO9.out.b.cell⟩ (fun _ => ?_)
    clear hK K
    refine wpAnyH_done (by kernel_rfl) ?_ _
    go_wp2_with fail
    go_meet
    exact ⟨⟨_, HO9.out⟩, HC9.out⟩
   case rest =>
    clear HO6 HC6 d0 d1 d2 g0 g1 s1 s2 s3 s4 s5 s6
    obtain ⟨⟨v9, hO9⟩, hC9⟩ := hcut
    have c0 := hO9.t.cell; have f0 := hO9.t.frozen
    have HO9 := Lib.hid hO9; have HC9 := Lib.hid hC9
    clear hO9 hC9
    have z3 : IntKind.i64.wrap ((t : Int) + (n : Int)) = (t : Int) + (n : Int) := by rw [IntKind.wrap_i64]; omega
    go_wp2_with fail
    go_roundw
    case rel => exact ⟨t + n, v9, q, by omega, by omega, HO9.out.tell HAP.out (by omega), by rw [← HR.out, ← HE.out, HCUT.out, HQ.out, HM.out]; simp only [List.append_assoc, List.cons_append, List.nil_append], HC9.out.trans (Chg.of_set (G + 2) _ (.inl rfl))⟩
    case measure =>
     have e1 := HO.out.t.cell
     have e2 := (HO9.out.tell HAP.out (m := (t : Int) + (n : Int)) (n := t + n) (by omega)).t.cell
     rw [e1, e2]
     simp only [Option.getD_some, intOf]
     omega
  ·have z0 : ¬ (t : Int) < (up : Int) := by omega
   have htt : t = up := by omega
   have HF : Hid (zs = R) := Lib.hid (by
    have e := HE.out
    rw [htt, Nat.sub_self, List.take_zero, litT_nil, List.append_nil] at e
    exact e)
   have HT := Lib.hid htt; clear htt
   go_wp2_with fail
   refine bodyPost_end (results_none rfl _ _ _) rfl ⟨rfl, ?_⟩
   exact ⟨u, by rw [← HF.out, ← HT.out]; exact HO.out, HC.out⟩
end Go.Proofs.YtidnboeihkeljaaGreatDoor.Lz
namespace Go.Proofs.YtidnboeihkeljaaGreatDoor.Lz
open Go.ChangeShapes Go.WideShapes Go.ChangeAt Go.RowKit
open Wire

theorem unp_nil (M : Nat) (out : List Nat) : unp M out [] = .ok out := by rw [unp]
theorem unp_high {M : Nat} {out cs : List Nat} {k : Nat} (h : 128 ≤ k) : unp M out (k :: cs) = .bad 4 := by rw [unp, if_pos h]
theorem unp_run6 {M : Nat} {out cs : List Nat} {k : Nat} (h : k < 128) (h2 : k % 2 = 0) (h3 : M < out.length + (k / 2 + 1)) : unp M out (k :: cs) = .bad 6 := by rw [unp, if_neg (by omega), if_pos h2, if_pos h3]
theorem unp_run3 {M : Nat} {out cs : List Nat} {k : Nat} (h : k < 128) (h2 : k % 2 = 0) (h3 : ¬ M < out.length + (k / 2 + 1)) (h4 : cs.length < k / 2 + 1) : unp M out (k :: cs) = .bad 3 := by rw [unp, if_neg (by omega), if_pos h2, if_neg h3, if_pos h4]
theorem unp_run {M : Nat} {out cs : List Nat} {k : Nat} (h : k < 128) (h2 : k % 2 = 0) (h3 : ¬ M < out.length + (k / 2 + 1)) (h4 : ¬ cs.length < k / 2 + 1) : unp M out (k :: cs) = unp M (out ++ cs.take (k / 2 + 1)) (cs.drop (k / 2 + 1)) := by rw [unp, if_neg (by omega), if_pos h2, if_neg h3, if_neg h4]
theorem unp_short {M : Nat} {out cs : List Nat} {k : Nat} (h : k < 128) (h2 : ¬ k % 2 = 0) (hv : vr 0 0 cs = .short) : unp M out (k :: cs) = .bad 3 := by rw [unp, if_neg (by omega), if_neg h2, hv]
theorem unp_form {M : Nat} {out cs : List Nat} {k : Nat} (h : k < 128) (h2 : ¬ k % 2 = 0) (hv : vr 0 0 cs = .form) : unp M out (k :: cs) = .bad 4 := by rw [unp, if_neg (by omega), if_neg h2, hv]
theorem unp_far {M : Nat} {out cs : List Nat} {k v j : Nat} (h : k < 128) (h2 : ¬ k % 2 = 0) (hv : vr 0 0 cs = .ok v j) (h3 : 4096 ≤ v ∨ out.length ≤ v) : unp M out (k :: cs) = .bad 4 := by rw [unp, if_neg (by omega), if_neg h2, hv]; simp only [if_pos h3]
theorem unp_match6 {M : Nat} {out cs : List Nat} {k v j : Nat} (h : k < 128) (h2 : ¬ k % 2 = 0) (hv : vr 0 0 cs = .ok v j) (h3 : ¬ (4096 ≤ v ∨ out.length ≤ v)) (h4 : M < out.length + (k / 2 + 3)) : unp M out (k :: cs) = .bad 6 := by rw [unp, if_neg (by omega), if_neg h2, hv]; simp only [if_neg h3, if_pos h4]
theorem unp_match {M : Nat} {out cs : List Nat} {k v j : Nat} (h : k < 128) (h2 : ¬ k % 2 = 0) (hv : vr 0 0 cs = .ok v j) (h3 : ¬ (4096 ≤ v ∨ out.length ≤ v)) (h4 : ¬ M < out.length + (k / 2 + 3)) : unp M out (k :: cs) = unp M (rep out (v + 1) (k / 2 + 3)) (cs.drop j) := by
 conv => lhs; rw [unp]
 rw [if_neg (by omega), if_neg h2, hv]; simp only [if_neg h3, if_neg h4]
theorem eff_old' {a W w' : World} {g i : Nat} {s : Value} {e : Int} (h : Ext a W) (k : Eff W w' g s i e) (hg : a.heap.size ≤ g) : Ext a w' := ext_grown h k.2 (fun j hj => by obtain rfl := Option.some.inj hj; exact hg)
def UPost (w : World) (R : UR) (e : Ending) (w' : World) : Prop :=
 Ext w w' ∧ match R with
 | .bad f => e = .returned (.tuple #[.slice none 0 0, .int .i64 f]) ∧ f ≠ 0
 | .ok zs => (∃ v, e = .returned (.tuple #[v, .int .i64 0]) ∧ Wire.Own w w' v zs) ∧ ∀ c ∈ zs, c < 256
def URel (W : World) (g N c M : Nat) (A : Option Addr) (xs : List Nat) (R : UR) (ov : Value) (wr : World) : Prop :=
 ∃ (i : Nat) (out : List Nat), i ≤ N ∧ Wire.Own W wr ov out ∧ Eff W wr g (.slice A N c) i 0 ∧ unp M out (xs.drop i) = R ∧ out.length ≤ M ∧ ∀ c ∈ out, c < 256
theorem unpack (B : Option Addr) (N cd : Nat) (xs : List Nat) (most : Int) (w : World) (hB : Bs w B N xs) (hnil : B = none → N = 0 ∧ cd = 0) (hN : N ≤ 1000000) (hm1 : -9223372036854775808 ≤ most) (hm2 : most ≤ 4000000000) :
  Calls Tryz.prog 113 #[.slice B N cd, .int .i64 most] w (UPost w (unp most.toNat [] xs)) := by
 have HB := Lib.hid hB; have HNIL := Lib.hid hnil
 have hxl : xs.length = N := hB.1
 have hxs := mem_small hB.2.1
 have HXL := Lib.hid hxl; have HXS := Lib.hid hxs
 clear hB hnil hxl hxs
 obtain ⟨R, hR⟩ : ∃ R, R = unp most.toNat [] xs := ⟨_, rfl⟩
 rw [← hR]
 have HR := Lib.hid hR; clear hR
 obtain ⟨M, hM⟩ : ∃ M, M = most.toNat := ⟨_, rfl⟩
 rw [← hM] at HR
 have hM1 : M ≤ 4000000000 := by omega
 have hM2 : max most 0 = (M : Int) := by omega
 have HM := Lib.hid hM; have HM2 := Lib.hid hM2; clear hM hM2
 go_enter Tryz.func113, Tryz.ntmps113
 go_wp2_with fail
 refine (of B N cd xs w HB.out HNIL.out (by omega)).mono ?_
 rintro e w1 ⟨g, A1, c1, rfl, hg, hr, hrb, hE1⟩
 have hgl : g < w1.heap.size := Blk.lt hr
 have HRD := Lib.hid hr; have HRB := Lib.hid hrb; have HE1 := Lib.hid hE1
 clear hr hrb hE1
 go_wp2_with fail
 go_loopw [7] (fun ov wr => URel w1 g N c1 M A1 xs R ov wr) (fun _ wr => N - (intOf ((wr.cell? ⟨g, 1, none⟩).getD undef)).toNat)
 case atStart => exact ⟨0, [], Nat.zero_le _, World.ownsRow_nil _ _ _ _, ⟨HRD.out, gb_refl _ _⟩, by rw [List.drop_zero, HR.out], Nat.zero_le _, fun c hc => by cases hc⟩
 case round =>
  obtain ⟨i, out, hi, hO, hE, hU, hol, hos⟩ := hrel
  have hm : N - (intOf ((wr.cell? ⟨g, 1, none⟩).getD undef)).toNat = N - i := by rw [hE.1.cells.2.1]; simp [intOf]
  rw [hm]
  obtain ⟨OA, oc, rfl, hoc1, hoc2, hOA⟩ := own_shape hO
  have HO := Lib.hid hO; have HE := Lib.hid hE; have HU := Lib.hid hU; have HOS := Lib.hid hos
  clear hO hE hU hos hm hOA hoc1 hoc2
  go_wp2_with fail
  refine (left_any g N c1 A1 i 0 wr HE.out.1 hi (by omega)).mono ?_
  rintro e w2 ⟨rfl, b2⟩
  have HE2 := Lib.hid (HE.out.ext b2)
  have HO2 := Lib.hid (own_ext HO.out b2)
  clear b2
  obtain ⟨L, hL⟩ : ∃ L : Nat, L = N - i := ⟨_, rfl⟩
  rw [← hL]
  have HL := Lib.hid hL; clear hL
  by_cases hiN : i = N
  ·obtain rfl : L = 0 := by rw [HL.out]; omega
   have HRR : Hid (R = .ok out) := Lib.hid (by rw [← HU.out, hiN, List.drop_of_length_le (by rw [HXL.out]; exact Nat.le_refl _), unp_nil])
   clear hiN
   go_wp2_with fail
   go_ret2
   exact ⟨eff_old' HE1.out HE2.out hg, by rw [HRR.out]; exact ⟨⟨_, rfl, Com.own_low HO2.out HE1.out.size⟩, HOS.out⟩⟩
  ·have hgt : 0 < L := by rw [HL.out]; omega
   have hil : i < N := by omega
   clear hiN
   have hxd : xs.drop i = xs.getD i 0 :: xs.drop (i + 1) := by
    rw [List.drop_eq_getElem_cons (by rw [HXL.out]; exact hil), List.getD_eq_getElem?_getD, List.getElem?_eq_getElem (by rw [HXL.out]; exact hil)]; rfl
   have hkb := small_mem HXS.out i
   have HXD := Lib.hid hxd; clear hxd
   by_cases hneg : most < 0
   ·have hnm : ¬ 0 ≤ most := by omega
    go_wp2_with fail
    refine (Wire.bytes g N c1 i 1 (by omega) (by omega) A1 xs w2 HE2.out.1 (HRB.out.eff HE2.out.2) hi (by omega)).mono ?_
    rintro e w3 (⟨h0, _, _⟩ | ⟨h1, h2, rfl, hE3⟩ | ⟨h1, h2, ⟨v1, rfl, A3, c3, rfl, q1, q2, q3, hB3⟩, hE3⟩)
    ·omega
    ·rw [List.length_drop, HXL.out] at h2; omega
    ·generalize hrm : (-(out.length : Int)) = room at *
     have hr1 : (room : Int) = (M : Int) - (out.length : Int) := by have := HM.out; omega
     have hr2 : -5000000000 ≤ room := by have := hol; omega
     have hr3 : room ≤ 5000000000 := by omega
     have hrmM : room < 0 ∨ 0 ≤ room := by omega
     have HR1 := Lib.hid hr1; clear hr1 hrm hrmM
     have e1 : (xs.drop i).take (Int.toNat 1) = [xs.getD i 0] := by rw [HXD.out]; rfl
     rw [e1] at hB3 ⊢
     obtain ⟨b3, o3, rfl, _, hcell⟩ := hB3.2.2 (by simp)
     have cc := hcell 0 (by simp)
     have HO3 := Lib.hid (own_eff HO2.out hE3 hgl)
     have HE3 : Hid (Eff w1 w3 g (.slice A1 N c1) (i + 1) 0) := Lib.hid (HE2.out.trans hE3)
     have hcl : (xs.drop (i + 1)).length = N - (i + 1) := by rw [List.length_drop, HXL.out]
     have HCL := Lib.hid hcl
     have hU2 := HU.out
     rw [HXD.out] at hU2
     have HU2 := Lib.hid hU2
     have HRB3 := Lib.hid (HRB.out.eff HE3.out.2)
     rw [List.getD_cons_zero, Nat.add_zero] at cc
     clear hE3 hB3 q1 q2 q3 hcell h1 h2 e1 hcl hU2
     generalize xs.getD i 0 = k at *
     obtain ⟨cs, hcs⟩ : ∃ cs, cs = xs.drop (i + 1) := ⟨_, rfl⟩
     rw [← hcs] at HU2 HCL HXD
     have HCS := Lib.hid hcs; clear hcs
     by_cases hk : 128 ≤ k
     ·have hk1 : (128 : Int) ≤ (k : Int) := by omega
      have HRR : Hid (R = .bad 4) := Lib.hid (by rw [← HU2.out, unp_high hk])
      go_wp2_with fail
      go_ret2
      exact ⟨eff_old' HE1.out HE3.out hg, by rw [HRR.out]; exact ⟨rfl, by decide⟩⟩
     ·have hk1 : ¬ (128 : Int) ≤ (k : Int) := by omega
      by_cases hev : k % 2 = 0
      ·have hk2 : (((k : Int) % 2) == 0) = true := beq_iff_eq.2 (by omega)
       go_wp2_with fail
       rw [show ((k : Int) / 2 + 1) = ((k / 2 + 1 : Nat) : Int) from by omega]
       refine (run w1 w3 g N c1 (i + 1) (k / 2 + 1) room A1 xs out _ HE3.out HRB3.out (by omega) hN hgl HO3.out (by omega) (by omega) hr2 hr3).mono ?_
       rintro e w4 (⟨h1, rfl, rfl⟩ | ⟨h1, h2, ⟨u, rfl⟩, hE4⟩ | ⟨h1, h2, ⟨u, rfl, hO4⟩, hE4⟩)
       ·have hlt : M < out.length + (k / 2 + 1) := by have := HR1.out; omega
        have HRR : Hid (R = .bad 6) := Lib.hid (by rw [← HU2.out]; exact unp_run6 (by omega) hev hlt)
        clear h1 hlt
        go_wp2_with fail
        go_ret2
        exact ⟨eff_old' HE1.out HE3.out hg, by rw [HRR.out]; exact ⟨rfl, by decide⟩⟩
       ·have hlt : ¬ M < out.length + (k / 2 + 1) := by have := HR1.out; omega
        rw [← HCS.out] at h2
        have HRR : Hid (R = .bad 3) := Lib.hid (by rw [← HU2.out]; exact unp_run3 (by omega) hev hlt h2)
        have HE4 := Lib.hid hE4
        clear h1 hlt h2 hE4
        go_wp2_with fail
        go_ret2
        exact ⟨eff_old' HE1.out HE4.out hg, by rw [HRR.out]; exact ⟨rfl, by decide⟩⟩
       ·have hlt : ¬ M < out.length + (k / 2 + 1) := by have := HR1.out; omega
        have hin : i + 1 + (k / 2 + 1) ≤ N := by rw [← HCS.out, HCL.out] at h2; omega
        rw [← HCS.out] at h2 hO4
        have hol2 : (out ++ cs.take (k / 2 + 1)).length ≤ M := by rw [List.length_append, List.length_take]; omega
        have HOS2 : Hid (∀ c ∈ out ++ cs.take (k / 2 + 1), c < 256) := Lib.hid (fun c hc => by
         rcases List.mem_append.1 hc with hc | hc
         ·exact HOS.out c hc
         ·exact HXS.out c (List.mem_of_mem_drop (i := i + 1) (by rw [← HCS.out]; exact List.mem_of_mem_take hc)))
        have HRR : Hid (unp M (out ++ cs.take (k / 2 + 1)) (xs.drop (i + 1 + (k / 2 + 1))) = R) := Lib.hid (by rw [← HU2.out, unp_run (by omega) hev hlt (by omega), HCS.out, List.drop_drop])
        have hmm : N - (intOf ((w4.cell? ⟨g, 1, none⟩).getD undef)).toNat = N - (i + 1 + (k / 2 + 1)) := by rw [hE4.1.cells.2.1]; simp [intOf]; omega
        have HE4 := Lib.hid hE4; have HO4 := Lib.hid hO4
        have HMM := Lib.hid hmm
        clear hE4 hO4 hmm h1 h2 hlt
        go_wp2_with fail
        go_roundw
        case rel => exact ⟨i + 1 + (k / 2 + 1), out ++ cs.take (k / 2 + 1), by omega, HO4.out, HE4.out, HRR.out, hol2, HOS2.out⟩
        case measure => rw [HMM.out]; omega
      ·have hk2 : (((k : Int) % 2) == 0) = false := beq_eq_false_iff_ne.2 (by omega)
       go_wp2_with fail
       rw [show (((k : Int) - 1) / 2 + 3) = ((k / 2 + 3 : Nat) : Int) from by omega]
       refine (match_ w1 w3 g N c1 (i + 1) (k / 2 + 3) room A1 xs out _ HE3.out HRB3.out (by omega) hN hgl HO3.out (by omega) HOS.out (by omega) hr2 hr3).mono ?_
       intro e w4 hm
       rw [← HCS.out] at hm
       cases hv : vr 0 0 cs with
       | short =>
        rw [hv] at hm
        obtain ⟨rfl, hE4⟩ := hm
        have HRR : Hid (R = .bad 3) := Lib.hid (by rw [← HU2.out]; exact unp_short (by omega) hev hv)
        have HE4 := Lib.hid hE4
        clear hv hE4
        go_wp2_with fail
        go_ret2
        exact ⟨eff_old' HE1.out HE4.out hg, by rw [HRR.out]; exact ⟨rfl, by decide⟩⟩
       | form =>
        rw [hv] at hm
        obtain ⟨rfl, hE4⟩ := hm
        have HRR : Hid (R = .bad 4) := Lib.hid (by rw [← HU2.out]; exact unp_form (by omega) hev hv)
        have HE4 := Lib.hid hE4
        clear hv hE4
        go_wp2_with fail
        go_ret2
        exact ⟨eff_old' HE1.out HE4.out hg, by rw [HRR.out]; exact ⟨rfl, by decide⟩⟩
       | ok v j =>
        rw [hv] at hm
        simp only [MatchPost] at hm
        have hvk := vr_ok (fun c hc => HXS.out c (List.mem_of_mem_drop (i := i + 1) (by rw [← HCS.out]; exact hc))) hv
        have hj1 := hvk.2.2.2
        rw [HCL.out] at hj1
        by_cases hfar : 4096 ≤ v ∨ out.length ≤ v
        ·rw [if_pos hfar] at hm
         obtain ⟨rfl, hE4⟩ := hm
         have HRR : Hid (R = .bad 4) := Lib.hid (by rw [← HU2.out]; exact unp_far (by omega) hev hv hfar)
         have HE4 := Lib.hid hE4
         clear hv hvk hE4 hfar
         go_wp2_with fail
         go_ret2
         exact ⟨eff_old' HE1.out HE4.out hg, by rw [HRR.out]; exact ⟨rfl, by decide⟩⟩
        ·rw [if_neg hfar] at hm
         by_cases hroom : room < ((k / 2 + 3 : Nat) : Int)
         ·rw [if_pos hroom] at hm
          obtain ⟨rfl, hE4⟩ := hm
          have hlt : M < out.length + (k / 2 + 3) := by have := HR1.out; omega
          have HRR : Hid (R = .bad 6) := Lib.hid (by rw [← HU2.out]; exact unp_match6 (by omega) hev hv hfar hlt)
          have HE4 := Lib.hid hE4
          clear hv hvk hE4 hfar hlt hroom
          go_wp2_with fail
          go_ret2
          exact ⟨eff_old' HE1.out HE4.out hg, by rw [HRR.out]; exact ⟨rfl, by decide⟩⟩
         ·rw [if_neg hroom] at hm
          obtain ⟨⟨u, rfl, hO4⟩, hE4⟩ := hm
          have hlt : ¬ M < out.length + (k / 2 + 3) := by have := HR1.out; omega
          have hin : i + 1 + j ≤ N := by omega
          have hol2 : (rep out (v + 1) (k / 2 + 3)).length ≤ M := by rw [rep_len]; omega
          have HOS2 := Lib.hid (rep_small HOS.out (v + 1) (k / 2 + 3))
          have HRR : Hid (unp M (rep out (v + 1) (k / 2 + 3)) (xs.drop (i + 1 + j)) = R) := Lib.hid (by rw [← HU2.out, unp_match (by omega) hev hv hfar hlt, HCS.out, List.drop_drop])
          have hmm : N - (intOf ((w4.cell? ⟨g, 1, none⟩).getD undef)).toNat = N - (i + 1 + j) := by rw [hE4.1.cells.2.1]; simp [intOf]; omega
          have HE4 := Lib.hid hE4; have HO4 := Lib.hid hO4
          have HMM := Lib.hid hmm
          clear hE4 hO4 hmm hv hvk hfar hlt hroom
          go_wp2_with fail
          go_roundw
          case rel => exact ⟨i + 1 + j, rep out (v + 1) (k / 2 + 3), by omega, HO4.out, HE4.out, HRR.out, hol2, HOS2.out⟩
          case measure => rw [HMM.out]; omega
   ·have hnm : 0 ≤ most := by omega
    go_wp2_with fail
    refine (Wire.bytes g N c1 i 1 (by omega) (by omega) A1 xs w2 HE2.out.1 (HRB.out.eff HE2.out.2) hi (by omega)).mono ?_
    rintro e w3 (⟨h0, _, _⟩ | ⟨h1, h2, rfl, hE3⟩ | ⟨h1, h2, ⟨v1, rfl, A3, c3, rfl, q1, q2, q3, hB3⟩, hE3⟩)
    ·omega
    ·rw [List.length_drop, HXL.out] at h2; omega
    ·generalize hrm : (most - (out.length : Int)) = room at *
     have hr1 : (room : Int) = (M : Int) - (out.length : Int) := by have := HM.out; omega
     have hr2 : -5000000000 ≤ room := by have := hol; omega
     have hr3 : room ≤ 5000000000 := by omega
     have hrmM : room < 0 ∨ 0 ≤ room := by omega
     have HR1 := Lib.hid hr1; clear hr1 hrm hrmM
     have e1 : (xs.drop i).take (Int.toNat 1) = [xs.getD i 0] := by rw [HXD.out]; rfl
     rw [e1] at hB3 ⊢
     obtain ⟨b3, o3, rfl, _, hcell⟩ := hB3.2.2 (by simp)
     have cc := hcell 0 (by simp)
     have HO3 := Lib.hid (own_eff HO2.out hE3 hgl)
     have HE3 : Hid (Eff w1 w3 g (.slice A1 N c1) (i + 1) 0) := Lib.hid (HE2.out.trans hE3)
     have hcl : (xs.drop (i + 1)).length = N - (i + 1) := by rw [List.length_drop, HXL.out]
     have HCL := Lib.hid hcl
     have hU2 := HU.out
     rw [HXD.out] at hU2
     have HU2 := Lib.hid hU2
     have HRB3 := Lib.hid (HRB.out.eff HE3.out.2)
     rw [List.getD_cons_zero, Nat.add_zero] at cc
     clear hE3 hB3 q1 q2 q3 hcell h1 h2 e1 hcl hU2
     generalize xs.getD i 0 = k at *
     obtain ⟨cs, hcs⟩ : ∃ cs, cs = xs.drop (i + 1) := ⟨_, rfl⟩
     rw [← hcs] at HU2 HCL HXD
     have HCS := Lib.hid hcs; clear hcs
     by_cases hk : 128 ≤ k
     ·have hk1 : (128 : Int) ≤ (k : Int) := by omega
      have HRR : Hid (R = .bad 4) := Lib.hid (by rw [← HU2.out, unp_high hk])
      go_wp2_with fail
      go_ret2
      exact ⟨eff_old' HE1.out HE3.out hg, by rw [HRR.out]; exact ⟨rfl, by decide⟩⟩
     ·have hk1 : ¬ (128 : Int) ≤ (k : Int) := by omega
      by_cases hev : k % 2 = 0
      ·have hk2 : (((k : Int) % 2) == 0) = true := beq_iff_eq.2 (by omega)
       go_wp2_with fail
       rw [show ((k : Int) / 2 + 1) = ((k / 2 + 1 : Nat) : Int) from by omega]
       refine (run w1 w3 g N c1 (i + 1) (k / 2 + 1) room A1 xs out _ HE3.out HRB3.out (by omega) hN hgl HO3.out (by omega) (by omega) hr2 hr3).mono ?_
       rintro e w4 (⟨h1, rfl, rfl⟩ | ⟨h1, h2, ⟨u, rfl⟩, hE4⟩ | ⟨h1, h2, ⟨u, rfl, hO4⟩, hE4⟩)
       ·have hlt : M < out.length + (k / 2 + 1) := by have := HR1.out; omega
        have HRR : Hid (R = .bad 6) := Lib.hid (by rw [← HU2.out]; exact unp_run6 (by omega) hev hlt)
        clear h1 hlt
        go_wp2_with fail
        go_ret2
        exact ⟨eff_old' HE1.out HE3.out hg, by rw [HRR.out]; exact ⟨rfl, by decide⟩⟩
       ·have hlt : ¬ M < out.length + (k / 2 + 1) := by have := HR1.out; omega
        rw [← HCS.out] at h2
        have HRR : Hid (R = .bad 3) := Lib.hid (by rw [← HU2.out]; exact unp_run3 (by omega) hev hlt h2)
        have HE4 := Lib.hid hE4
        clear h1 hlt h2 hE4
        go_wp2_with fail
        go_ret2
        exact ⟨eff_old' HE1.out HE4.out hg, by rw [HRR.out]; exact ⟨rfl, by decide⟩⟩
       ·have hlt : ¬ M < out.length + (k / 2 + 1) := by have := HR1.out; omega
        have hin : i + 1 + (k / 2 + 1) ≤ N := by rw [← HCS.out, HCL.out] at h2; omega
        rw [← HCS.out] at h2 hO4
        have hol2 : (out ++ cs.take (k / 2 + 1)).length ≤ M := by rw [List.length_append, List.length_take]; omega
        have HOS2 : Hid (∀ c ∈ out ++ cs.take (k / 2 + 1), c < 256) := Lib.hid (fun c hc => by
         rcases List.mem_append.1 hc with hc | hc
         ·exact HOS.out c hc
         ·exact HXS.out c (List.mem_of_mem_drop (i := i + 1) (by rw [← HCS.out]; exact List.mem_of_mem_take hc)))
        have HRR : Hid (unp M (out ++ cs.take (k / 2 + 1)) (xs.drop (i + 1 + (k / 2 + 1))) = R) := Lib.hid (by rw [← HU2.out, unp_run (by omega) hev hlt (by omega), HCS.out, List.drop_drop])
        have hmm : N - (intOf ((w4.cell? ⟨g, 1, none⟩).getD undef)).toNat = N - (i + 1 + (k / 2 + 1)) := by rw [hE4.1.cells.2.1]; simp [intOf]; omega
        have HE4 := Lib.hid hE4; have HO4 := Lib.hid hO4
        have HMM := Lib.hid hmm
        clear hE4 hO4 hmm h1 h2 hlt
        go_wp2_with fail
        go_roundw
        case rel => exact ⟨i + 1 + (k / 2 + 1), out ++ cs.take (k / 2 + 1), by omega, HO4.out, HE4.out, HRR.out, hol2, HOS2.out⟩
        case measure => rw [HMM.out]; omega
      ·have hk2 : (((k : Int) % 2) == 0) = false := beq_eq_false_iff_ne.2 (by omega)
       go_wp2_with fail
       rw [show (((k : Int) - 1) / 2 + 3) = ((k / 2 + 3 : Nat) : Int) from by omega]
       refine (match_ w1 w3 g N c1 (i + 1) (k / 2 + 3) room A1 xs out _ HE3.out HRB3.out (by omega) hN hgl HO3.out (by omega) HOS.out (by omega) hr2 hr3).mono ?_
       intro e w4 hm
       rw [← HCS.out] at hm
       cases hv : vr 0 0 cs with
       | short =>
        rw [hv] at hm
        obtain ⟨rfl, hE4⟩ := hm
        have HRR : Hid (R = .bad 3) := Lib.hid (by rw [← HU2.out]; exact unp_short (by omega) hev hv)
        have HE4 := Lib.hid hE4
        clear hv hE4
        go_wp2_with fail
        go_ret2
        exact ⟨eff_old' HE1.out HE4.out hg, by rw [HRR.out]; exact ⟨rfl, by decide⟩⟩
       | form =>
        rw [hv] at hm
        obtain ⟨rfl, hE4⟩ := hm
        have HRR : Hid (R = .bad 4) := Lib.hid (by rw [← HU2.out]; exact unp_form (by omega) hev hv)
        have HE4 := Lib.hid hE4
        clear hv hE4
        go_wp2_with fail
        go_ret2
        exact ⟨eff_old' HE1.out HE4.out hg, by rw [HRR.out]; exact ⟨rfl, by decide⟩⟩
       | ok v j =>
        rw [hv] at hm
        simp only [MatchPost] at hm
        have hvk := vr_ok (fun c hc => HXS.out c (List.mem_of_mem_drop (i := i + 1) (by rw [← HCS.out]; exact hc))) hv
        have hj1 := hvk.2.2.2
        rw [HCL.out] at hj1
        by_cases hfar : 4096 ≤ v ∨ out.length ≤ v
        ·rw [if_pos hfar] at hm
         obtain ⟨rfl, hE4⟩ := hm
         have HRR : Hid (R = .bad 4) := Lib.hid (by rw [← HU2.out]; exact unp_far (by omega) hev hv hfar)
         have HE4 := Lib.hid hE4
         clear hv hvk hE4 hfar
         go_wp2_with fail
         go_ret2
         exact ⟨eff_old' HE1.out HE4.out hg, by rw [HRR.out]; exact ⟨rfl, by decide⟩⟩
        ·rw [if_neg hfar] at hm
         by_cases hroom : room < ((k / 2 + 3 : Nat) : Int)
         ·rw [if_pos hroom] at hm
          obtain ⟨rfl, hE4⟩ := hm
          have hlt : M < out.length + (k / 2 + 3) := by have := HR1.out; omega
          have HRR : Hid (R = .bad 6) := Lib.hid (by rw [← HU2.out]; exact unp_match6 (by omega) hev hv hfar hlt)
          have HE4 := Lib.hid hE4
          clear hv hvk hE4 hfar hlt hroom
          go_wp2_with fail
          go_ret2
          exact ⟨eff_old' HE1.out HE4.out hg, by rw [HRR.out]; exact ⟨rfl, by decide⟩⟩
         ·rw [if_neg hroom] at hm
          obtain ⟨⟨u, rfl, hO4⟩, hE4⟩ := hm
          have hlt : ¬ M < out.length + (k / 2 + 3) := by have := HR1.out; omega
          have hin : i + 1 + j ≤ N := by omega
          have hol2 : (rep out (v + 1) (k / 2 + 3)).length ≤ M := by rw [rep_len]; omega
          have HOS2 := Lib.hid (rep_small HOS.out (v + 1) (k / 2 + 3))
          have HRR : Hid (unp M (rep out (v + 1) (k / 2 + 3)) (xs.drop (i + 1 + j)) = R) := Lib.hid (by rw [← HU2.out, unp_match (by omega) hev hv hfar hlt, HCS.out, List.drop_drop])
          have hmm : N - (intOf ((w4.cell? ⟨g, 1, none⟩).getD undef)).toNat = N - (i + 1 + j) := by rw [hE4.1.cells.2.1]; simp [intOf]; omega
          have HE4 := Lib.hid hE4; have HO4 := Lib.hid hO4
          have HMM := Lib.hid hmm
          clear hE4 hO4 hmm hv hvk hfar hlt hroom
          go_wp2_with fail
          go_roundw
          case rel => exact ⟨i + 1 + j, rep out (v + 1) (k / 2 + 3), by omega, HO4.out, HE4.out, HRR.out, hol2, HOS2.out⟩
          case measure => rw [HMM.out]; omega
end Go.Proofs.YtidnboeihkeljaaGreatDoor.Lz
namespace Go.Proofs.YtidnboeihkeljaaGreatDoor.Lz
open Go.ChangeShapes Go.WideShapes Go.ChangeAt Go.RowKit
open Wire Go.Proofs.YtidnboeihkeljaaGreatDoor.Map32

theorem unp_lits (M : Nat) : ∀ (n : Nat) (l out rest : List Nat), l.length = n → out.length + l.length ≤ M → unp M out (litT l ++ rest) = unp M (out ++ l) rest := by
 intro n
 induction n using Nat.strongRecOn with
 | ind n ih =>
  intro l out rest hl hM
  by_cases h : 0 < l.length
  ·obtain ⟨m, hm⟩ : ∃ m, m = min 64 l.length := ⟨_, rfl⟩
   rw [litT_step h, ← hm]
   have e : 2 * (m - 1) / 2 + 1 = m := by omega
   rw [List.cons_append, unp_run (by omega) (by omega) (by rw [e]; omega) (by rw [e, List.length_append, List.length_append, List.length_take]; omega), e]
   have hlt : (l.take m).length = m := by rw [List.length_take]; omega
   rw [List.append_assoc, List.take_append_of_le_length (by omega), List.take_of_length_le (by omega), List.drop_append_of_le_length (by omega), List.drop_of_length_le (by omega), List.nil_append]
   rw [ih (l.drop m).length (by rw [List.length_drop]; omega) _ _ _ rfl (by rw [List.length_append, hlt, List.length_drop]; omega), List.append_assoc, List.take_append_drop]
  ·obtain rfl : l = [] := List.eq_nil_of_length_eq_zero (by omega)
   rw [litT_nil, List.nil_append, List.append_nil]
theorem rep_good {xs : List Nat} {a b : Nat} (hb : 1 ≤ b) (hba : b ≤ a) : ∀ n, a + n ≤ xs.length → (∀ j, j < n → xs.getD (a - b + j) 0 = xs.getD (a + j) 0) → rep (xs.take a) b n = xs.take (a + n)
 | 0, h, _ => rfl
 | n + 1, h, he => by
  rw [rep, rep_good hb hba n (by omega) (fun j hj => he j (by omega))]
  have hl : (xs.take (a + n)).length = a + n := by rw [List.length_take]; omega
  rw [hl, show a + (n + 1) = a + n + 1 from by omega, List.take_succ_eq_append_getElem (by omega)]
  congr 1
  have h1 : (xs.take (a + n)).getD (a + n - b) 0 = xs.getD (a - b + n) 0 := by
   rw [List.getD_eq_getElem?_getD, List.getElem?_take, if_pos (by omega), List.getD_eq_getElem?_getD, show a + n - b = a - b + n from by omega]
  rw [h1, he n (by omega), List.getD_eq_getElem?_getD, List.getElem?_eq_getElem (by omega)]
  rfl
theorem unp_pk {xs : List Nat} (hx : ∀ j, xs.getD j 0 < 256) : ∀ (n told a : Nat), xs.length - a = n → told ≤ a → a ≤ xs.length → unp xs.length (xs.take told) (pk xs told a) = .ok xs := by
 intro n
 induction n using Nat.strongRecOn with
 | ind n ih =>
  intro told a hn ht ha
  have htl : (xs.take told).length = told := by rw [List.length_take]; omega
  by_cases h : a < xs.length
  ·by_cases h2 : (bst xs a).2 = 0
   ·rw [pk_lit h h2]; exact ih (xs.length - (a + 1)) (by omega) told (a + 1) rfl (by omega) (by omega)
   ·rw [pk_match h h2]
    rcases bst_good hx a with hg | ⟨g1, g2, g3, g4, g5, g6, g7⟩
    ·rw [hg] at h2; exact absurd rfl h2
    ·generalize bst xs a = s at *
     have hdl : ((xs.drop told).take (a - told)).length = a - told := by rw [List.length_take, List.length_drop]; omega
     rw [unp_lits _ _ _ _ _ rfl (by rw [htl, hdl]; omega)]
     have e1 : xs.take told ++ (xs.drop told).take (a - told) = xs.take a := by
      rw [← List.take_add, show told + (a - told) = a from by omega]
     rw [e1]
     have hal : (xs.take a).length = a := by rw [List.length_take]; omega
     have hv := vr_put (m := s.1 - 1) (by omega) (pk xs (a + s.2) (a + s.2))
     have e2 : (2 * (s.2 - 3) + 1) / 2 + 3 = s.2 := by omega
     rw [unp_match (by omega) (by omega) hv (by rw [hal]; omega) (by rw [hal, e2]; omega), e2, show s.1 - 1 + 1 = s.1 from by omega, rep_good g4 g6 s.2 g3 g7]
     rw [List.drop_left]
     exact ih (xs.length - (a + s.2)) (by omega) (a + s.2) (a + s.2) rfl (Nat.le_refl _) g3
  ·rw [pk_end (by omega)]
   have := unp_lits xs.length _ (xs.drop told) (xs.take told) [] rfl (by rw [htl, List.length_drop]; omega)
   rw [List.append_nil] at this
   rw [this, unp_nil, List.take_append_drop]
end Go.Proofs.YtidnboeihkeljaaGreatDoor.Lz
namespace Go.Proofs.YtidnboeihkeljaaGreatDoor.Lz
open Go.ChangeShapes Go.WideShapes Go.ChangeAt Go.RowKit
open Wire Go.Proofs.YtidnboeihkeljaaGreatDoor.Map32

theorem bst_far (xs : List Nat) (a : Nat) (h : (bst xs a).2 = 3) : (bst xs a).1 ≤ 128 := by
 unfold bst at h ⊢
 by_cases ha : a + 3 ≤ xs.length
 ·rw [if_pos ha] at h ⊢
  unfold mask at h ⊢
  split
  ·exact Nat.zero_le _
  ·rename_i hc
   rw [if_neg hc] at h
   by_cases h1 : 128 < (scan xs a (seen xs a (key xs a)).reverse).1
   ·exact absurd ⟨h, h1⟩ hc
   ·omega
 ·rw [if_neg ha]; exact Nat.zero_le _
theorem vb_one {m : Nat} (h : m < 128) : (vb m).length = 1 := by rw [vb, dif_pos h]; rfl
theorem vb_two {m : Nat} (h : m < 16384) : (vb m).length ≤ 2 := by
 by_cases h1 : m < 128
 ·rw [vb_one h1]; omega
 ·rw [vb, dif_neg h1, List.length_cons, vb_one (by omega)]; omega
theorem pk_len {xs : List Nat} (hx : ∀ j, xs.getD j 0 < 256) : ∀ (n told a : Nat), xs.length - a = n → told ≤ a → a ≤ xs.length → (pk xs told a).length ≤ (xs.length - told) + (xs.length - told + 63) / 64 := by
 intro n
 induction n using Nat.strongRecOn with
 | ind n ih =>
  intro told a hn ht ha
  by_cases h : a < xs.length
  ·by_cases h2 : (bst xs a).2 = 0
   ·rw [pk_lit h h2]; exact ih (xs.length - (a + 1)) (by omega) told (a + 1) rfl (by omega) (by omega)
   ·rw [pk_match h h2]
    have hfar := bst_far xs a
    rcases bst_good hx a with hg | ⟨g1, g2, g3, g4, g5, g6, g7⟩
    ·rw [hg] at h2; exact absurd rfl h2
    ·generalize bst xs a = s at *
     have hdl : ((xs.drop told).take (a - told)).length = a - told := by rw [List.length_take, List.length_drop]; omega
     have h3 := ih (xs.length - (a + s.2)) (by omega) (a + s.2) (a + s.2) rfl (Nat.le_refl _) g3
     have hc : 1 + (vb (s.1 - 1)).length ≤ s.2 - 1 := by
      by_cases h33 : s.2 = 3
      ·rw [vb_one (by have := hfar h33; omega)]; omega
      ·have := vb_two (m := s.1 - 1) (by omega); omega
     rw [List.length_append, List.length_cons, List.length_append, litT_len _ _ rfl, hdl]
     omega
  ·rw [pk_end (by omega), litT_len _ _ rfl, List.length_drop]; exact Nat.le_refl _
end Go.Proofs.YtidnboeihkeljaaGreatDoor.Lz
