/- Path: search.way. -/
import Derived.Test.YtmceaocknlnmpaaPthP
import Derived.Test.YtmceaocknlnmpaaPthQ
namespace Go.Proofs.Ytmceaocknlnmpaa.Pth
open Go.ChangeShapes Go.WideShapes Go.ChangeAt Go.RowKit
open Go.Proofs.Ytmceaocknlnmpaa.Rec Go.Proofs.Ytmceaocknlnmpaa.Grid
set_option linter.unusedVariables false
theorem Rw.ext {base : Nat} {w w' : World} {v : Value} {xs : List Nat} (h : Rw base w v xs) (e : Ext w w') : Rw base w' v xs := OwnR.ext h e
theorem rw_ext {w w1 w9 : World} {v : Value} {xs : List Nat} (h : Rw w.heap.size w1 v xs) (e : Ext w w1) (g : w1.grownBy w9 v.ownBlock) : Ext w w9 :=
  ext_grown e g fun k hk => (World.ownsRow.lt h _ hk).1
set_option maxHeartbeats 4000000 in
set_option maxRecDepth 100000 in
theorem way_st (base B M W H f t0 : Nat) (T : ByteArray) (bu v : Value) (tv near : Int) (C : Co) (all : List Ti) (q : List Nd) (w : World) (hSe : Se base B M W H T bu tv near C q v w)
    (hC : Cm f all C) (hCh : Ch f all) (hs : (ti all t0).seen = true) (hg : (ti all t0).g ≤ 10000) :
    Calls Try.prog 19 #[.pointer (some ⟨B, 0, none⟩), .int .i64 (f : Int), .int .i64 (t0 : Int)] w fun e w' => ∃ v', e = .returned v' ∧ Rw w.heap.size w' v' (Pth.back all f ((ti all t0).g + 1) t0 []) ∧ Ext w w' := by
  have HS0 := Lib.hid hSe
  have HC := Lib.hid hC; have HCH := Lib.hid hCh; have HT0 := Lib.hid hs
  clear hSe hC hCh hs
  obtain ⟨G0, hG0⟩ : ∃ G, G = (ti all t0).g := ⟨_, rfl⟩
  rw [← hG0] at hg
  have HG0 := Lib.hid hG0
  clear hG0
  go_enter Try.func19, Try.ntmps19
  go_wp2_with fail
  go_loopw [2, 7] (fun tv2 ov wr => ∃ (t : Nat) (out : List Nat), tv2 = .int .i64 (t : Int) ∧ (ti all t).seen = true ∧ out.length + (ti all t).g ≤ G0 ∧ Pth.back all f ((ti all t).g + 1) t out.reverse = Pth.back all f (G0 + 1) t0 [] ∧ Rw w.heap.size wr ov out ∧ Ext w wr) (fun tv2 _ _ => (ti all (intOf tv2).toNat).g)
  case atStart => exact ⟨t0, [], rfl, HT0.out, by rw [HG0.out]; simp, by rw [HG0.out]; rfl, OwnR.nil _ _ _ _ _, Ext.rfl' w⟩
  case round =>
    obtain ⟨t, out, rfl, hst, hle, hbk, hO, hE⟩ := hrel
    obtain ⟨wi, rfl⟩ : ∃ wi : World, wi = wr := ⟨_, rfl⟩
    have HST := Lib.hid hst; have HBK := Lib.hid hbk; have HO := Lib.hid hO; have HE := Lib.hid hE; have HLE := Lib.hid hle
    have hlen : out.length ≤ 10000 := by omega
    clear hst hbk hO hE hle
    by_cases htf : t = f
    · have y1 : (t : Int) = (f : Int) := by omega
      have HB : Hid (out.reverse = Pth.back all f (G0 + 1) t0 []) := Lib.hid (by rw [← HBK.out, htf, back_own])
      have HREV := Lib.hid (rev_st w.heap.size _ out wi HO.out (by omega))
      subst htf
      go_wp2_with fail
      refine HREV.out.mono ?_
      rintro e w2 ⟨rfl, hO2, hg2⟩
      have HO2 := Lib.hid hO2; have HE2 := Lib.hid (rw_ext HO.out HE.out hg2)
      clear hO2 hg2
      go_wp2_with fail
      go_ret
      rw [← HG0.out]
      exact ⟨_, rfl, by rw [← HB.out]; exact HO2.out, HE2.out⟩
    · have y1 : ¬ (t : Int) = (f : Int) := by omega
      obtain ⟨fr, hC1, hfr⟩ := HC.out.some HST.out
      obtain ⟨hs', hlt⟩ := HCH.out.step t HST.out htf
      replace hfr := hfr htf
      have HNB : Hid (Pth.back all f ((ti all fr).g + 1) fr (out ++ [t]).reverse = Pth.back all f (G0 + 1) t0 []) := Lib.hid (by
        rw [← HBK.out, HCH.out.back HST.out htf, hfr, List.reverse_append]; rfl)
      rw [← hfr] at hs' hlt
      obtain ⟨gg, hgg⟩ : ∃ gg, gg = (ti all t).g := ⟨_, rfl⟩
      rw [← hgg] at hC1
      have HGG := Lib.hid hgg
      have HLT := Lib.hid hlt; have HSE := Lib.hid hs'
      have HSRC := Lib.hid (src_rec (P := Try.prog) (e' := 3) Try.underlying22 wi (cI t) rfl (by intro u hu; simp [cI] at hu; subst hu; rfl) 1)
      rw [show (cI t).toArray = #[.int .i64 (t : Int)] from rfl] at HSRC
      have HO8 := Lib.hid (HO.out.ext (ext_alloc (Ext.rfl' wi) (.cells #[.int .i64 (t : Int)] 3)))
      have HE8 := Lib.hid (ext_alloc HE.out (.cells #[.int .i64 (t : Int)] 3))
      have HDL : Hid (out.length ≤ 100000000) := Lib.hid (by omega)
      have HC1 := Lib.hid hC1
      clear hfr hgg hlt hs' hC1
      go_upto_region 4 with (at_builtin; refine wpList_rec rfl (.tmp 11) (.tmp 13) 22 3 1 8 _ cI rfl Try.underlying22 infoI rfl (by decide) u7 _ out t rfl rfl HO8.out HE8.out.size HSRC.out HDL.out ?_; intro v9 w9 hown9 hgr9; have HO9 := Lib.hid hown9; have HG9 := Lib.hid hgr9; clear hown9 hgr9)
      have HE9 := Lib.hid (rw_ext HO8.out HE8.out HG9.out)
      have HM9 := Lib.hid ((HS0.out.ext HE9.out).map)
      have b7 : w9.cell? ⟨B, 7, none⟩ = some (.map (some M)) := (HS0.out.ext HE9.out).blk.cell 7
      have hfd := come_from fr gg w9
      go_wp2_with (refine Map64.wpList_look rfl (.tmp 18) (.tmp 19) rfl Try.underlying44 Try.underlying3 (zCome _) rfl HM9.out t rfl (.agg #[.int .i64 (fr : Int), .int .i64 (gg : Int)]) (by rw [cF_at, HC1.out]; rfl) ?_)
      go_roundw
      case measure => simp only [intOf, Int.toNat_natCast]; exact HLT.out
      case rel => exact ⟨fr, out ++ [t], rfl, HSE.out, by have := HLE.out; have := HLT.out; rw [List.length_append, List.length_singleton]; omega, HNB.out, HO9.out, HE9.out⟩
end Go.Proofs.Ytmceaocknlnmpaa.Pth
