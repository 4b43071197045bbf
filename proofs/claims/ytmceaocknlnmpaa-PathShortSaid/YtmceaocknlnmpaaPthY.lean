/- Path: the document's Find. -/
import Derived.Test.YtmceaocknlnmpaaPthX
import Derived.Deep.Cut
namespace Go.Proofs.Ytmceaocknlnmpaa.Pth
open Go.ChangeShapes Go.WideShapes Go.ChangeAt Go.RowKit
open Go.Proofs.Ytmceaocknlnmpaa.Rec Go.Proofs.Ytmceaocknlnmpaa.Grid
set_option linter.unusedVariables false
/-- What the document's search keeps, in plain words. -/
structure Pl (f i : Nat) (all : List Ti) : Prop where
  ch : Ch f all
  gl : ∀ t, (ti all t).g ≤ i
  ow : ∀ t, (ti all t).opn = true → (ti all t).seen = true
section
variable {f i t x P : Nat} {all : List Ti} {free : Nat → Bool}
theorem Pl.more {m : Nat} (h : Pl f i all) (hm : i ≤ m) : Pl f m all := ⟨h.ch, fun t => Nat.le_trans (h.gl t) hm, h.ow⟩
theorem Pl.start (hf : f < P) : Pl f 0 (first P f) := by
  refine ⟨Ch.start hf, fun t => ?_, fun t ht => ?_⟩
  · rw [first_ti hf]; split <;> exact Nat.le_refl _
  · rw [first_ti hf] at ht ⊢
    split
    · rfl
    · rename_i e; rw [if_neg e] at ht; cases ht
theorem Pl.shut (h : Pl f i all) (ht : t < all.length) : Pl f i (Pth.shut all t) := by
  have hs := shut_seen ht
  refine ⟨h.ch.shut ht, fun u => by rw [(hs u).2.1]; exact h.gl u, fun u hu => ?_⟩
  rw [shut_ti ht] at hu ⊢
  by_cases e : u = t
  · rw [if_pos e] at hu; cases hu
  · rw [if_neg e] at hu ⊢; exact h.ow u hu
theorem Pl.relax (h : Pl f (i + 1) all) (ht : (ti all t).seen = true) (hg : (ti all t).g ≤ i) (hx : x < all.length) : Pl f (i + 1) (Pth.relax free t all x) := by
  refine ⟨h.ch.relax ht hx, fun u => ?_, fun u hu => ?_⟩
  · rcases relax_cases free t x all with e | ⟨_, _, e⟩
    · rw [e]; exact h.gl u
    · rw [e, ti_set hx]; split
      · show (ti all t).g + 1 ≤ i + 1; omega
      · exact h.gl u
  · rcases relax_cases free t x all with e | ⟨_, _, e⟩
    · rw [e] at hu ⊢; exact h.ow u hu
    · rw [e, ti_set hx] at hu ⊢
      split
      · rfl
      · rename_i e'; rw [if_neg e'] at hu; exact h.ow u hu
end
/-- What the rounds of the document's Find keep. -/
structure RR (W H f tt nr P GB G : Nat) (T : ByteArray) (free : Nat → Bool) (w : World) (i : Nat) (all : List Ti) (wr : World) : Prop where
  pl : Pl f i all
  way : afind (hh W tt nr) (nxt W H) free f (600 - i) all = pway W H free f tt nr
  row : TR (w.heap.size + 1) wr G P all
  ext : Ext w wr
  map : Blk wr GB 36 #[.int .i64 (W : Int), .int .i64 (H : Int), .string T]
/-- What the rounds over the tiles next to one keep. -/
structure RN (W H f P GB G t g gl c j : Nat) (T : ByteArray) (free : Nat → Bool) (w : World) (i : Nat) (all0 all : List Ti) (wr : World) : Prop where
  pl : Pl f (i + 1) all
  own : (ti all t).seen = true ∧ (ti all t).g = g
  allq : all = ((nxt W H t).take j).foldl (relax free t) (shut all0 t)
  row : TR (w.heap.size + 1) wr G P all
  ext : Ext w wr
  map : Blk wr GB 36 #[.int .i64 (W : Int), .int .i64 (H : Int), .string T]
  nb : Rw (w.heap.size + 1) wr (.slice (some ⟨gl, 0, none⟩) (nxt W H t).length c) (nxt W H t)
section
variable {W H f P GB G t g gl c j x : Nat} {T : ByteArray} {free : Nat → Bool} {w : World} {i : Nat} {all0 all : List Ti} {wr wx w' : World}
theorem RN.ext' (h : RN W H f P GB G t g gl c j T free w i all0 all wr) (e : Ext wr wx) : RN W H f P GB G t g gl c j T free w i all0 all wx :=
  ⟨h.pl, h.own, h.allq, h.row.ext e, ext_trans h.ext e, h.map.ext e, Rw.ext h.nb e⟩
theorem RN.skip (h : RN W H f P GB G t g gl c j T free w i all0 all wr) (hxn : (nxt W H t)[j]? = some x) (hr : relax free t all x = all) : RN W H f P GB G t g gl c (j + 1) T free w i all0 all wr := by
  refine ⟨h.pl, h.own, ?_, h.row, h.ext, h.map, h.nb⟩
  rw [List.take_add_one, hxn, List.foldl_append, ← h.allq]; exact hr.symm
theorem RN.put (h : RN W H f P GB G t g gl c j T free w i all0 all wr) (hxn : (nxt W H t)[j]? = some x) (hr : relax free t all x = all.set x (true, true, g + 1, t)) (hgi : g ≤ i) (hx : x < P) (hGB : GB ≠ G) (hgG : gl ≠ G)
    (hT : TR (w.heap.size + 1) w' G P (all.set x (true, true, g + 1, t))) (hg : wr.grownBy w' (some G)) : RN W H f P GB G t g gl c (j + 1) T free w i all0 (all.set x (true, true, g + 1, t)) w' := by
  have hxl : x < all.length := by rw [h.row.2]; exact hx
  have hpl := h.pl.relax (free := free) h.own.1 (by rw [h.own.2]; exact hgi) hxl
  have hown := relax_own (free := free) h.own.1 hxl
  rw [hr] at hpl hown
  refine ⟨hpl, by rw [hown]; exact h.own, ?_, hT, ext_grown h.ext hg (fun k hk => by cases hk; have := h.row.blk.1; omega), ?_, ?_⟩
  · rw [List.take_add_one, hxn, List.foldl_append, ← h.allq]; exact hr.symm
  · exact (hg.block GB h.map.lt (fun e => hGB (Option.some.inj e))).trans h.map
  · exact own_keep h.nb (fun k hk => by cases hk; exact hg.block gl (World.ownsRow.lt h.nb gl rfl).2 (fun e => hgG (Option.some.inj e)))
end
/-- What a round's test reads. -/
def SP (GB gl D G j t W H x gx g : Nat) (T : ByteArray) (sx : Bool) (wD w' : World) : Prop :=
  w'.cell? ⟨GB, 0, none⟩ = some (.int .i64 (W : Int)) ∧ w'.cell? ⟨GB, 1, none⟩ = some (.int .i64 (H : Int)) ∧ w'.cell? ⟨GB, 2, none⟩ = some (.string T) ∧ w'.cell? ⟨gl, j, none⟩ = some (.int .i64 (x : Int)) ∧ w'.cell? ⟨D, 0, none⟩ = some (.bool sx) ∧ w'.cell? ⟨D, 2, none⟩ = some (.int .i64 (gx : Int)) ∧ w'.cell? ⟨G, t * 4 + 2, none⟩ = some (.int .i64 (g : Int)) ∧ Ext wD w'
theorem SP.next {GB gl D G j t W H x gx g : Nat} {T : ByteArray} {sx : Bool} {wD w1 w2 : World} (h : SP GB gl D G j t W H x gx g T sx wD w1) (e : Ext w1 w2) : SP GB gl D G j t W H x gx g T sx wD w2 := by
  obtain ⟨a, b, c, d, e1, e2, e3, e4⟩ := h
  exact ⟨kc e a, kc e b, kc e c, kc e d, kc e e1, kc e e2, kc e e3, ext_trans e4 e⟩
theorem SP.le {GB gl D G j t W H x gx g : Nat} {T : ByteArray} {sx : Bool} {wD w1 : World} (h : SP GB gl D G j t W H x gx g T sx wD w1) : Ext wD w1 := h.2.2.2.2.2.2.2
set_option maxHeartbeats 16000000 in
set_option maxRecDepth 100000 in
theorem rfind_st (W H P f tt nr nb cb : Nat) (T : ByteArray) (A : Option Addr) (zs : List Int) (w : World) (hR : RowR w A nb 1 cZ zs) (hnb : nb ≤ 100000) (hW : 4 ≤ W) (hW2 : W ≤ 64) (hH : 4 ≤ H) (hH2 : H ≤ 64) (hP : P = W * H) (hs : T.size = P) (hs2 : P ≤ 4999) (hf : f < P) (ht : tt < P) (hnr : (nr : Int) ≤ 9223372036854775807) :
    Calls Try.prog 10 #[.agg #[.int .i64 (W : Int), .int .i64 (H : Int), .string T], .slice A nb cb, .int .i64 (f : Int), .int .i64 (tt : Int), .int .i64 (nr : Int)] w (FPost W H (sfree T fun t => decide ((t : Int) ∈ zs)) f tt nr w) := by
  have HRB := Lib.hid hR
  have HSZ := Lib.hid hs; have HP := Lib.hid hP
  have HONF := Lib.hid (fun w' => ron_yes W H P f T w' hP (by omega) hf)
  have HONT := Lib.hid (fun w' => ron_yes W H P tt T w' hP (by omega) ht)
  have y1 : decide ((nr : Int) < 0) = false := decide_eq_false (by omega)
  have y2 : IntKind.i64.wrap ((W : Int) * (H : Int)) = (P : Int) := by
    have e : (W : Int) * (H : Int) = (P : Int) := by rw [hP]; exact (Int.natCast_mul W H).symm
    rw [e, IntWalk.i64_in _ (by omega)]
  obtain ⟨iT, hiT, hzT, hsT, hbT⟩ := info_parts infoT
  have HIT := Lib.hid (And.intro hiT (And.intro hzT (And.intro hsT hbT))); clear hiT hzT hsT hbT
  have HQ0 : Hid (iT.bytes * P ≤ 281474976710656) := Lib.hid (by rw [HIT.out.2.2.2]; omega)
  have HQ1 : Hid (P ≤ maxLen) := Lib.hid (by unfold maxLen; omega)
  clear hR hs hP
  obtain ⟨GB, hGB⟩ : ∃ G, G = w.heap.size := ⟨_, rfl⟩
  have K0 := Lib.hid (Blk.new w 36 #[.int .i64 (W : Int), .int .i64 (H : Int), .string T])
  have E0 := Lib.hid (ext_alloc (Ext.rfl' w) (.cells #[.int .i64 (W : Int), .int .i64 (H : Int), .string T] 36))
  have Z0 : Hid (w.heap.size + 1 ≤ (w.alloc (.cells #[.int .i64 (W : Int), .int .i64 (H : Int), .string T] 36)).heap.size) := Lib.hid (by rw [World.size_alloc]; omega)
  go_enter Try.func10, Try.ntmps10
  go_upto_region 1 with fail
  obtain ⟨w0, hw0⟩ : ∃ W0, W0 = w.alloc (.cells #[.int .i64 (W : Int), .int .i64 (H : Int), .string T] 36) := ⟨_, rfl⟩
  rw [← hw0] at K0 E0 Z0 ⊢
  rw [← hGB] at K0 ⊢
  replace hGB := Lib.hid hGB
  clear hw0
  have k0 := fun i => K0.out.cell i
  go_wp2_with fail
  refine (HONF.out _).mono ?_
  rintro e w1 ⟨rfl, b1⟩
  have K1 := Lib.hid (K0.out.ext b1); have E1 := Lib.hid (ext_trans E0.out b1); have Z1 : Hid (w.heap.size + 1 ≤ w1.heap.size) := Lib.hid (Nat.le_trans Z0.out b1.size)
  clear b1 k0
  have k1 := fun i => K1.out.cell i
  go_wp2_with fail
  refine (HONT.out _).mono ?_
  rintro e w2 ⟨rfl, b2⟩
  have K2 := Lib.hid (K1.out.ext b2); have E2 := Lib.hid (ext_trans E1.out b2); have Z2 : Hid (w.heap.size + 1 ≤ w2.heap.size) := Lib.hid (Nat.le_trans Z1.out b2.size)
  clear b2 k1 K1 E1 Z1 K0 E0 Z0
  have k2 := fun i => K2.out.cell i
  have yf0 : (0 : Int) ≤ (f : Int) := by omega
  have yf1 : (f : Int) < (P : Int) := by omega
  go_upto_region 4 with (at_make; refine wpList_make_full w2 rfl (.tmp 37) (.tmp 37) 55 rfl (w.heap.size + 1) 57 iT (.agg #[.bool false, .bool false, .int .i64 0, .int .i64 0]) 4 Try.underlying55 HIT.out.1 HIT.out.2.1 HIT.out.2.2.1 .i64 .i64 (P : Int) (P : Int) P rfl rfl rfl rfl HQ0.out HQ1.out Z2.out ?_; intro w3 hown3 hg3; have HO3 := Lib.hid hown3; have HG3 := Lib.hid hg3; clear hown3 hg3)
  have hT3 := TR.made HO3.out
  have hE3 := ext_grown E2.out HG3.out (fun k hk => by cases hk)
  have hK3 : Blk w3 GB 36 #[.int .i64 (W : Int), .int .i64 (H : Int), .string T] := (HG3.out.block GB K2.out.lt (by simp)).trans K2.out
  obtain ⟨G, hG⟩ : ∃ G, G = w2.heap.size := ⟨_, rfl⟩
  rw [← hG] at hT3 ⊢
  clear HO3 hG HG3 k2 y2
  have HGB : Hid (GB ≠ G) := Lib.hid (by have := hT3.blk.1; have := hGB.out; omega)
  have HGL : Hid (w.heap.size ≤ G) := Lib.hid (by have := hT3.blk.1; omega)
  obtain ⟨c0, c1, c2, c3⟩ := hT3.cells hf
  have hfz := hT3.frozen
  have hT4 := hT3.put hf true true 0 0
  rw [show ((0 : Nat) : Int) = 0 from rfl] at hT4
  rw [first_eq] at hT4
  have HT4 := Lib.hid hT4
  have HE4 := Lib.hid (ext_grown hE3 hT4.2 (fun k hk => by cases hk; exact HGL.out))
  have HK4 := Lib.hid ((hT4.2.block GB hK3.lt (fun e => HGB.out (Option.some.inj e))).trans hK3)
  clear hT4
  clear hT3 hE3 hK3
  go_upto_region 5 with fail
  obtain ⟨w4, hw4⟩ : ∃ W4, W4 = (((w3.setCell ⟨G, f * 4, none⟩ (.bool true)).setCell ⟨G, f * 4 + 1, none⟩ (.bool true)).setCell ⟨G, f * 4 + 2, none⟩ (.int .i64 0)).setCell ⟨G, f * 4 + 3, none⟩ (.int .i64 0) := ⟨_, rfl⟩
  rw [← hw4] at HT4 HE4 HK4 ⊢
  have HR0 : Hid (RR W H f tt nr P GB G T (sfree T fun t => decide ((t : Int) ∈ zs)) w 0 (first P f) w4) := Lib.hid ⟨Pl.start hf, by rw [HP.out]; rfl, HT4.out.1, HE4.out, HK4.out⟩
  clear hw4 c0 c1 c2 c3 hfz HT4 HE4 HK4 HIT HQ0 HQ1 K2 E2 Z2 HONF HONT y1 yf0 yf1
  obtain ⟨FR', hFR'⟩ : ∃ F, F = sfree T fun t => decide ((t : Int) ∈ zs) := ⟨_, rfl⟩
  rw [← hFR'] at HR0
  replace hFR' := Lib.hid hFR'
  go_wp2_with fail
  go_loopw [13] (fun iv wr => ∃ (i : Nat) (all : List Ti), iv = .int .i64 (i : Int) ∧ i ≤ 600 ∧ RR W H f tt nr P GB G T FR' w i all wr) (fun iv _ => 600 - (intOf iv).toNat)
  case atStart => exact ⟨0, _, rfl, by omega, HR0.out⟩
  case round =>
    obtain ⟨i, all, rfl, hi, hF⟩ := hrel
    obtain ⟨wi, rfl⟩ : ∃ wi : World, wi = wr := ⟨_, rfl⟩
    have HF := Lib.hid hF
    clear hF HR0
    by_cases hi6 : i < 600
    · have y1 : (i : Int) < 600 := by omega
      have y2 : IntKind.i64.wrap ((i : Int) + 1) = ((i + 1 : Nat) : Int) := by rw [IntWalk.i64_in _ (by omega)]; omega
      have HBE := Lib.hid (best_ref W H P tt nr P (some ⟨G, 0, none⟩) T all wi HF.out.row.row hW hW2 HP.out (by omega) ht hnr (fun u => by have := HF.out.pl.gl u; omega))
      obtain ⟨n, hn⟩ : ∃ n, 600 - i = n + 1 := ⟨600 - i - 1, by omega⟩
      have HN := Lib.hid hn
      have k0 := fun i => HF.out.map.cell i
      clear hn
      cases hb : best (hh W tt nr) all P with
      | none =>
        rw [hb] at HBE
        have HPW : Hid (pway W H FR' f tt nr = none) := Lib.hid (by rw [← HF.out.way, HN.out]; exact afind_none (by rw [HF.out.row.2]; exact hb))
        clear hb
        simp only [oV] at HBE
        go_wp2_with fail
        refine HBE.out.mono ?_
        rintro e w5 ⟨rfl, b5⟩
        have HE5 := Lib.hid (ext_trans HF.out.ext b5)
        clear b5
        go_wp2_with fail
        go_ret2
        unfold FPost
        rw [← hFR'.out, HPW.out]
        exact ⟨rfl, HE5.out⟩
      | some t =>
        rw [hb] at HBE
        have HB : Hid (best (hh W tt nr) all all.length = some t) := Lib.hid (by rw [HF.out.row.2]; exact hb)
        obtain ⟨htP, hto, _⟩ := best_some _ _ hb
        have HTS := Lib.hid (HF.out.pl.ow t hto)
        clear hb hto
        simp only [oV] at HBE
        have y3 : ¬ (t : Int) < 0 := by omega
        have y4 : (0 : Int) ≤ (t : Int) := by omega
        have y5 : (t : Int) < (P : Int) := by omega
        go_wp2_with fail
        refine HBE.out.mono ?_
        rintro e w5 ⟨rfl, b5⟩
        have HE5 := Lib.hid (ext_trans HF.out.ext b5)
        have HT5 := Lib.hid (HF.out.row.ext b5)
        have HK5 := Lib.hid (HF.out.map.ext b5)
        clear b5 k0 HBE
        obtain ⟨_, c1, _, _⟩ := HT5.out.cells htP
        have hfz := HT5.out.frozen
        have HT6 := Lib.hid (HT5.out.shut htP)
        have HE6 := Lib.hid (ext_grown HE5.out HT6.out.2 (fun k hk => by cases hk; exact HGL.out))
        have HK6 : Hid (Blk _ GB 36 #[.int .i64 (W : Int), .int .i64 (H : Int), .string T]) := Lib.hid ((HT6.out.2.block GB HK5.out.lt (fun e => HGB.out (Option.some.inj e))).trans HK5.out)
        go_upto_region 12 with fail
        obtain ⟨w6, hw6⟩ : ∃ W6, W6 = w5.setCell ⟨G, t * 4 + 1, none⟩ (.bool false) := ⟨_, rfl⟩
        rw [← hw6] at HT6 HE6 HK6 ⊢
        clear hw6 c1 hfz HT5 HE5 HK5
        have k6 : ∀ i, w6.cell? ⟨GB, i, none⟩ = _ := HK6.out.cell
        have HFA := Lib.hid (far_ref W H P t tt nr T w6 hW hW2 HP.out (by omega) htP ht hnr)
        have HPS : Hid (Pl f i (shut all t)) := Lib.hid (HF.out.pl.shut (by rw [HF.out.row.2]; exact htP))
        have hss := shut_seen (all := all) (t := t) (by rw [HF.out.row.2]; exact htP)
        have HSS := Lib.hid (And.intro ((hss t).1.trans HTS.out) (hss t).2.1)
        clear hss
        obtain ⟨hv, hhv⟩ : ∃ hv, hv = hh W tt nr t := ⟨_, rfl⟩
        rw [← hhv] at HFA
        have HHV := Lib.hid hhv
        clear hhv
        by_cases hv0 : hv = 0
        · have z1 : (hv : Int) = 0 := by omega
          have HPW : Hid (pway W H FR' f tt nr = some (back (shut all t) f ((ti (shut all t) t).g + 1) t [])) := Lib.hid (by
            rw [← HF.out.way, HN.out, afind_goal HB.out (HHV.out.symm.trans hv0), HSS.out.2])
          go_wp2_with fail
          refine HFA.out.mono ?_
          rintro e w7 ⟨rfl, b7⟩
          have HE7 := Lib.hid (ext_trans HE6.out b7)
          have HT7 := Lib.hid (HT6.out.1.ext b7)
          clear b7 k6
          obtain ⟨aa, haa⟩ : ∃ aa, aa = shut all t := ⟨_, rfl⟩
          rw [← haa] at HT7 HPS HSS HPW
          obtain ⟨G0, hG0⟩ : ∃ G, G = (ti aa t).g := ⟨_, rfl⟩
          have hG0i : G0 ≤ i := by rw [hG0]; exact HPS.out.gl t
          rw [← hG0] at HPW
          have HG0 := Lib.hid hG0
          clear haa hG0 HT6 HE6 HK6
          go_wp2_with fail
          go_loopw [14, 15] (fun tv ov wr => ∃ (u : Nat) (out : List Nat), tv = .int .i64 (u : Int) ∧ (ti aa u).seen = true ∧ out.length + (ti aa u).g ≤ G0 ∧ Pth.back aa f ((ti aa u).g + 1) u out = Pth.back aa f (G0 + 1) t [] ∧ Rw w.heap.size wr ov out ∧ Ext w7 wr) (fun tv _ _ => (ti aa (intOf tv).toNat).g)
          case atStart => exact ⟨t, [], rfl, HSS.out.1, by rw [HG0.out]; simp, by rw [HG0.out], OwnR.nil _ _ _ _ _, Ext.rfl' w7⟩
          case round =>
            obtain ⟨u, out, rfl, hst, hle, hbk, hO, hE⟩ := hrel
            obtain ⟨wj, rfl⟩ : ∃ wj : World, wj = wr := ⟨_, rfl⟩
            have HST := Lib.hid hst; have HBK := Lib.hid hbk; have HO := Lib.hid hO; have HE := Lib.hid hE; have HLE := Lib.hid hle
            have hlen : out.length ≤ 10000 := by omega
            clear hst hbk hO hE hle
            by_cases huf : u = f
            · have x1 : (u : Int) = (f : Int) := by omega
              have HBO : Hid (out = Pth.back aa f (G0 + 1) t []) := Lib.hid (by rw [← HBK.out, huf, back_own])
              subst huf
              go_wp2_with fail
              go_ret2
              unfold FPost
              rw [← hFR'.out, HPW.out]
              exact ⟨⟨_, rfl, by rw [← HBO.out]; exact HO.out⟩, ext_trans HE7.out HE.out⟩
            · have x1 : ¬ (u : Int) = (f : Int) := by omega
              have huP : u < P := by have := HPS.out.ch.low u HST.out; rw [HT7.out.2] at this; exact this
              obtain ⟨hs', hlt⟩ := HPS.out.ch.step u HST.out huf
              have HNB := Lib.hid (HPS.out.ch.back HST.out huf out)
              obtain ⟨uy, huy⟩ : ∃ uy, uy = (ti aa u).by' := ⟨_, rfl⟩
              have HUY := Lib.hid huy
              rw [← huy] at hs' hlt HNB
              have HLT := Lib.hid hlt; have HSE := Lib.hid hs'
              clear huy hlt hs'
              have HO1 := Lib.hid (own_one wj 3 1 cI u rfl)
              rw [show (cI u).toArray = #[.int .i64 (u : Int)] from rfl] at HO1
              have HOO := Lib.hid (HO.out.ext (ext_alloc (Ext.rfl' wj) (.cells #[.int .i64 (u : Int)] 3)))
              have HEA := Lib.hid (ext_alloc (Ext.rfl' wj) (.cells #[.int .i64 (u : Int)] 3))
              have HSRC := Lib.hid (src_own (P := Try.prog) Try.underlying22 cI_len HOO.out (fun x v hv => by simp [cI] at hv; subst hv; rfl))
              have HDL : Hid ([u].length + out.length ≤ 100000000) := Lib.hid (by simp; omega)
              have x2 : (0 : Int) ≤ (u : Int) := by omega
              have x3 : (u : Int) < (P : Int) := by omega
              go_upto_region 16 with (at_builtin; refine wpList_recs rfl (.tmp 68) (.tmp 69) 22 3 1 8 _ cI rfl Try.underlying22 infoI rfl (by decide) _ u15 [u] out rfl rfl HO1.out HEA.out.size HSRC.out HDL.out ?_; intro v9 w9 hown9 hgr9; have HO9 := Lib.hid hown9; have HG9 := Lib.hid hgr9; clear hown9 hgr9)
              have HE9 := Lib.hid (ext_trans HE.out (ext_grown HEA.out HG9.out (fun k hk => by cases hk; exact Nat.le_refl _)))
              obtain ⟨_, _, _, c3⟩ := (HT7.out.ext HE9.out).cells huP
              rw [← HUY.out] at c3
              go_wp2_with fail
              go_roundw
              case measure => simp only [intOf, Int.toNat_natCast]; exact HLT.out
              case rel => exact ⟨uy, [u] ++ out, rfl, HSE.out, by have := HLE.out; have := HLT.out; simp; omega, by rw [← HBK.out, HNB.out]; rfl, rw_mono HO9.out (by have := HE7.out.size; have := HE.out.size; omega), HE9.out⟩
        · have z1 : ¬ (hv : Int) = 0 := by omega
          go_wp2_with fail
          refine HFA.out.mono ?_
          rintro e w7 ⟨rfl, b7⟩
          have HE7 := Lib.hid (ext_trans HE6.out b7)
          have HT7 := Lib.hid (HT6.out.1.ext b7)
          have HK7 := Lib.hid (HK6.out.ext b7)
          have k7 := fun i => HK7.out.cell i
          clear b7 k6
          have HNX := Lib.hid (rnext W H P t T w7 hW hW2 HP.out (by omega) htP)
          go_wp2_with fail
          refine HNX.out.mono ?_
          rintro e w8 ⟨vr, rfl, hr8, hE8⟩
          have hrow : Rw w7.heap.size w8 vr (nxt W H t) := Rw.of hr8
          have hL := nxt_pos' (W := W) (H := H) (t := t) hW
          have hL4 := nxt_len W H t
          obtain ⟨gl, c, rfl⟩ : ∃ gl c, vr = .slice (some ⟨gl, 0, none⟩) (nxt W H t).length c := by
            rcases hrow.2 with ⟨_, hz⟩ | ⟨g', cap, cur, hv', _⟩
            · omega
            · exact ⟨g', cap, hv'⟩
          have hgl := (World.ownsRow.lt hrow gl rfl).1
          have HGG : Hid (gl ≠ G) := Lib.hid (fun e => by have := HT7.out.blk.2; omega)
          obtain ⟨g, hg⟩ : ∃ g, g = (ti all t).g := ⟨_, rfl⟩
          have HG0 := Lib.hid hg
          have HGI : Hid (g ≤ i) := Lib.hid (by rw [hg]; exact HF.out.pl.gl t)
          have HRN : Hid (RN W H f P GB G t g gl c 0 T FR' w i all (shut all t) w8) := Lib.hid
            ⟨HPS.out.more (by omega), ⟨HSS.out.1, HSS.out.2.trans hg.symm⟩, rfl, HT7.out.ext hE8, ext_trans HE7.out hE8, HK7.out.ext hE8, rw_mono (hrow) (by have := HT7.out.blk; omega)⟩
          obtain ⟨L, hLL⟩ : ∃ L, L = (nxt W H t).length := ⟨_, rfl⟩
          rw [← hLL] at hL hL4 ⊢
          have HL := Lib.hid hLL
          have HWAY : Hid (pway W H FR' f tt nr = afind (hh W tt nr) (nxt W H) FR' f n ((nxt W H t).foldl (relax FR' t) (shut all t))) := Lib.hid (by
            rw [← HF.out.way, HN.out, afind_go HB.out (by rw [← HHV.out]; exact hv0)])
          clear hr8 hE8 hrow hgl hLL hg k7 HT6 HE6 HK6 HT7 HE7 HK7 HNX HFA z1
          go_wp2_with fail
          go_loopw [17] (fun jv wr => ∃ (j : Nat) (all2 : List Ti), jv = .int .i64 (j : Int) ∧ j ≤ L ∧ RN W H f P GB G t g gl c j T FR' w i all all2 wr) (fun jv _ => L - (intOf jv).toNat)
          case atStart => exact ⟨0, _, rfl, by omega, HRN.out⟩
          case round =>
            obtain ⟨j, all2, rfl, hj, hF2⟩ := hrel
            obtain ⟨wj, rfl⟩ : ∃ wj : World, wj = wr := ⟨_, rfl⟩
            have HF2 := Lib.hid hF2
            clear hF2 HRN
            by_cases hjL : j < L
            · have z1 : (j : Int) < (L : Int) := by omega
              have z2 : (0 : Int) ≤ (j : Int) := by omega
              have z3 : IntKind.i64.wrap ((j : Int) + 1) = ((j + 1 : Nat) : Int) := by rw [IntWalk.i64_in _ (by omega)]; omega
              obtain ⟨x, hx⟩ : ∃ x, (nxt W H t)[j]? = some x := ⟨(nxt W H t)[j]'(by rw [← HL.out]; exact hjL), List.getElem?_eq_getElem _⟩
              have hxP : x < P := by rw [HP.out]; exact nxt_lt hW (by rw [← HP.out]; exact htP) (List.mem_of_getElem? hx)
              have cx : wj.cell? ⟨gl, j, none⟩ = some (.int .i64 (x : Int)) := by
                have := Rw.cell (i := j) rfl HF2.out.nb (by rw [← HL.out]; exact hjL)
                rw [List.getD_eq_getElem?_getD, hx] at this; exact this
              have HX := Lib.hid hx
              have hxt : x ≠ t := fun e => by
                have h1 := nxt_one hW (List.mem_of_getElem? hx)
                rw [e, far_self] at h1; omega
              obtain ⟨q0, q1, q2, q3⟩ := HF2.out.row.cells hxP
              have qg := (HF2.out.row.cells htP).2.2.1
              rw [HF2.out.own.2] at qg
              have qb : ∀ i, wj.cell? ⟨GB, i, none⟩ = _ := HF2.out.map.cell
              have z4 : (0 : Int) ≤ (x : Int) := by omega
              have z5 : (x : Int) < (P : Int) := by omega
              obtain ⟨sx, hsx⟩ : ∃ sx, sx = (ti all2 x).seen := ⟨_, rfl⟩
              obtain ⟨ox, hox⟩ : ∃ ox, ox = (ti all2 x).opn := ⟨_, rfl⟩
              obtain ⟨gx, hgx⟩ : ∃ gx, gx = (ti all2 x).g := ⟨_, rfl⟩
              obtain ⟨yx, hyx⟩ : ∃ yx, yx = (ti all2 x).by' := ⟨_, rfl⟩
              rw [← hsx] at q0; rw [← hox] at q1; rw [← hgx] at q2; rw [← hyx] at q3
              have HSX := Lib.hid hsx; have HGX := Lib.hid hgx
              clear hx hsx hox hgx hyx
              go_upto_region 23 with fail
              have hd0 := Blk.new wj 57 #[.bool sx, .bool ox, .int .i64 (gx : Int), .int .i64 (yx : Int)]
              have hED := ext_alloc (Ext.rfl' wj) (.cells #[.bool sx, .bool ox, .int .i64 (gx : Int), .int .i64 (yx : Int)] 57)
              obtain ⟨wD, hwD⟩ : ∃ WD, WD = wj.alloc (.cells #[.bool sx, .bool ox, .int .i64 (gx : Int), .int .i64 (yx : Int)] 57) := ⟨_, rfl⟩
              obtain ⟨D, hD⟩ : ∃ D, D = wj.heap.size := ⟨_, rfl⟩
              rw [← hwD] at hd0 hED ⊢
              rw [← hD] at hd0 ⊢
              have HED := Lib.hid hED
              have HF3 := Lib.hid (HF2.out.ext' hED)
              have r0 := kc hED cx; have r1 := kc hED qg
              have r2 := kc hED (qb 0); have r3 := kc hED (qb 1); have r4 := kc hED (qb 2)
              have r5 : wD.cell? ⟨D, 0, none⟩ = some (.bool sx) := hd0.cell 0
              have r6 : wD.cell? ⟨D, 2, none⟩ = some (.int .i64 (gx : Int)) := hd0.cell 2
              clear hwD hD hd0 hED cx qg qb q0 q1 q2 q3
              have hxT : x < T.size := by rw [HSZ.out]; exact hxP
              obtain ⟨v, hv'⟩ : ∃ v, v = T[x].toNat := ⟨_, rfl⟩
              obtain ⟨bx, hbx⟩ : ∃ bx, bx = decide ((x : Int) ∈ zs) := ⟨_, rfl⟩
              have HIS : Hid (∀ W', Calls Try.prog 24 #[.agg #[.int .i64 (W : Int), .int .i64 (H : Int), .string T], .int .i64 (x : Int)] W' fun e w'' => e = .returned (.int .u8 (v : Int)) ∧ Ext W' w'') := Lib.hid (fun W' => by rw [hv']; exact ris_yes W H P x T W' HP.out (by omega) HSZ.out hxT)
              have HIN : Hid (∀ W', Ext wD W' → Calls Try.prog 25 #[.slice A nb cb, .int .i64 (x : Int)] W' fun e w'' => e = .returned (.bool bx) ∧ W' = w'') := Lib.hid (fun W' he => by rw [hbx]; exact in_ref A nb cb (x : Int) zs W' (HRB.out.ext (ext_trans HF3.out.ext he)) hnb)
              have HFX : Hid (FR' x = (v == 0 && !bx)) := Lib.hid (by
                rw [hFR'.out, hv', hbx]; unfold sfree; rw [dif_pos hxT])
              have z6 : IntKind.i64.wrap ((g : Int) + 1) = ((g + 1 : Nat) : Int) := by have := HGI.out; rw [IntWalk.i64_in _ (by omega)]; omega
              have HX0 : Hid (SP GB gl D G j t W H x gx g T sx wD wD.drew) := Lib.hid ⟨r2, r3, r4, r0, r5, r6, r1, ext_drew (Ext.rfl' wD)⟩
              clear hv' hbx r0 r1 r2 r3 r4 r5 r6
              go_cut [122] (fun s122 wx => s122 = .bool (!(v == 0 && !bx) || (sx && decide (gx ≤ g + 1))) ∧ Ext wD wx)
              case first =>
                by_cases hv0' : v = 0
                · subst hv0'
                  rw [show ((0 : Nat) : Int) = 0 from rfl] at HIS
                  cases bx with
                  | true =>
                    refine wp_region_held_drew (S := SP GB gl D G j t W H x gx g T sx wD) hmxP HX0.out (fun _ => ?_)
                    have HX := Lib.hid HX0.out
                    generalize wD.drew = WA at *
                    (refine wpAnyH_take (i := 0) (oi := { dst := some 93, op := Go.Op.load 36 (Go.Operand.tmp 5), type := 36, pos := "ref.go:75", after := #[], guard := none }) (v := ?_) rfl (by kernel_rfl) (by kernel_rfl) (by kernel_rfl) (fun _ _ _ h => h) (Or.inl ⟨by rfl, ?_⟩) HX.out ?_); rotate_left
                    · (intro w' hSw; obtain ⟨h0, h1, h2, h3, h4, h5, h6, _⟩ := hSw; go_simp; try with_reducible rfl)
                    (try simp only [Act.put, List.setIfInBounds_toArray, List.set_cons_zero, List.set_cons_succ])
                    (refine wpAnyH_take (i := 1) (oi := { dst := some 94, op := Go.Op.move (Go.Operand.tmp 16), type := 22, pos := "ref.go:75", after := #[], guard := none }) (v := ?_) rfl (by kernel_rfl) (by kernel_rfl) (by kernel_rfl) (fun _ _ _ h => h) (Or.inl ⟨by rfl, ?_⟩) HX.out ?_); rotate_left
                    · (intro w' hSw; obtain ⟨h0, h1, h2, h3, h4, h5, h6, _⟩ := hSw; go_simp; try with_reducible rfl)
                    (try simp only [Act.put, List.setIfInBounds_toArray, List.set_cons_zero, List.set_cons_succ])
                    (refine wpAnyH_take (i := 2) (oi := { dst := some 95, op := Go.Op.move (Go.Operand.tmp 17), type := 3, pos := "ref.go:75", after := #[], guard := none }) (v := ?_) rfl (by kernel_rfl) (by kernel_rfl) (by kernel_rfl) (fun _ _ _ h => h) (Or.inl ⟨by rfl, ?_⟩) HX.out ?_); rotate_left
                    · (intro w' hSw; obtain ⟨h0, h1, h2, h3, h4, h5, h6, _⟩ := hSw; go_simp; try with_reducible rfl)
                    (try simp only [Act.put, List.setIfInBounds_toArray, List.set_cons_zero, List.set_cons_succ])
                    (refine wpAnyH_take (i := 3) (oi := { dst := some 96, op := Go.Op.indexAddr 22 (Go.Operand.tmp 94) (Go.Operand.tmp 95), type := 0, pos := "ref.go:75", after := #[{ on := 1, ground := Go.Ground.data }, { on := 2, ground := Go.Ground.data }], guard := none }) (v := ?_) rfl (by kernel_rfl) (by kernel_rfl) (by kernel_rfl) (fun _ _ _ h => h) (Or.inl ⟨by rfl, ?_⟩) HX.out ?_); rotate_left
                    · (intro w' hSw; obtain ⟨h0, h1, h2, h3, h4, h5, h6, _⟩ := hSw; go_simp; try with_reducible rfl)
                    (try simp only [Act.put, List.setIfInBounds_toArray, List.set_cons_zero, List.set_cons_succ])
                    (refine wpAnyH_take (i := 4) (oi := { dst := some 97, op := Go.Op.load 3 (Go.Operand.tmp 96), type := 3, pos := "ref.go:75", after := #[{ on := 3, ground := Go.Ground.data }], guard := none }) (v := ?_) rfl (by kernel_rfl) (by kernel_rfl) (by kernel_rfl) (fun _ _ _ h => h) (Or.inl ⟨by rfl, ?_⟩) HX.out ?_); rotate_left
                    · (intro w' hSw; obtain ⟨h0, h1, h2, h3, h4, h5, h6, _⟩ := hSw; go_simp; try with_reducible rfl)
                    (try simp only [Act.put, List.setIfInBounds_toArray, List.set_cons_zero, List.set_cons_succ])
                    refine wpAnyH_ready (rs := [5]) (by kernel_rfl) (by simp) ?_
                    refine AllReadyH.cons (o := { dst := some 98, op := Go.Op.call { callee := Go.Callee.value (Go.Operand.func 24), args := #[Go.Operand.tmp 93, Go.Operand.tmp 97], argTypes := #[36, 3] }, type := 5, pos := "ref.go:75", after := #[{ on := 0, ground := Go.Ground.data }, { on := 4, ground := Go.Ground.data }], guard := none }) (by kernel_rfl) (fun K hK => ?_) AllReadyH.nil
                    go_simp
                    refine (HIS.out _).mono ?_
                    rintro e WB ⟨rfl, hE⟩
                    have HX := Lib.hid (HX.out.next hE)
                    clear hE
                    (try go_wp2_with fail)
                    refine hK.out _ _ HX.out (fun _ => ?_)
                    clear hK K
                    (try simp only [Act.put, List.setIfInBounds_toArray, List.set_cons_zero, List.set_cons_succ])
                    (refine wpAnyH_take (i := 6) (oi := { dst := some 99, op := Go.Op.binOp Go.BinOp.neq 5 (Go.Operand.tmp 98) (Go.Operand.const (Go.Value.int Go.IntKind.u8 0)) 5, type := 4, pos := "ref.go:75", after := #[{ on := 5, ground := Go.Ground.data }], guard := none }) (v := ?_) rfl (by kernel_rfl) (by kernel_rfl) (by kernel_rfl) (fun _ _ _ h => h) (Or.inl ⟨by rfl, ?_⟩) HX.out ?_); rotate_left
                    · (intro w' hSw; obtain ⟨h0, h1, h2, h3, h4, h5, h6, _⟩ := hSw; go_simp; try with_reducible rfl)
                    (try simp only [Act.put, List.setIfInBounds_toArray, List.set_cons_zero, List.set_cons_succ])
                    (refine wpAnyH_take (i := 7) (oi := { dst := some 100, op := Go.Op.move (Go.Operand.tmp 99), type := 4, pos := "ref.go:75", after := #[{ on := 6, ground := Go.Ground.data }, { on := 5, ground := Go.Ground.chain }], guard := none }) (v := ?_) rfl (by kernel_rfl) (by kernel_rfl) (by kernel_rfl) (fun _ _ _ h => h) (Or.inl ⟨by rfl, ?_⟩) HX.out ?_); rotate_left
                    · (intro w' hSw; obtain ⟨h0, h1, h2, h3, h4, h5, h6, _⟩ := hSw; go_simp; try with_reducible rfl)
                    (try simp only [Act.put, List.setIfInBounds_toArray, List.set_cons_zero, List.set_cons_succ])
                    (refine wpAnyH_take (i := 8) (oi := { dst := some 101, op := Go.Op.move (Go.Operand.tmp 1), type := 22, pos := "ref.go:75", after := #[{ on := 7, ground := Go.Ground.guard }], guard := some (7, false) }) (v := ?_) rfl (by kernel_rfl) (by kernel_rfl) (by kernel_rfl) (fun _ _ _ h => h) (Or.inl ⟨by rfl, ?_⟩) HX.out ?_); rotate_left
                    · (intro w' hSw; obtain ⟨h0, h1, h2, h3, h4, h5, h6, _⟩ := hSw; go_simp; try with_reducible rfl)
                    (try simp only [Act.put, List.setIfInBounds_toArray, List.set_cons_zero, List.set_cons_succ])
                    (refine wpAnyH_take (i := 9) (oi := { dst := some 102, op := Go.Op.move (Go.Operand.tmp 16), type := 22, pos := "ref.go:75", after := #[{ on := 7, ground := Go.Ground.guard }], guard := some (7, false) }) (v := ?_) rfl (by kernel_rfl) (by kernel_rfl) (by kernel_rfl) (fun _ _ _ h => h) (Or.inl ⟨by rfl, ?_⟩) HX.out ?_); rotate_left
                    · (intro w' hSw; obtain ⟨h0, h1, h2, h3, h4, h5, h6, _⟩ := hSw; go_simp; try with_reducible rfl)
                    (try simp only [Act.put, List.setIfInBounds_toArray, List.set_cons_zero, List.set_cons_succ])
                    (refine wpAnyH_take (i := 10) (oi := { dst := some 103, op := Go.Op.move (Go.Operand.tmp 17), type := 3, pos := "ref.go:75", after := #[{ on := 7, ground := Go.Ground.guard }], guard := some (7, false) }) (v := ?_) rfl (by kernel_rfl) (by kernel_rfl) (by kernel_rfl) (fun _ _ _ h => h) (Or.inl ⟨by rfl, ?_⟩) HX.out ?_); rotate_left
                    · (intro w' hSw; obtain ⟨h0, h1, h2, h3, h4, h5, h6, _⟩ := hSw; go_simp; try with_reducible rfl)
                    (try simp only [Act.put, List.setIfInBounds_toArray, List.set_cons_zero, List.set_cons_succ])
                    (refine wpAnyH_take (i := 11) (oi := { dst := some 104, op := Go.Op.indexAddr 22 (Go.Operand.tmp 102) (Go.Operand.tmp 103), type := 0, pos := "ref.go:75", after := #[{ on := 9, ground := Go.Ground.data }, { on := 10, ground := Go.Ground.data }, { on := 7, ground := Go.Ground.guard }], guard := some (7, false) }) (v := ?_) rfl (by kernel_rfl) (by kernel_rfl) (by kernel_rfl) (fun _ _ _ h => h) (Or.inl ⟨by rfl, ?_⟩) HX.out ?_); rotate_left
                    · (intro w' hSw; obtain ⟨h0, h1, h2, h3, h4, h5, h6, _⟩ := hSw; go_simp; try with_reducible rfl)
                    (try simp only [Act.put, List.setIfInBounds_toArray, List.set_cons_zero, List.set_cons_succ])
                    (refine wpAnyH_take (i := 12) (oi := { dst := some 105, op := Go.Op.load 3 (Go.Operand.tmp 104), type := 3, pos := "ref.go:75", after := #[{ on := 11, ground := Go.Ground.data }, { on := 7, ground := Go.Ground.guard }], guard := some (7, false) }) (v := ?_) rfl (by kernel_rfl) (by kernel_rfl) (by kernel_rfl) (fun _ _ _ h => h) (Or.inl ⟨by rfl, ?_⟩) HX.out ?_); rotate_left
                    · (intro w' hSw; obtain ⟨h0, h1, h2, h3, h4, h5, h6, _⟩ := hSw; go_simp; try with_reducible rfl)
                    (try simp only [Act.put, List.setIfInBounds_toArray, List.set_cons_zero, List.set_cons_succ])
                    refine wpAnyH_ready (rs := [13]) (by kernel_rfl) (by simp) ?_
                    refine AllReadyH.cons (o := { dst := some 106, op := Go.Op.call { callee := Go.Callee.value (Go.Operand.func 25), args := #[Go.Operand.tmp 101, Go.Operand.tmp 105], argTypes := #[22, 3] }, type := 4, pos := "ref.go:75", after := #[{ on := 8, ground := Go.Ground.data }, { on := 12, ground := Go.Ground.data }, { on := 7, ground := Go.Ground.chain }, { on := 7, ground := Go.Ground.guard }], guard := some (7, false) }) (by kernel_rfl) (fun K hK => ?_) AllReadyH.nil
                    go_simp
                    refine (HIN.out _ HX.out.le).mono ?_
                    rintro e WC ⟨rfl, rfl⟩
                    (try go_wp2_with fail)
                    refine hK.out _ _ HX.out (fun _ => ?_)
                    clear hK K
                    (try simp only [Act.put, List.setIfInBounds_toArray, List.set_cons_zero, List.set_cons_succ])
                    (refine wpAnyH_take (i := 14) (oi := { dst := some 107, op := Go.Op.pick (Go.Operand.tmp 100) (Go.Operand.const (Go.Value.bool true)) (Go.Operand.tmp 106), type := 4, pos := "ref.go:75", after := #[{ on := 7, ground := Go.Ground.data }, { on := 13, ground := Go.Ground.data }], guard := none }) (v := ?_) rfl (by kernel_rfl) (by kernel_rfl) (by kernel_rfl) (fun _ _ _ h => h) (Or.inl ⟨by rfl, ?_⟩) HX.out ?_); rotate_left
                    · (intro w' hSw; obtain ⟨h0, h1, h2, h3, h4, h5, h6, _⟩ := hSw; go_simp; try with_reducible rfl)
                    (try simp only [Act.put, List.setIfInBounds_toArray, List.set_cons_zero, List.set_cons_succ])
                    (refine wpAnyH_take (i := 15) (oi := { dst := some 108, op := Go.Op.move (Go.Operand.tmp 107), type := 4, pos := "ref.go:75", after := #[{ on := 14, ground := Go.Ground.data }, { on := 13, ground := Go.Ground.chain }], guard := none }) (v := ?_) rfl (by kernel_rfl) (by kernel_rfl) (by kernel_rfl) (fun _ _ _ h => h) (Or.inl ⟨by rfl, ?_⟩) HX.out ?_); rotate_left
                    · (intro w' hSw; obtain ⟨h0, h1, h2, h3, h4, h5, h6, _⟩ := hSw; go_simp; try with_reducible rfl)
                    (try simp only [Act.put, List.setIfInBounds_toArray, List.set_cons_zero, List.set_cons_succ])
                    (refine wpAnyH_take (i := 16) (oi := { dst := some 109, op := Go.Op.fieldAddr 57 (Go.Operand.tmp 18) 0, type := 0, pos := "ref.go:75", after := #[{ on := 15, ground := Go.Ground.guard }], guard := some (15, false) }) (v := Go.undef) rfl (by kernel_rfl) (by kernel_rfl) (by kernel_rfl) (fun _ _ _ h => h) (Or.inr ⟨by rfl, by rfl⟩) HX.out ?_)
                    (try simp only [Act.put, List.setIfInBounds_toArray, List.set_cons_zero, List.set_cons_succ])
                    (refine wpAnyH_take (i := 17) (oi := { dst := some 110, op := Go.Op.load 4 (Go.Operand.tmp 109), type := 4, pos := "ref.go:75", after := #[{ on := 16, ground := Go.Ground.data }, { on := 15, ground := Go.Ground.guard }], guard := some (15, false) }) (v := Go.undef) rfl (by kernel_rfl) (by kernel_rfl) (by kernel_rfl) (fun _ _ _ h => h) (Or.inr ⟨by rfl, by rfl⟩) HX.out ?_)
                    (try simp only [Act.put, List.setIfInBounds_toArray, List.set_cons_zero, List.set_cons_succ])
                    (refine wpAnyH_take (i := 18) (oi := { dst := some 111, op := Go.Op.move (Go.Operand.tmp 110), type := 4, pos := "ref.go:75", after := #[{ on := 17, ground := Go.Ground.data }, { on := 15, ground := Go.Ground.chain }, { on := 15, ground := Go.Ground.guard }], guard := some (15, false) }) (v := Go.undef) rfl (by kernel_rfl) (by kernel_rfl) (by kernel_rfl) (fun _ _ _ h => h) (Or.inr ⟨by rfl, by rfl⟩) HX.out ?_)
                    (try simp only [Act.put, List.setIfInBounds_toArray, List.set_cons_zero, List.set_cons_succ])
                    (refine wpAnyH_take (i := 19) (oi := { dst := some 112, op := Go.Op.fieldAddr 57 (Go.Operand.tmp 18) 2, type := 0, pos := "ref.go:75", after := #[{ on := 18, ground := Go.Ground.guard }], guard := some (18, true) }) (v := Go.undef) rfl (by kernel_rfl) (by kernel_rfl) (by kernel_rfl) (fun _ _ _ h => h) (Or.inr ⟨by rfl, by rfl⟩) HX.out ?_)
                    (try simp only [Act.put, List.setIfInBounds_toArray, List.set_cons_zero, List.set_cons_succ])
                    (refine wpAnyH_take (i := 20) (oi := { dst := some 113, op := Go.Op.load 3 (Go.Operand.tmp 112), type := 3, pos := "ref.go:75", after := #[{ on := 19, ground := Go.Ground.data }, { on := 18, ground := Go.Ground.guard }], guard := some (18, true) }) (v := Go.undef) rfl (by kernel_rfl) (by kernel_rfl) (by kernel_rfl) (fun _ _ _ h => h) (Or.inr ⟨by rfl, by rfl⟩) HX.out ?_)
                    (try simp only [Act.put, List.setIfInBounds_toArray, List.set_cons_zero, List.set_cons_succ])
                    (refine wpAnyH_take (i := 21) (oi := { dst := some 114, op := Go.Op.move (Go.Operand.tmp 12), type := 55, pos := "ref.go:75", after := #[{ on := 18, ground := Go.Ground.guard }], guard := some (18, true) }) (v := Go.undef) rfl (by kernel_rfl) (by kernel_rfl) (by kernel_rfl) (fun _ _ _ h => h) (Or.inr ⟨by rfl, by rfl⟩) HX.out ?_)
                    (try simp only [Act.put, List.setIfInBounds_toArray, List.set_cons_zero, List.set_cons_succ])
                    (refine wpAnyH_take (i := 22) (oi := { dst := some 115, op := Go.Op.move (Go.Operand.tmp 14), type := 3, pos := "ref.go:75", after := #[{ on := 18, ground := Go.Ground.guard }], guard := some (18, true) }) (v := Go.undef) rfl (by kernel_rfl) (by kernel_rfl) (by kernel_rfl) (fun _ _ _ h => h) (Or.inr ⟨by rfl, by rfl⟩) HX.out ?_)
                    (try simp only [Act.put, List.setIfInBounds_toArray, List.set_cons_zero, List.set_cons_succ])
                    (refine wpAnyH_take (i := 23) (oi := { dst := some 116, op := Go.Op.indexAddr 55 (Go.Operand.tmp 114) (Go.Operand.tmp 115), type := 0, pos := "ref.go:75", after := #[{ on := 21, ground := Go.Ground.data }, { on := 22, ground := Go.Ground.data }, { on := 18, ground := Go.Ground.guard }], guard := some (18, true) }) (v := Go.undef) rfl (by kernel_rfl) (by kernel_rfl) (by kernel_rfl) (fun _ _ _ h => h) (Or.inr ⟨by rfl, by rfl⟩) HX.out ?_)
                    (try simp only [Act.put, List.setIfInBounds_toArray, List.set_cons_zero, List.set_cons_succ])
                    (refine wpAnyH_take (i := 24) (oi := { dst := some 117, op := Go.Op.fieldAddr 57 (Go.Operand.tmp 116) 2, type := 0, pos := "ref.go:75", after := #[{ on := 23, ground := Go.Ground.data }, { on := 18, ground := Go.Ground.guard }], guard := some (18, true) }) (v := Go.undef) rfl (by kernel_rfl) (by kernel_rfl) (by kernel_rfl) (fun _ _ _ h => h) (Or.inr ⟨by rfl, by rfl⟩) HX.out ?_)
                    (try simp only [Act.put, List.setIfInBounds_toArray, List.set_cons_zero, List.set_cons_succ])
                    (refine wpAnyH_take (i := 25) (oi := { dst := some 118, op := Go.Op.load 3 (Go.Operand.tmp 117), type := 3, pos := "ref.go:75", after := #[{ on := 24, ground := Go.Ground.data }, { on := 18, ground := Go.Ground.guard }], guard := some (18, true) }) (v := Go.undef) rfl (by kernel_rfl) (by kernel_rfl) (by kernel_rfl) (fun _ _ _ h => h) (Or.inr ⟨by rfl, by rfl⟩) HX.out ?_)
                    (try simp only [Act.put, List.setIfInBounds_toArray, List.set_cons_zero, List.set_cons_succ])
                    (refine wpAnyH_take (i := 26) (oi := { dst := some 119, op := Go.Op.binOp Go.BinOp.add 3 (Go.Operand.tmp 118) (Go.Operand.const (Go.Value.int Go.IntKind.i64 1)) 3, type := 3, pos := "ref.go:75", after := #[{ on := 25, ground := Go.Ground.data }, { on := 18, ground := Go.Ground.guard }], guard := some (18, true) }) (v := Go.undef) rfl (by kernel_rfl) (by kernel_rfl) (by kernel_rfl) (fun _ _ _ h => h) (Or.inr ⟨by rfl, by rfl⟩) HX.out ?_)
                    (try simp only [Act.put, List.setIfInBounds_toArray, List.set_cons_zero, List.set_cons_succ])
                    (refine wpAnyH_take (i := 27) (oi := { dst := some 120, op := Go.Op.binOp Go.BinOp.leq 3 (Go.Operand.tmp 113) (Go.Operand.tmp 119) 3, type := 4, pos := "ref.go:75", after := #[{ on := 20, ground := Go.Ground.data }, { on := 26, ground := Go.Ground.data }, { on := 18, ground := Go.Ground.guard }], guard := some (18, true) }) (v := Go.undef) rfl (by kernel_rfl) (by kernel_rfl) (by kernel_rfl) (fun _ _ _ h => h) (Or.inr ⟨by rfl, by rfl⟩) HX.out ?_)
                    (try simp only [Act.put, List.setIfInBounds_toArray, List.set_cons_zero, List.set_cons_succ])
                    (refine wpAnyH_take (i := 28) (oi := { dst := some 121, op := Go.Op.pick (Go.Operand.tmp 111) (Go.Operand.tmp 120) (Go.Operand.const (Go.Value.bool false)), type := 4, pos := "ref.go:75", after := #[{ on := 18, ground := Go.Ground.data }, { on := 27, ground := Go.Ground.data }, { on := 15, ground := Go.Ground.guard }], guard := some (15, false) }) (v := Go.undef) rfl (by kernel_rfl) (by kernel_rfl) (by kernel_rfl) (fun _ _ _ h => h) (Or.inr ⟨by rfl, by rfl⟩) HX.out ?_)
                    (try simp only [Act.put, List.setIfInBounds_toArray, List.set_cons_zero, List.set_cons_succ])
                    (refine wpAnyH_take (i := 29) (oi := { dst := some 122, op := Go.Op.pick (Go.Operand.tmp 108) (Go.Operand.const (Go.Value.bool true)) (Go.Operand.tmp 121), type := 4, pos := "ref.go:75", after := #[{ on := 15, ground := Go.Ground.data }, { on := 28, ground := Go.Ground.data }], guard := none }) (v := ?_) rfl (by kernel_rfl) (by kernel_rfl) (by kernel_rfl) (fun _ _ _ h => h) (Or.inl ⟨by rfl, ?_⟩) HX.out ?_); rotate_left
                    · (intro w' hSw; obtain ⟨h0, h1, h2, h3, h4, h5, h6, _⟩ := hSw; go_simp; try with_reducible rfl)
                    (try simp only [Act.put, List.setIfInBounds_toArray, List.set_cons_zero, List.set_cons_succ])
                    refine wpAnyH_done (by kernel_rfl) ?_ _
                    go_wp2_with fail
                    go_meet
                    exact ⟨by first | rfl | simp, HX.out.le⟩
                  | false =>
                    cases sx with
                    | false =>
                      refine wp_region_held_drew (S := SP GB gl D G j t W H x gx g T false wD) hmxP HX0.out (fun _ => ?_)
                      have HX := Lib.hid HX0.out
                      generalize wD.drew = WA at *
                      (refine wpAnyH_take (i := 0) (oi := { dst := some 93, op := Go.Op.load 36 (Go.Operand.tmp 5), type := 36, pos := "ref.go:75", after := #[], guard := none }) (v := ?_) rfl (by kernel_rfl) (by kernel_rfl) (by kernel_rfl) (fun _ _ _ h => h) (Or.inl ⟨by rfl, ?_⟩) HX.out ?_); rotate_left
                      · (intro w' hSw; obtain ⟨h0, h1, h2, h3, h4, h5, h6, _⟩ := hSw; go_simp; try with_reducible rfl)
                      (try simp only [Act.put, List.setIfInBounds_toArray, List.set_cons_zero, List.set_cons_succ])
                      (refine wpAnyH_take (i := 1) (oi := { dst := some 94, op := Go.Op.move (Go.Operand.tmp 16), type := 22, pos := "ref.go:75", after := #[], guard := none }) (v := ?_) rfl (by kernel_rfl) (by kernel_rfl) (by kernel_rfl) (fun _ _ _ h => h) (Or.inl ⟨by rfl, ?_⟩) HX.out ?_); rotate_left
                      · (intro w' hSw; obtain ⟨h0, h1, h2, h3, h4, h5, h6, _⟩ := hSw; go_simp; try with_reducible rfl)
                      (try simp only [Act.put, List.setIfInBounds_toArray, List.set_cons_zero, List.set_cons_succ])
                      (refine wpAnyH_take (i := 2) (oi := { dst := some 95, op := Go.Op.move (Go.Operand.tmp 17), type := 3, pos := "ref.go:75", after := #[], guard := none }) (v := ?_) rfl (by kernel_rfl) (by kernel_rfl) (by kernel_rfl) (fun _ _ _ h => h) (Or.inl ⟨by rfl, ?_⟩) HX.out ?_); rotate_left
                      · (intro w' hSw; obtain ⟨h0, h1, h2, h3, h4, h5, h6, _⟩ := hSw; go_simp; try with_reducible rfl)
                      (try simp only [Act.put, List.setIfInBounds_toArray, List.set_cons_zero, List.set_cons_succ])
                      (refine wpAnyH_take (i := 3) (oi := { dst := some 96, op := Go.Op.indexAddr 22 (Go.Operand.tmp 94) (Go.Operand.tmp 95), type := 0, pos := "ref.go:75", after := #[{ on := 1, ground := Go.Ground.data }, { on := 2, ground := Go.Ground.data }], guard := none }) (v := ?_) rfl (by kernel_rfl) (by kernel_rfl) (by kernel_rfl) (fun _ _ _ h => h) (Or.inl ⟨by rfl, ?_⟩) HX.out ?_); rotate_left
                      · (intro w' hSw; obtain ⟨h0, h1, h2, h3, h4, h5, h6, _⟩ := hSw; go_simp; try with_reducible rfl)
                      (try simp only [Act.put, List.setIfInBounds_toArray, List.set_cons_zero, List.set_cons_succ])
                      (refine wpAnyH_take (i := 4) (oi := { dst := some 97, op := Go.Op.load 3 (Go.Operand.tmp 96), type := 3, pos := "ref.go:75", after := #[{ on := 3, ground := Go.Ground.data }], guard := none }) (v := ?_) rfl (by kernel_rfl) (by kernel_rfl) (by kernel_rfl) (fun _ _ _ h => h) (Or.inl ⟨by rfl, ?_⟩) HX.out ?_); rotate_left
                      · (intro w' hSw; obtain ⟨h0, h1, h2, h3, h4, h5, h6, _⟩ := hSw; go_simp; try with_reducible rfl)
                      (try simp only [Act.put, List.setIfInBounds_toArray, List.set_cons_zero, List.set_cons_succ])
                      refine wpAnyH_ready (rs := [5]) (by kernel_rfl) (by simp) ?_
                      refine AllReadyH.cons (o := { dst := some 98, op := Go.Op.call { callee := Go.Callee.value (Go.Operand.func 24), args := #[Go.Operand.tmp 93, Go.Operand.tmp 97], argTypes := #[36, 3] }, type := 5, pos := "ref.go:75", after := #[{ on := 0, ground := Go.Ground.data }, { on := 4, ground := Go.Ground.data }], guard := none }) (by kernel_rfl) (fun K hK => ?_) AllReadyH.nil
                      go_simp
                      refine (HIS.out _).mono ?_
                      rintro e WB ⟨rfl, hE⟩
                      have HX := Lib.hid (HX.out.next hE)
                      clear hE
                      (try go_wp2_with fail)
                      refine hK.out _ _ HX.out (fun _ => ?_)
                      clear hK K
                      (try simp only [Act.put, List.setIfInBounds_toArray, List.set_cons_zero, List.set_cons_succ])
                      (refine wpAnyH_take (i := 6) (oi := { dst := some 99, op := Go.Op.binOp Go.BinOp.neq 5 (Go.Operand.tmp 98) (Go.Operand.const (Go.Value.int Go.IntKind.u8 0)) 5, type := 4, pos := "ref.go:75", after := #[{ on := 5, ground := Go.Ground.data }], guard := none }) (v := ?_) rfl (by kernel_rfl) (by kernel_rfl) (by kernel_rfl) (fun _ _ _ h => h) (Or.inl ⟨by rfl, ?_⟩) HX.out ?_); rotate_left
                      · (intro w' hSw; obtain ⟨h0, h1, h2, h3, h4, h5, h6, _⟩ := hSw; go_simp; try with_reducible rfl)
                      (try simp only [Act.put, List.setIfInBounds_toArray, List.set_cons_zero, List.set_cons_succ])
                      (refine wpAnyH_take (i := 7) (oi := { dst := some 100, op := Go.Op.move (Go.Operand.tmp 99), type := 4, pos := "ref.go:75", after := #[{ on := 6, ground := Go.Ground.data }, { on := 5, ground := Go.Ground.chain }], guard := none }) (v := ?_) rfl (by kernel_rfl) (by kernel_rfl) (by kernel_rfl) (fun _ _ _ h => h) (Or.inl ⟨by rfl, ?_⟩) HX.out ?_); rotate_left
                      · (intro w' hSw; obtain ⟨h0, h1, h2, h3, h4, h5, h6, _⟩ := hSw; go_simp; try with_reducible rfl)
                      (try simp only [Act.put, List.setIfInBounds_toArray, List.set_cons_zero, List.set_cons_succ])
                      (refine wpAnyH_take (i := 8) (oi := { dst := some 101, op := Go.Op.move (Go.Operand.tmp 1), type := 22, pos := "ref.go:75", after := #[{ on := 7, ground := Go.Ground.guard }], guard := some (7, false) }) (v := ?_) rfl (by kernel_rfl) (by kernel_rfl) (by kernel_rfl) (fun _ _ _ h => h) (Or.inl ⟨by rfl, ?_⟩) HX.out ?_); rotate_left
                      · (intro w' hSw; obtain ⟨h0, h1, h2, h3, h4, h5, h6, _⟩ := hSw; go_simp; try with_reducible rfl)
                      (try simp only [Act.put, List.setIfInBounds_toArray, List.set_cons_zero, List.set_cons_succ])
                      (refine wpAnyH_take (i := 9) (oi := { dst := some 102, op := Go.Op.move (Go.Operand.tmp 16), type := 22, pos := "ref.go:75", after := #[{ on := 7, ground := Go.Ground.guard }], guard := some (7, false) }) (v := ?_) rfl (by kernel_rfl) (by kernel_rfl) (by kernel_rfl) (fun _ _ _ h => h) (Or.inl ⟨by rfl, ?_⟩) HX.out ?_); rotate_left
                      · (intro w' hSw; obtain ⟨h0, h1, h2, h3, h4, h5, h6, _⟩ := hSw; go_simp; try with_reducible rfl)
                      (try simp only [Act.put, List.setIfInBounds_toArray, List.set_cons_zero, List.set_cons_succ])
                      (refine wpAnyH_take (i := 10) (oi := { dst := some 103, op := Go.Op.move (Go.Operand.tmp 17), type := 3, pos := "ref.go:75", after := #[{ on := 7, ground := Go.Ground.guard }], guard := some (7, false) }) (v := ?_) rfl (by kernel_rfl) (by kernel_rfl) (by kernel_rfl) (fun _ _ _ h => h) (Or.inl ⟨by rfl, ?_⟩) HX.out ?_); rotate_left
                      · (intro w' hSw; obtain ⟨h0, h1, h2, h3, h4, h5, h6, _⟩ := hSw; go_simp; try with_reducible rfl)
                      (try simp only [Act.put, List.setIfInBounds_toArray, List.set_cons_zero, List.set_cons_succ])
                      (refine wpAnyH_take (i := 11) (oi := { dst := some 104, op := Go.Op.indexAddr 22 (Go.Operand.tmp 102) (Go.Operand.tmp 103), type := 0, pos := "ref.go:75", after := #[{ on := 9, ground := Go.Ground.data }, { on := 10, ground := Go.Ground.data }, { on := 7, ground := Go.Ground.guard }], guard := some (7, false) }) (v := ?_) rfl (by kernel_rfl) (by kernel_rfl) (by kernel_rfl) (fun _ _ _ h => h) (Or.inl ⟨by rfl, ?_⟩) HX.out ?_); rotate_left
                      · (intro w' hSw; obtain ⟨h0, h1, h2, h3, h4, h5, h6, _⟩ := hSw; go_simp; try with_reducible rfl)
                      (try simp only [Act.put, List.setIfInBounds_toArray, List.set_cons_zero, List.set_cons_succ])
                      (refine wpAnyH_take (i := 12) (oi := { dst := some 105, op := Go.Op.load 3 (Go.Operand.tmp 104), type := 3, pos := "ref.go:75", after := #[{ on := 11, ground := Go.Ground.data }, { on := 7, ground := Go.Ground.guard }], guard := some (7, false) }) (v := ?_) rfl (by kernel_rfl) (by kernel_rfl) (by kernel_rfl) (fun _ _ _ h => h) (Or.inl ⟨by rfl, ?_⟩) HX.out ?_); rotate_left
                      · (intro w' hSw; obtain ⟨h0, h1, h2, h3, h4, h5, h6, _⟩ := hSw; go_simp; try with_reducible rfl)
                      (try simp only [Act.put, List.setIfInBounds_toArray, List.set_cons_zero, List.set_cons_succ])
                      refine wpAnyH_ready (rs := [13]) (by kernel_rfl) (by simp) ?_
                      refine AllReadyH.cons (o := { dst := some 106, op := Go.Op.call { callee := Go.Callee.value (Go.Operand.func 25), args := #[Go.Operand.tmp 101, Go.Operand.tmp 105], argTypes := #[22, 3] }, type := 4, pos := "ref.go:75", after := #[{ on := 8, ground := Go.Ground.data }, { on := 12, ground := Go.Ground.data }, { on := 7, ground := Go.Ground.chain }, { on := 7, ground := Go.Ground.guard }], guard := some (7, false) }) (by kernel_rfl) (fun K hK => ?_) AllReadyH.nil
                      go_simp
                      refine (HIN.out _ HX.out.le).mono ?_
                      rintro e WC ⟨rfl, rfl⟩
                      (try go_wp2_with fail)
                      refine hK.out _ _ HX.out (fun _ => ?_)
                      clear hK K
                      (try simp only [Act.put, List.setIfInBounds_toArray, List.set_cons_zero, List.set_cons_succ])
                      (refine wpAnyH_take (i := 14) (oi := { dst := some 107, op := Go.Op.pick (Go.Operand.tmp 100) (Go.Operand.const (Go.Value.bool true)) (Go.Operand.tmp 106), type := 4, pos := "ref.go:75", after := #[{ on := 7, ground := Go.Ground.data }, { on := 13, ground := Go.Ground.data }], guard := none }) (v := ?_) rfl (by kernel_rfl) (by kernel_rfl) (by kernel_rfl) (fun _ _ _ h => h) (Or.inl ⟨by rfl, ?_⟩) HX.out ?_); rotate_left
                      · (intro w' hSw; obtain ⟨h0, h1, h2, h3, h4, h5, h6, _⟩ := hSw; go_simp; try with_reducible rfl)
                      (try simp only [Act.put, List.setIfInBounds_toArray, List.set_cons_zero, List.set_cons_succ])
                      (refine wpAnyH_take (i := 15) (oi := { dst := some 108, op := Go.Op.move (Go.Operand.tmp 107), type := 4, pos := "ref.go:75", after := #[{ on := 14, ground := Go.Ground.data }, { on := 13, ground := Go.Ground.chain }], guard := none }) (v := ?_) rfl (by kernel_rfl) (by kernel_rfl) (by kernel_rfl) (fun _ _ _ h => h) (Or.inl ⟨by rfl, ?_⟩) HX.out ?_); rotate_left
                      · (intro w' hSw; obtain ⟨h0, h1, h2, h3, h4, h5, h6, _⟩ := hSw; go_simp; try with_reducible rfl)
                      (try simp only [Act.put, List.setIfInBounds_toArray, List.set_cons_zero, List.set_cons_succ])
                      (refine wpAnyH_take (i := 16) (oi := { dst := some 109, op := Go.Op.fieldAddr 57 (Go.Operand.tmp 18) 0, type := 0, pos := "ref.go:75", after := #[{ on := 15, ground := Go.Ground.guard }], guard := some (15, false) }) (v := ?_) rfl (by kernel_rfl) (by kernel_rfl) (by kernel_rfl) (fun _ _ _ h => h) (Or.inl ⟨by rfl, ?_⟩) HX.out ?_); rotate_left
                      · (intro w' hSw; obtain ⟨h0, h1, h2, h3, h4, h5, h6, _⟩ := hSw; go_simp; try with_reducible rfl)
                      (try simp only [Act.put, List.setIfInBounds_toArray, List.set_cons_zero, List.set_cons_succ])
                      (refine wpAnyH_take (i := 17) (oi := { dst := some 110, op := Go.Op.load 4 (Go.Operand.tmp 109), type := 4, pos := "ref.go:75", after := #[{ on := 16, ground := Go.Ground.data }, { on := 15, ground := Go.Ground.guard }], guard := some (15, false) }) (v := ?_) rfl (by kernel_rfl) (by kernel_rfl) (by kernel_rfl) (fun _ _ _ h => h) (Or.inl ⟨by rfl, ?_⟩) HX.out ?_); rotate_left
                      · (intro w' hSw; obtain ⟨h0, h1, h2, h3, h4, h5, h6, _⟩ := hSw; go_simp; try with_reducible rfl)
                      (try simp only [Act.put, List.setIfInBounds_toArray, List.set_cons_zero, List.set_cons_succ])
                      (refine wpAnyH_take (i := 18) (oi := { dst := some 111, op := Go.Op.move (Go.Operand.tmp 110), type := 4, pos := "ref.go:75", after := #[{ on := 17, ground := Go.Ground.data }, { on := 15, ground := Go.Ground.chain }, { on := 15, ground := Go.Ground.guard }], guard := some (15, false) }) (v := ?_) rfl (by kernel_rfl) (by kernel_rfl) (by kernel_rfl) (fun _ _ _ h => h) (Or.inl ⟨by rfl, ?_⟩) HX.out ?_); rotate_left
                      · (intro w' hSw; obtain ⟨h0, h1, h2, h3, h4, h5, h6, _⟩ := hSw; go_simp; try with_reducible rfl)
                      (try simp only [Act.put, List.setIfInBounds_toArray, List.set_cons_zero, List.set_cons_succ])
                      (refine wpAnyH_take (i := 19) (oi := { dst := some 112, op := Go.Op.fieldAddr 57 (Go.Operand.tmp 18) 2, type := 0, pos := "ref.go:75", after := #[{ on := 18, ground := Go.Ground.guard }], guard := some (18, true) }) (v := Go.undef) rfl (by kernel_rfl) (by kernel_rfl) (by kernel_rfl) (fun _ _ _ h => h) (Or.inr ⟨by rfl, by rfl⟩) HX.out ?_)
                      (try simp only [Act.put, List.setIfInBounds_toArray, List.set_cons_zero, List.set_cons_succ])
                      (refine wpAnyH_take (i := 20) (oi := { dst := some 113, op := Go.Op.load 3 (Go.Operand.tmp 112), type := 3, pos := "ref.go:75", after := #[{ on := 19, ground := Go.Ground.data }, { on := 18, ground := Go.Ground.guard }], guard := some (18, true) }) (v := Go.undef) rfl (by kernel_rfl) (by kernel_rfl) (by kernel_rfl) (fun _ _ _ h => h) (Or.inr ⟨by rfl, by rfl⟩) HX.out ?_)
                      (try simp only [Act.put, List.setIfInBounds_toArray, List.set_cons_zero, List.set_cons_succ])
                      (refine wpAnyH_take (i := 21) (oi := { dst := some 114, op := Go.Op.move (Go.Operand.tmp 12), type := 55, pos := "ref.go:75", after := #[{ on := 18, ground := Go.Ground.guard }], guard := some (18, true) }) (v := Go.undef) rfl (by kernel_rfl) (by kernel_rfl) (by kernel_rfl) (fun _ _ _ h => h) (Or.inr ⟨by rfl, by rfl⟩) HX.out ?_)
                      (try simp only [Act.put, List.setIfInBounds_toArray, List.set_cons_zero, List.set_cons_succ])
                      (refine wpAnyH_take (i := 22) (oi := { dst := some 115, op := Go.Op.move (Go.Operand.tmp 14), type := 3, pos := "ref.go:75", after := #[{ on := 18, ground := Go.Ground.guard }], guard := some (18, true) }) (v := Go.undef) rfl (by kernel_rfl) (by kernel_rfl) (by kernel_rfl) (fun _ _ _ h => h) (Or.inr ⟨by rfl, by rfl⟩) HX.out ?_)
                      (try simp only [Act.put, List.setIfInBounds_toArray, List.set_cons_zero, List.set_cons_succ])
                      (refine wpAnyH_take (i := 23) (oi := { dst := some 116, op := Go.Op.indexAddr 55 (Go.Operand.tmp 114) (Go.Operand.tmp 115), type := 0, pos := "ref.go:75", after := #[{ on := 21, ground := Go.Ground.data }, { on := 22, ground := Go.Ground.data }, { on := 18, ground := Go.Ground.guard }], guard := some (18, true) }) (v := Go.undef) rfl (by kernel_rfl) (by kernel_rfl) (by kernel_rfl) (fun _ _ _ h => h) (Or.inr ⟨by rfl, by rfl⟩) HX.out ?_)
                      (try simp only [Act.put, List.setIfInBounds_toArray, List.set_cons_zero, List.set_cons_succ])
                      (refine wpAnyH_take (i := 24) (oi := { dst := some 117, op := Go.Op.fieldAddr 57 (Go.Operand.tmp 116) 2, type := 0, pos := "ref.go:75", after := #[{ on := 23, ground := Go.Ground.data }, { on := 18, ground := Go.Ground.guard }], guard := some (18, true) }) (v := Go.undef) rfl (by kernel_rfl) (by kernel_rfl) (by kernel_rfl) (fun _ _ _ h => h) (Or.inr ⟨by rfl, by rfl⟩) HX.out ?_)
                      (try simp only [Act.put, List.setIfInBounds_toArray, List.set_cons_zero, List.set_cons_succ])
                      (refine wpAnyH_take (i := 25) (oi := { dst := some 118, op := Go.Op.load 3 (Go.Operand.tmp 117), type := 3, pos := "ref.go:75", after := #[{ on := 24, ground := Go.Ground.data }, { on := 18, ground := Go.Ground.guard }], guard := some (18, true) }) (v := Go.undef) rfl (by kernel_rfl) (by kernel_rfl) (by kernel_rfl) (fun _ _ _ h => h) (Or.inr ⟨by rfl, by rfl⟩) HX.out ?_)
                      (try simp only [Act.put, List.setIfInBounds_toArray, List.set_cons_zero, List.set_cons_succ])
                      (refine wpAnyH_take (i := 26) (oi := { dst := some 119, op := Go.Op.binOp Go.BinOp.add 3 (Go.Operand.tmp 118) (Go.Operand.const (Go.Value.int Go.IntKind.i64 1)) 3, type := 3, pos := "ref.go:75", after := #[{ on := 25, ground := Go.Ground.data }, { on := 18, ground := Go.Ground.guard }], guard := some (18, true) }) (v := Go.undef) rfl (by kernel_rfl) (by kernel_rfl) (by kernel_rfl) (fun _ _ _ h => h) (Or.inr ⟨by rfl, by rfl⟩) HX.out ?_)
                      (try simp only [Act.put, List.setIfInBounds_toArray, List.set_cons_zero, List.set_cons_succ])
                      (refine wpAnyH_take (i := 27) (oi := { dst := some 120, op := Go.Op.binOp Go.BinOp.leq 3 (Go.Operand.tmp 113) (Go.Operand.tmp 119) 3, type := 4, pos := "ref.go:75", after := #[{ on := 20, ground := Go.Ground.data }, { on := 26, ground := Go.Ground.data }, { on := 18, ground := Go.Ground.guard }], guard := some (18, true) }) (v := Go.undef) rfl (by kernel_rfl) (by kernel_rfl) (by kernel_rfl) (fun _ _ _ h => h) (Or.inr ⟨by rfl, by rfl⟩) HX.out ?_)
                      (try simp only [Act.put, List.setIfInBounds_toArray, List.set_cons_zero, List.set_cons_succ])
                      (refine wpAnyH_take (i := 28) (oi := { dst := some 121, op := Go.Op.pick (Go.Operand.tmp 111) (Go.Operand.tmp 120) (Go.Operand.const (Go.Value.bool false)), type := 4, pos := "ref.go:75", after := #[{ on := 18, ground := Go.Ground.data }, { on := 27, ground := Go.Ground.data }, { on := 15, ground := Go.Ground.guard }], guard := some (15, false) }) (v := ?_) rfl (by kernel_rfl) (by kernel_rfl) (by kernel_rfl) (fun _ _ _ h => h) (Or.inl ⟨by rfl, ?_⟩) HX.out ?_); rotate_left
                      · (intro w' hSw; obtain ⟨h0, h1, h2, h3, h4, h5, h6, _⟩ := hSw; go_simp; try with_reducible rfl)
                      (try simp only [Act.put, List.setIfInBounds_toArray, List.set_cons_zero, List.set_cons_succ])
                      (refine wpAnyH_take (i := 29) (oi := { dst := some 122, op := Go.Op.pick (Go.Operand.tmp 108) (Go.Operand.const (Go.Value.bool true)) (Go.Operand.tmp 121), type := 4, pos := "ref.go:75", after := #[{ on := 15, ground := Go.Ground.data }, { on := 28, ground := Go.Ground.data }], guard := none }) (v := ?_) rfl (by kernel_rfl) (by kernel_rfl) (by kernel_rfl) (fun _ _ _ h => h) (Or.inl ⟨by rfl, ?_⟩) HX.out ?_); rotate_left
                      · (intro w' hSw; obtain ⟨h0, h1, h2, h3, h4, h5, h6, _⟩ := hSw; go_simp; try with_reducible rfl)
                      (try simp only [Act.put, List.setIfInBounds_toArray, List.set_cons_zero, List.set_cons_succ])
                      refine wpAnyH_done (by kernel_rfl) ?_ _
                      go_wp2_with fail
                      go_meet
                      exact ⟨by first | rfl | simp, HX.out.le⟩
                    | true =>
                      by_cases hle : gx ≤ g + 1
                      · have x1 : (gx : Int) ≤ ((g + 1 : Nat) : Int) := by omega
                        have x2 : decide (gx ≤ g + 1) = true := decide_eq_true hle
                        refine wp_region_held_drew (S := SP GB gl D G j t W H x gx g T true wD) hmxP HX0.out (fun _ => ?_)
                        have HX := Lib.hid HX0.out
                        generalize wD.drew = WA at *
                        (refine wpAnyH_take (i := 0) (oi := { dst := some 93, op := Go.Op.load 36 (Go.Operand.tmp 5), type := 36, pos := "ref.go:75", after := #[], guard := none }) (v := ?_) rfl (by kernel_rfl) (by kernel_rfl) (by kernel_rfl) (fun _ _ _ h => h) (Or.inl ⟨by rfl, ?_⟩) HX.out ?_); rotate_left
                        · (intro w' hSw; obtain ⟨h0, h1, h2, h3, h4, h5, h6, _⟩ := hSw; go_simp; try with_reducible rfl)
                        (try simp only [Act.put, List.setIfInBounds_toArray, List.set_cons_zero, List.set_cons_succ])
                        (refine wpAnyH_take (i := 1) (oi := { dst := some 94, op := Go.Op.move (Go.Operand.tmp 16), type := 22, pos := "ref.go:75", after := #[], guard := none }) (v := ?_) rfl (by kernel_rfl) (by kernel_rfl) (by kernel_rfl) (fun _ _ _ h => h) (Or.inl ⟨by rfl, ?_⟩) HX.out ?_); rotate_left
                        · (intro w' hSw; obtain ⟨h0, h1, h2, h3, h4, h5, h6, _⟩ := hSw; go_simp; try with_reducible rfl)
                        (try simp only [Act.put, List.setIfInBounds_toArray, List.set_cons_zero, List.set_cons_succ])
                        (refine wpAnyH_take (i := 2) (oi := { dst := some 95, op := Go.Op.move (Go.Operand.tmp 17), type := 3, pos := "ref.go:75", after := #[], guard := none }) (v := ?_) rfl (by kernel_rfl) (by kernel_rfl) (by kernel_rfl) (fun _ _ _ h => h) (Or.inl ⟨by rfl, ?_⟩) HX.out ?_); rotate_left
                        · (intro w' hSw; obtain ⟨h0, h1, h2, h3, h4, h5, h6, _⟩ := hSw; go_simp; try with_reducible rfl)
                        (try simp only [Act.put, List.setIfInBounds_toArray, List.set_cons_zero, List.set_cons_succ])
                        (refine wpAnyH_take (i := 3) (oi := { dst := some 96, op := Go.Op.indexAddr 22 (Go.Operand.tmp 94) (Go.Operand.tmp 95), type := 0, pos := "ref.go:75", after := #[{ on := 1, ground := Go.Ground.data }, { on := 2, ground := Go.Ground.data }], guard := none }) (v := ?_) rfl (by kernel_rfl) (by kernel_rfl) (by kernel_rfl) (fun _ _ _ h => h) (Or.inl ⟨by rfl, ?_⟩) HX.out ?_); rotate_left
                        · (intro w' hSw; obtain ⟨h0, h1, h2, h3, h4, h5, h6, _⟩ := hSw; go_simp; try with_reducible rfl)
                        (try simp only [Act.put, List.setIfInBounds_toArray, List.set_cons_zero, List.set_cons_succ])
                        (refine wpAnyH_take (i := 4) (oi := { dst := some 97, op := Go.Op.load 3 (Go.Operand.tmp 96), type := 3, pos := "ref.go:75", after := #[{ on := 3, ground := Go.Ground.data }], guard := none }) (v := ?_) rfl (by kernel_rfl) (by kernel_rfl) (by kernel_rfl) (fun _ _ _ h => h) (Or.inl ⟨by rfl, ?_⟩) HX.out ?_); rotate_left
                        · (intro w' hSw; obtain ⟨h0, h1, h2, h3, h4, h5, h6, _⟩ := hSw; go_simp; try with_reducible rfl)
                        (try simp only [Act.put, List.setIfInBounds_toArray, List.set_cons_zero, List.set_cons_succ])
                        refine wpAnyH_ready (rs := [5]) (by kernel_rfl) (by simp) ?_
                        refine AllReadyH.cons (o := { dst := some 98, op := Go.Op.call { callee := Go.Callee.value (Go.Operand.func 24), args := #[Go.Operand.tmp 93, Go.Operand.tmp 97], argTypes := #[36, 3] }, type := 5, pos := "ref.go:75", after := #[{ on := 0, ground := Go.Ground.data }, { on := 4, ground := Go.Ground.data }], guard := none }) (by kernel_rfl) (fun K hK => ?_) AllReadyH.nil
                        go_simp
                        refine (HIS.out _).mono ?_
                        rintro e WB ⟨rfl, hE⟩
                        have HX := Lib.hid (HX.out.next hE)
                        clear hE
                        (try go_wp2_with fail)
                        refine hK.out _ _ HX.out (fun _ => ?_)
                        clear hK K
                        (try simp only [Act.put, List.setIfInBounds_toArray, List.set_cons_zero, List.set_cons_succ])
                        (refine wpAnyH_take (i := 6) (oi := { dst := some 99, op := Go.Op.binOp Go.BinOp.neq 5 (Go.Operand.tmp 98) (Go.Operand.const (Go.Value.int Go.IntKind.u8 0)) 5, type := 4, pos := "ref.go:75", after := #[{ on := 5, ground := Go.Ground.data }], guard := none }) (v := ?_) rfl (by kernel_rfl) (by kernel_rfl) (by kernel_rfl) (fun _ _ _ h => h) (Or.inl ⟨by rfl, ?_⟩) HX.out ?_); rotate_left
                        · (intro w' hSw; obtain ⟨h0, h1, h2, h3, h4, h5, h6, _⟩ := hSw; go_simp; try with_reducible rfl)
                        (try simp only [Act.put, List.setIfInBounds_toArray, List.set_cons_zero, List.set_cons_succ])
                        (refine wpAnyH_take (i := 7) (oi := { dst := some 100, op := Go.Op.move (Go.Operand.tmp 99), type := 4, pos := "ref.go:75", after := #[{ on := 6, ground := Go.Ground.data }, { on := 5, ground := Go.Ground.chain }], guard := none }) (v := ?_) rfl (by kernel_rfl) (by kernel_rfl) (by kernel_rfl) (fun _ _ _ h => h) (Or.inl ⟨by rfl, ?_⟩) HX.out ?_); rotate_left
                        · (intro w' hSw; obtain ⟨h0, h1, h2, h3, h4, h5, h6, _⟩ := hSw; go_simp; try with_reducible rfl)
                        (try simp only [Act.put, List.setIfInBounds_toArray, List.set_cons_zero, List.set_cons_succ])
                        (refine wpAnyH_take (i := 8) (oi := { dst := some 101, op := Go.Op.move (Go.Operand.tmp 1), type := 22, pos := "ref.go:75", after := #[{ on := 7, ground := Go.Ground.guard }], guard := some (7, false) }) (v := ?_) rfl (by kernel_rfl) (by kernel_rfl) (by kernel_rfl) (fun _ _ _ h => h) (Or.inl ⟨by rfl, ?_⟩) HX.out ?_); rotate_left
                        · (intro w' hSw; obtain ⟨h0, h1, h2, h3, h4, h5, h6, _⟩ := hSw; go_simp; try with_reducible rfl)
                        (try simp only [Act.put, List.setIfInBounds_toArray, List.set_cons_zero, List.set_cons_succ])
                        (refine wpAnyH_take (i := 9) (oi := { dst := some 102, op := Go.Op.move (Go.Operand.tmp 16), type := 22, pos := "ref.go:75", after := #[{ on := 7, ground := Go.Ground.guard }], guard := some (7, false) }) (v := ?_) rfl (by kernel_rfl) (by kernel_rfl) (by kernel_rfl) (fun _ _ _ h => h) (Or.inl ⟨by rfl, ?_⟩) HX.out ?_); rotate_left
                        · (intro w' hSw; obtain ⟨h0, h1, h2, h3, h4, h5, h6, _⟩ := hSw; go_simp; try with_reducible rfl)
                        (try simp only [Act.put, List.setIfInBounds_toArray, List.set_cons_zero, List.set_cons_succ])
                        (refine wpAnyH_take (i := 10) (oi := { dst := some 103, op := Go.Op.move (Go.Operand.tmp 17), type := 3, pos := "ref.go:75", after := #[{ on := 7, ground := Go.Ground.guard }], guard := some (7, false) }) (v := ?_) rfl (by kernel_rfl) (by kernel_rfl) (by kernel_rfl) (fun _ _ _ h => h) (Or.inl ⟨by rfl, ?_⟩) HX.out ?_); rotate_left
                        · (intro w' hSw; obtain ⟨h0, h1, h2, h3, h4, h5, h6, _⟩ := hSw; go_simp; try with_reducible rfl)
                        (try simp only [Act.put, List.setIfInBounds_toArray, List.set_cons_zero, List.set_cons_succ])
                        (refine wpAnyH_take (i := 11) (oi := { dst := some 104, op := Go.Op.indexAddr 22 (Go.Operand.tmp 102) (Go.Operand.tmp 103), type := 0, pos := "ref.go:75", after := #[{ on := 9, ground := Go.Ground.data }, { on := 10, ground := Go.Ground.data }, { on := 7, ground := Go.Ground.guard }], guard := some (7, false) }) (v := ?_) rfl (by kernel_rfl) (by kernel_rfl) (by kernel_rfl) (fun _ _ _ h => h) (Or.inl ⟨by rfl, ?_⟩) HX.out ?_); rotate_left
                        · (intro w' hSw; obtain ⟨h0, h1, h2, h3, h4, h5, h6, _⟩ := hSw; go_simp; try with_reducible rfl)
                        (try simp only [Act.put, List.setIfInBounds_toArray, List.set_cons_zero, List.set_cons_succ])
                        (refine wpAnyH_take (i := 12) (oi := { dst := some 105, op := Go.Op.load 3 (Go.Operand.tmp 104), type := 3, pos := "ref.go:75", after := #[{ on := 11, ground := Go.Ground.data }, { on := 7, ground := Go.Ground.guard }], guard := some (7, false) }) (v := ?_) rfl (by kernel_rfl) (by kernel_rfl) (by kernel_rfl) (fun _ _ _ h => h) (Or.inl ⟨by rfl, ?_⟩) HX.out ?_); rotate_left
                        · (intro w' hSw; obtain ⟨h0, h1, h2, h3, h4, h5, h6, _⟩ := hSw; go_simp; try with_reducible rfl)
                        (try simp only [Act.put, List.setIfInBounds_toArray, List.set_cons_zero, List.set_cons_succ])
                        refine wpAnyH_ready (rs := [13]) (by kernel_rfl) (by simp) ?_
                        refine AllReadyH.cons (o := { dst := some 106, op := Go.Op.call { callee := Go.Callee.value (Go.Operand.func 25), args := #[Go.Operand.tmp 101, Go.Operand.tmp 105], argTypes := #[22, 3] }, type := 4, pos := "ref.go:75", after := #[{ on := 8, ground := Go.Ground.data }, { on := 12, ground := Go.Ground.data }, { on := 7, ground := Go.Ground.chain }, { on := 7, ground := Go.Ground.guard }], guard := some (7, false) }) (by kernel_rfl) (fun K hK => ?_) AllReadyH.nil
                        go_simp
                        refine (HIN.out _ HX.out.le).mono ?_
                        rintro e WC ⟨rfl, rfl⟩
                        (try go_wp2_with fail)
                        refine hK.out _ _ HX.out (fun _ => ?_)
                        clear hK K
                        (try simp only [Act.put, List.setIfInBounds_toArray, List.set_cons_zero, List.set_cons_succ])
                        (refine wpAnyH_take (i := 14) (oi := { dst := some 107, op := Go.Op.pick (Go.Operand.tmp 100) (Go.Operand.const (Go.Value.bool true)) (Go.Operand.tmp 106), type := 4, pos := "ref.go:75", after := #[{ on := 7, ground := Go.Ground.data }, { on := 13, ground := Go.Ground.data }], guard := none }) (v := ?_) rfl (by kernel_rfl) (by kernel_rfl) (by kernel_rfl) (fun _ _ _ h => h) (Or.inl ⟨by rfl, ?_⟩) HX.out ?_); rotate_left
                        · (intro w' hSw; obtain ⟨h0, h1, h2, h3, h4, h5, h6, _⟩ := hSw; go_simp; try with_reducible rfl)
                        (try simp only [Act.put, List.setIfInBounds_toArray, List.set_cons_zero, List.set_cons_succ])
                        (refine wpAnyH_take (i := 15) (oi := { dst := some 108, op := Go.Op.move (Go.Operand.tmp 107), type := 4, pos := "ref.go:75", after := #[{ on := 14, ground := Go.Ground.data }, { on := 13, ground := Go.Ground.chain }], guard := none }) (v := ?_) rfl (by kernel_rfl) (by kernel_rfl) (by kernel_rfl) (fun _ _ _ h => h) (Or.inl ⟨by rfl, ?_⟩) HX.out ?_); rotate_left
                        · (intro w' hSw; obtain ⟨h0, h1, h2, h3, h4, h5, h6, _⟩ := hSw; go_simp; try with_reducible rfl)
                        (try simp only [Act.put, List.setIfInBounds_toArray, List.set_cons_zero, List.set_cons_succ])
                        (refine wpAnyH_take (i := 16) (oi := { dst := some 109, op := Go.Op.fieldAddr 57 (Go.Operand.tmp 18) 0, type := 0, pos := "ref.go:75", after := #[{ on := 15, ground := Go.Ground.guard }], guard := some (15, false) }) (v := ?_) rfl (by kernel_rfl) (by kernel_rfl) (by kernel_rfl) (fun _ _ _ h => h) (Or.inl ⟨by rfl, ?_⟩) HX.out ?_); rotate_left
                        · (intro w' hSw; obtain ⟨h0, h1, h2, h3, h4, h5, h6, _⟩ := hSw; go_simp; try with_reducible rfl)
                        (try simp only [Act.put, List.setIfInBounds_toArray, List.set_cons_zero, List.set_cons_succ])
                        (refine wpAnyH_take (i := 17) (oi := { dst := some 110, op := Go.Op.load 4 (Go.Operand.tmp 109), type := 4, pos := "ref.go:75", after := #[{ on := 16, ground := Go.Ground.data }, { on := 15, ground := Go.Ground.guard }], guard := some (15, false) }) (v := ?_) rfl (by kernel_rfl) (by kernel_rfl) (by kernel_rfl) (fun _ _ _ h => h) (Or.inl ⟨by rfl, ?_⟩) HX.out ?_); rotate_left
                        · (intro w' hSw; obtain ⟨h0, h1, h2, h3, h4, h5, h6, _⟩ := hSw; go_simp; try with_reducible rfl)
                        (try simp only [Act.put, List.setIfInBounds_toArray, List.set_cons_zero, List.set_cons_succ])
                        (refine wpAnyH_take (i := 18) (oi := { dst := some 111, op := Go.Op.move (Go.Operand.tmp 110), type := 4, pos := "ref.go:75", after := #[{ on := 17, ground := Go.Ground.data }, { on := 15, ground := Go.Ground.chain }, { on := 15, ground := Go.Ground.guard }], guard := some (15, false) }) (v := ?_) rfl (by kernel_rfl) (by kernel_rfl) (by kernel_rfl) (fun _ _ _ h => h) (Or.inl ⟨by rfl, ?_⟩) HX.out ?_); rotate_left
                        · (intro w' hSw; obtain ⟨h0, h1, h2, h3, h4, h5, h6, _⟩ := hSw; go_simp; try with_reducible rfl)
                        (try simp only [Act.put, List.setIfInBounds_toArray, List.set_cons_zero, List.set_cons_succ])
                        (refine wpAnyH_take (i := 19) (oi := { dst := some 112, op := Go.Op.fieldAddr 57 (Go.Operand.tmp 18) 2, type := 0, pos := "ref.go:75", after := #[{ on := 18, ground := Go.Ground.guard }], guard := some (18, true) }) (v := ?_) rfl (by kernel_rfl) (by kernel_rfl) (by kernel_rfl) (fun _ _ _ h => h) (Or.inl ⟨by rfl, ?_⟩) HX.out ?_); rotate_left
                        · (intro w' hSw; obtain ⟨h0, h1, h2, h3, h4, h5, h6, _⟩ := hSw; go_simp; try with_reducible rfl)
                        (try simp only [Act.put, List.setIfInBounds_toArray, List.set_cons_zero, List.set_cons_succ])
                        (refine wpAnyH_take (i := 20) (oi := { dst := some 113, op := Go.Op.load 3 (Go.Operand.tmp 112), type := 3, pos := "ref.go:75", after := #[{ on := 19, ground := Go.Ground.data }, { on := 18, ground := Go.Ground.guard }], guard := some (18, true) }) (v := ?_) rfl (by kernel_rfl) (by kernel_rfl) (by kernel_rfl) (fun _ _ _ h => h) (Or.inl ⟨by rfl, ?_⟩) HX.out ?_); rotate_left
                        · (intro w' hSw; obtain ⟨h0, h1, h2, h3, h4, h5, h6, _⟩ := hSw; go_simp; try with_reducible rfl)
                        (try simp only [Act.put, List.setIfInBounds_toArray, List.set_cons_zero, List.set_cons_succ])
                        (refine wpAnyH_take (i := 21) (oi := { dst := some 114, op := Go.Op.move (Go.Operand.tmp 12), type := 55, pos := "ref.go:75", after := #[{ on := 18, ground := Go.Ground.guard }], guard := some (18, true) }) (v := ?_) rfl (by kernel_rfl) (by kernel_rfl) (by kernel_rfl) (fun _ _ _ h => h) (Or.inl ⟨by rfl, ?_⟩) HX.out ?_); rotate_left
                        · (intro w' hSw; obtain ⟨h0, h1, h2, h3, h4, h5, h6, _⟩ := hSw; go_simp; try with_reducible rfl)
                        (try simp only [Act.put, List.setIfInBounds_toArray, List.set_cons_zero, List.set_cons_succ])
                        (refine wpAnyH_take (i := 22) (oi := { dst := some 115, op := Go.Op.move (Go.Operand.tmp 14), type := 3, pos := "ref.go:75", after := #[{ on := 18, ground := Go.Ground.guard }], guard := some (18, true) }) (v := ?_) rfl (by kernel_rfl) (by kernel_rfl) (by kernel_rfl) (fun _ _ _ h => h) (Or.inl ⟨by rfl, ?_⟩) HX.out ?_); rotate_left
                        · (intro w' hSw; obtain ⟨h0, h1, h2, h3, h4, h5, h6, _⟩ := hSw; go_simp; try with_reducible rfl)
                        (try simp only [Act.put, List.setIfInBounds_toArray, List.set_cons_zero, List.set_cons_succ])
                        (refine wpAnyH_take (i := 23) (oi := { dst := some 116, op := Go.Op.indexAddr 55 (Go.Operand.tmp 114) (Go.Operand.tmp 115), type := 0, pos := "ref.go:75", after := #[{ on := 21, ground := Go.Ground.data }, { on := 22, ground := Go.Ground.data }, { on := 18, ground := Go.Ground.guard }], guard := some (18, true) }) (v := ?_) rfl (by kernel_rfl) (by kernel_rfl) (by kernel_rfl) (fun _ _ _ h => h) (Or.inl ⟨by rfl, ?_⟩) HX.out ?_); rotate_left
                        · (intro w' hSw; obtain ⟨h0, h1, h2, h3, h4, h5, h6, _⟩ := hSw; go_simp; try with_reducible rfl)
                        (try simp only [Act.put, List.setIfInBounds_toArray, List.set_cons_zero, List.set_cons_succ])
                        (refine wpAnyH_take (i := 24) (oi := { dst := some 117, op := Go.Op.fieldAddr 57 (Go.Operand.tmp 116) 2, type := 0, pos := "ref.go:75", after := #[{ on := 23, ground := Go.Ground.data }, { on := 18, ground := Go.Ground.guard }], guard := some (18, true) }) (v := ?_) rfl (by kernel_rfl) (by kernel_rfl) (by kernel_rfl) (fun _ _ _ h => h) (Or.inl ⟨by rfl, ?_⟩) HX.out ?_); rotate_left
                        · (intro w' hSw; obtain ⟨h0, h1, h2, h3, h4, h5, h6, _⟩ := hSw; go_simp; try with_reducible rfl)
                        (try simp only [Act.put, List.setIfInBounds_toArray, List.set_cons_zero, List.set_cons_succ])
                        (refine wpAnyH_take (i := 25) (oi := { dst := some 118, op := Go.Op.load 3 (Go.Operand.tmp 117), type := 3, pos := "ref.go:75", after := #[{ on := 24, ground := Go.Ground.data }, { on := 18, ground := Go.Ground.guard }], guard := some (18, true) }) (v := ?_) rfl (by kernel_rfl) (by kernel_rfl) (by kernel_rfl) (fun _ _ _ h => h) (Or.inl ⟨by rfl, ?_⟩) HX.out ?_); rotate_left
                        · (intro w' hSw; obtain ⟨h0, h1, h2, h3, h4, h5, h6, _⟩ := hSw; go_simp; try with_reducible rfl)
                        (try simp only [Act.put, List.setIfInBounds_toArray, List.set_cons_zero, List.set_cons_succ])
                        (refine wpAnyH_take (i := 26) (oi := { dst := some 119, op := Go.Op.binOp Go.BinOp.add 3 (Go.Operand.tmp 118) (Go.Operand.const (Go.Value.int Go.IntKind.i64 1)) 3, type := 3, pos := "ref.go:75", after := #[{ on := 25, ground := Go.Ground.data }, { on := 18, ground := Go.Ground.guard }], guard := some (18, true) }) (v := ?_) rfl (by kernel_rfl) (by kernel_rfl) (by kernel_rfl) (fun _ _ _ h => h) (Or.inl ⟨by rfl, ?_⟩) HX.out ?_); rotate_left
                        · (intro w' hSw; obtain ⟨h0, h1, h2, h3, h4, h5, h6, _⟩ := hSw; go_simp; try with_reducible rfl)
                        (try simp only [Act.put, List.setIfInBounds_toArray, List.set_cons_zero, List.set_cons_succ])
                        (refine wpAnyH_take (i := 27) (oi := { dst := some 120, op := Go.Op.binOp Go.BinOp.leq 3 (Go.Operand.tmp 113) (Go.Operand.tmp 119) 3, type := 4, pos := "ref.go:75", after := #[{ on := 20, ground := Go.Ground.data }, { on := 26, ground := Go.Ground.data }, { on := 18, ground := Go.Ground.guard }], guard := some (18, true) }) (v := ?_) rfl (by kernel_rfl) (by kernel_rfl) (by kernel_rfl) (fun _ _ _ h => h) (Or.inl ⟨by rfl, ?_⟩) HX.out ?_); rotate_left
                        · (intro w' hSw; obtain ⟨h0, h1, h2, h3, h4, h5, h6, _⟩ := hSw; go_simp; try with_reducible rfl)
                        (try simp only [Act.put, List.setIfInBounds_toArray, List.set_cons_zero, List.set_cons_succ])
                        (refine wpAnyH_take (i := 28) (oi := { dst := some 121, op := Go.Op.pick (Go.Operand.tmp 111) (Go.Operand.tmp 120) (Go.Operand.const (Go.Value.bool false)), type := 4, pos := "ref.go:75", after := #[{ on := 18, ground := Go.Ground.data }, { on := 27, ground := Go.Ground.data }, { on := 15, ground := Go.Ground.guard }], guard := some (15, false) }) (v := ?_) rfl (by kernel_rfl) (by kernel_rfl) (by kernel_rfl) (fun _ _ _ h => h) (Or.inl ⟨by rfl, ?_⟩) HX.out ?_); rotate_left
                        · (intro w' hSw; obtain ⟨h0, h1, h2, h3, h4, h5, h6, _⟩ := hSw; go_simp; try with_reducible rfl)
                        (try simp only [Act.put, List.setIfInBounds_toArray, List.set_cons_zero, List.set_cons_succ])
                        (refine wpAnyH_take (i := 29) (oi := { dst := some 122, op := Go.Op.pick (Go.Operand.tmp 108) (Go.Operand.const (Go.Value.bool true)) (Go.Operand.tmp 121), type := 4, pos := "ref.go:75", after := #[{ on := 15, ground := Go.Ground.data }, { on := 28, ground := Go.Ground.data }], guard := none }) (v := ?_) rfl (by kernel_rfl) (by kernel_rfl) (by kernel_rfl) (fun _ _ _ h => h) (Or.inl ⟨by rfl, ?_⟩) HX.out ?_); rotate_left
                        · (intro w' hSw; obtain ⟨h0, h1, h2, h3, h4, h5, h6, _⟩ := hSw; go_simp; try with_reducible rfl)
                        (try simp only [Act.put, List.setIfInBounds_toArray, List.set_cons_zero, List.set_cons_succ])
                        refine wpAnyH_done (by kernel_rfl) ?_ _
                        go_wp2_with fail
                        go_meet
                        exact ⟨by first | rfl | (simp [x2]; done) | (simp [x2]; omega), HX.out.le⟩
                      · have x1 : ¬ (gx : Int) ≤ ((g + 1 : Nat) : Int) := by omega
                        have x2 : decide (gx ≤ g + 1) = false := decide_eq_false hle
                        refine wp_region_held_drew (S := SP GB gl D G j t W H x gx g T true wD) hmxP HX0.out (fun _ => ?_)
                        have HX := Lib.hid HX0.out
                        generalize wD.drew = WA at *
                        (refine wpAnyH_take (i := 0) (oi := { dst := some 93, op := Go.Op.load 36 (Go.Operand.tmp 5), type := 36, pos := "ref.go:75", after := #[], guard := none }) (v := ?_) rfl (by kernel_rfl) (by kernel_rfl) (by kernel_rfl) (fun _ _ _ h => h) (Or.inl ⟨by rfl, ?_⟩) HX.out ?_); rotate_left
                        · (intro w' hSw; obtain ⟨h0, h1, h2, h3, h4, h5, h6, _⟩ := hSw; go_simp; try with_reducible rfl)
                        (try simp only [Act.put, List.setIfInBounds_toArray, List.set_cons_zero, List.set_cons_succ])
                        (refine wpAnyH_take (i := 1) (oi := { dst := some 94, op := Go.Op.move (Go.Operand.tmp 16), type := 22, pos := "ref.go:75", after := #[], guard := none }) (v := ?_) rfl (by kernel_rfl) (by kernel_rfl) (by kernel_rfl) (fun _ _ _ h => h) (Or.inl ⟨by rfl, ?_⟩) HX.out ?_); rotate_left
                        · (intro w' hSw; obtain ⟨h0, h1, h2, h3, h4, h5, h6, _⟩ := hSw; go_simp; try with_reducible rfl)
                        (try simp only [Act.put, List.setIfInBounds_toArray, List.set_cons_zero, List.set_cons_succ])
                        (refine wpAnyH_take (i := 2) (oi := { dst := some 95, op := Go.Op.move (Go.Operand.tmp 17), type := 3, pos := "ref.go:75", after := #[], guard := none }) (v := ?_) rfl (by kernel_rfl) (by kernel_rfl) (by kernel_rfl) (fun _ _ _ h => h) (Or.inl ⟨by rfl, ?_⟩) HX.out ?_); rotate_left
                        · (intro w' hSw; obtain ⟨h0, h1, h2, h3, h4, h5, h6, _⟩ := hSw; go_simp; try with_reducible rfl)
                        (try simp only [Act.put, List.setIfInBounds_toArray, List.set_cons_zero, List.set_cons_succ])
                        (refine wpAnyH_take (i := 3) (oi := { dst := some 96, op := Go.Op.indexAddr 22 (Go.Operand.tmp 94) (Go.Operand.tmp 95), type := 0, pos := "ref.go:75", after := #[{ on := 1, ground := Go.Ground.data }, { on := 2, ground := Go.Ground.data }], guard := none }) (v := ?_) rfl (by kernel_rfl) (by kernel_rfl) (by kernel_rfl) (fun _ _ _ h => h) (Or.inl ⟨by rfl, ?_⟩) HX.out ?_); rotate_left
                        · (intro w' hSw; obtain ⟨h0, h1, h2, h3, h4, h5, h6, _⟩ := hSw; go_simp; try with_reducible rfl)
                        (try simp only [Act.put, List.setIfInBounds_toArray, List.set_cons_zero, List.set_cons_succ])
                        (refine wpAnyH_take (i := 4) (oi := { dst := some 97, op := Go.Op.load 3 (Go.Operand.tmp 96), type := 3, pos := "ref.go:75", after := #[{ on := 3, ground := Go.Ground.data }], guard := none }) (v := ?_) rfl (by kernel_rfl) (by kernel_rfl) (by kernel_rfl) (fun _ _ _ h => h) (Or.inl ⟨by rfl, ?_⟩) HX.out ?_); rotate_left
                        · (intro w' hSw; obtain ⟨h0, h1, h2, h3, h4, h5, h6, _⟩ := hSw; go_simp; try with_reducible rfl)
                        (try simp only [Act.put, List.setIfInBounds_toArray, List.set_cons_zero, List.set_cons_succ])
                        refine wpAnyH_ready (rs := [5]) (by kernel_rfl) (by simp) ?_
                        refine AllReadyH.cons (o := { dst := some 98, op := Go.Op.call { callee := Go.Callee.value (Go.Operand.func 24), args := #[Go.Operand.tmp 93, Go.Operand.tmp 97], argTypes := #[36, 3] }, type := 5, pos := "ref.go:75", after := #[{ on := 0, ground := Go.Ground.data }, { on := 4, ground := Go.Ground.data }], guard := none }) (by kernel_rfl) (fun K hK => ?_) AllReadyH.nil
                        go_simp
                        refine (HIS.out _).mono ?_
                        rintro e WB ⟨rfl, hE⟩
                        have HX := Lib.hid (HX.out.next hE)
                        clear hE
                        (try go_wp2_with fail)
                        refine hK.out _ _ HX.out (fun _ => ?_)
                        clear hK K
                        (try simp only [Act.put, List.setIfInBounds_toArray, List.set_cons_zero, List.set_cons_succ])
                        (refine wpAnyH_take (i := 6) (oi := { dst := some 99, op := Go.Op.binOp Go.BinOp.neq 5 (Go.Operand.tmp 98) (Go.Operand.const (Go.Value.int Go.IntKind.u8 0)) 5, type := 4, pos := "ref.go:75", after := #[{ on := 5, ground := Go.Ground.data }], guard := none }) (v := ?_) rfl (by kernel_rfl) (by kernel_rfl) (by kernel_rfl) (fun _ _ _ h => h) (Or.inl ⟨by rfl, ?_⟩) HX.out ?_); rotate_left
                        · (intro w' hSw; obtain ⟨h0, h1, h2, h3, h4, h5, h6, _⟩ := hSw; go_simp; try with_reducible rfl)
                        (try simp only [Act.put, List.setIfInBounds_toArray, List.set_cons_zero, List.set_cons_succ])
                        (refine wpAnyH_take (i := 7) (oi := { dst := some 100, op := Go.Op.move (Go.Operand.tmp 99), type := 4, pos := "ref.go:75", after := #[{ on := 6, ground := Go.Ground.data }, { on := 5, ground := Go.Ground.chain }], guard := none }) (v := ?_) rfl (by kernel_rfl) (by kernel_rfl) (by kernel_rfl) (fun _ _ _ h => h) (Or.inl ⟨by rfl, ?_⟩) HX.out ?_); rotate_left
                        · (intro w' hSw; obtain ⟨h0, h1, h2, h3, h4, h5, h6, _⟩ := hSw; go_simp; try with_reducible rfl)
                        (try simp only [Act.put, List.setIfInBounds_toArray, List.set_cons_zero, List.set_cons_succ])
                        (refine wpAnyH_take (i := 8) (oi := { dst := some 101, op := Go.Op.move (Go.Operand.tmp 1), type := 22, pos := "ref.go:75", after := #[{ on := 7, ground := Go.Ground.guard }], guard := some (7, false) }) (v := ?_) rfl (by kernel_rfl) (by kernel_rfl) (by kernel_rfl) (fun _ _ _ h => h) (Or.inl ⟨by rfl, ?_⟩) HX.out ?_); rotate_left
                        · (intro w' hSw; obtain ⟨h0, h1, h2, h3, h4, h5, h6, _⟩ := hSw; go_simp; try with_reducible rfl)
                        (try simp only [Act.put, List.setIfInBounds_toArray, List.set_cons_zero, List.set_cons_succ])
                        (refine wpAnyH_take (i := 9) (oi := { dst := some 102, op := Go.Op.move (Go.Operand.tmp 16), type := 22, pos := "ref.go:75", after := #[{ on := 7, ground := Go.Ground.guard }], guard := some (7, false) }) (v := ?_) rfl (by kernel_rfl) (by kernel_rfl) (by kernel_rfl) (fun _ _ _ h => h) (Or.inl ⟨by rfl, ?_⟩) HX.out ?_); rotate_left
                        · (intro w' hSw; obtain ⟨h0, h1, h2, h3, h4, h5, h6, _⟩ := hSw; go_simp; try with_reducible rfl)
                        (try simp only [Act.put, List.setIfInBounds_toArray, List.set_cons_zero, List.set_cons_succ])
                        (refine wpAnyH_take (i := 10) (oi := { dst := some 103, op := Go.Op.move (Go.Operand.tmp 17), type := 3, pos := "ref.go:75", after := #[{ on := 7, ground := Go.Ground.guard }], guard := some (7, false) }) (v := ?_) rfl (by kernel_rfl) (by kernel_rfl) (by kernel_rfl) (fun _ _ _ h => h) (Or.inl ⟨by rfl, ?_⟩) HX.out ?_); rotate_left
                        · (intro w' hSw; obtain ⟨h0, h1, h2, h3, h4, h5, h6, _⟩ := hSw; go_simp; try with_reducible rfl)
                        (try simp only [Act.put, List.setIfInBounds_toArray, List.set_cons_zero, List.set_cons_succ])
                        (refine wpAnyH_take (i := 11) (oi := { dst := some 104, op := Go.Op.indexAddr 22 (Go.Operand.tmp 102) (Go.Operand.tmp 103), type := 0, pos := "ref.go:75", after := #[{ on := 9, ground := Go.Ground.data }, { on := 10, ground := Go.Ground.data }, { on := 7, ground := Go.Ground.guard }], guard := some (7, false) }) (v := ?_) rfl (by kernel_rfl) (by kernel_rfl) (by kernel_rfl) (fun _ _ _ h => h) (Or.inl ⟨by rfl, ?_⟩) HX.out ?_); rotate_left
                        · (intro w' hSw; obtain ⟨h0, h1, h2, h3, h4, h5, h6, _⟩ := hSw; go_simp; try with_reducible rfl)
                        (try simp only [Act.put, List.setIfInBounds_toArray, List.set_cons_zero, List.set_cons_succ])
                        (refine wpAnyH_take (i := 12) (oi := { dst := some 105, op := Go.Op.load 3 (Go.Operand.tmp 104), type := 3, pos := "ref.go:75", after := #[{ on := 11, ground := Go.Ground.data }, { on := 7, ground := Go.Ground.guard }], guard := some (7, false) }) (v := ?_) rfl (by kernel_rfl) (by kernel_rfl) (by kernel_rfl) (fun _ _ _ h => h) (Or.inl ⟨by rfl, ?_⟩) HX.out ?_); rotate_left
                        · (intro w' hSw; obtain ⟨h0, h1, h2, h3, h4, h5, h6, _⟩ := hSw; go_simp; try with_reducible rfl)
                        (try simp only [Act.put, List.setIfInBounds_toArray, List.set_cons_zero, List.set_cons_succ])
                        refine wpAnyH_ready (rs := [13]) (by kernel_rfl) (by simp) ?_
                        refine AllReadyH.cons (o := { dst := some 106, op := Go.Op.call { callee := Go.Callee.value (Go.Operand.func 25), args := #[Go.Operand.tmp 101, Go.Operand.tmp 105], argTypes := #[22, 3] }, type := 4, pos := "ref.go:75", after := #[{ on := 8, ground := Go.Ground.data }, { on := 12, ground := Go.Ground.data }, { on := 7, ground := Go.Ground.chain }, { on := 7, ground := Go.Ground.guard }], guard := some (7, false) }) (by kernel_rfl) (fun K hK => ?_) AllReadyH.nil
                        go_simp
                        refine (HIN.out _ HX.out.le).mono ?_
                        rintro e WC ⟨rfl, rfl⟩
                        (try go_wp2_with fail)
                        refine hK.out _ _ HX.out (fun _ => ?_)
                        clear hK K
                        (try simp only [Act.put, List.setIfInBounds_toArray, List.set_cons_zero, List.set_cons_succ])
                        (refine wpAnyH_take (i := 14) (oi := { dst := some 107, op := Go.Op.pick (Go.Operand.tmp 100) (Go.Operand.const (Go.Value.bool true)) (Go.Operand.tmp 106), type := 4, pos := "ref.go:75", after := #[{ on := 7, ground := Go.Ground.data }, { on := 13, ground := Go.Ground.data }], guard := none }) (v := ?_) rfl (by kernel_rfl) (by kernel_rfl) (by kernel_rfl) (fun _ _ _ h => h) (Or.inl ⟨by rfl, ?_⟩) HX.out ?_); rotate_left
                        · (intro w' hSw; obtain ⟨h0, h1, h2, h3, h4, h5, h6, _⟩ := hSw; go_simp; try with_reducible rfl)
                        (try simp only [Act.put, List.setIfInBounds_toArray, List.set_cons_zero, List.set_cons_succ])
                        (refine wpAnyH_take (i := 15) (oi := { dst := some 108, op := Go.Op.move (Go.Operand.tmp 107), type := 4, pos := "ref.go:75", after := #[{ on := 14, ground := Go.Ground.data }, { on := 13, ground := Go.Ground.chain }], guard := none }) (v := ?_) rfl (by kernel_rfl) (by kernel_rfl) (by kernel_rfl) (fun _ _ _ h => h) (Or.inl ⟨by rfl, ?_⟩) HX.out ?_); rotate_left
                        · (intro w' hSw; obtain ⟨h0, h1, h2, h3, h4, h5, h6, _⟩ := hSw; go_simp; try with_reducible rfl)
                        (try simp only [Act.put, List.setIfInBounds_toArray, List.set_cons_zero, List.set_cons_succ])
                        (refine wpAnyH_take (i := 16) (oi := { dst := some 109, op := Go.Op.fieldAddr 57 (Go.Operand.tmp 18) 0, type := 0, pos := "ref.go:75", after := #[{ on := 15, ground := Go.Ground.guard }], guard := some (15, false) }) (v := ?_) rfl (by kernel_rfl) (by kernel_rfl) (by kernel_rfl) (fun _ _ _ h => h) (Or.inl ⟨by rfl, ?_⟩) HX.out ?_); rotate_left
                        · (intro w' hSw; obtain ⟨h0, h1, h2, h3, h4, h5, h6, _⟩ := hSw; go_simp; try with_reducible rfl)
                        (try simp only [Act.put, List.setIfInBounds_toArray, List.set_cons_zero, List.set_cons_succ])
                        (refine wpAnyH_take (i := 17) (oi := { dst := some 110, op := Go.Op.load 4 (Go.Operand.tmp 109), type := 4, pos := "ref.go:75", after := #[{ on := 16, ground := Go.Ground.data }, { on := 15, ground := Go.Ground.guard }], guard := some (15, false) }) (v := ?_) rfl (by kernel_rfl) (by kernel_rfl) (by kernel_rfl) (fun _ _ _ h => h) (Or.inl ⟨by rfl, ?_⟩) HX.out ?_); rotate_left
                        · (intro w' hSw; obtain ⟨h0, h1, h2, h3, h4, h5, h6, _⟩ := hSw; go_simp; try with_reducible rfl)
                        (try simp only [Act.put, List.setIfInBounds_toArray, List.set_cons_zero, List.set_cons_succ])
                        (refine wpAnyH_take (i := 18) (oi := { dst := some 111, op := Go.Op.move (Go.Operand.tmp 110), type := 4, pos := "ref.go:75", after := #[{ on := 17, ground := Go.Ground.data }, { on := 15, ground := Go.Ground.chain }, { on := 15, ground := Go.Ground.guard }], guard := some (15, false) }) (v := ?_) rfl (by kernel_rfl) (by kernel_rfl) (by kernel_rfl) (fun _ _ _ h => h) (Or.inl ⟨by rfl, ?_⟩) HX.out ?_); rotate_left
                        · (intro w' hSw; obtain ⟨h0, h1, h2, h3, h4, h5, h6, _⟩ := hSw; go_simp; try with_reducible rfl)
                        (try simp only [Act.put, List.setIfInBounds_toArray, List.set_cons_zero, List.set_cons_succ])
                        (refine wpAnyH_take (i := 19) (oi := { dst := some 112, op := Go.Op.fieldAddr 57 (Go.Operand.tmp 18) 2, type := 0, pos := "ref.go:75", after := #[{ on := 18, ground := Go.Ground.guard }], guard := some (18, true) }) (v := ?_) rfl (by kernel_rfl) (by kernel_rfl) (by kernel_rfl) (fun _ _ _ h => h) (Or.inl ⟨by rfl, ?_⟩) HX.out ?_); rotate_left
                        · (intro w' hSw; obtain ⟨h0, h1, h2, h3, h4, h5, h6, _⟩ := hSw; go_simp; try with_reducible rfl)
                        (try simp only [Act.put, List.setIfInBounds_toArray, List.set_cons_zero, List.set_cons_succ])
                        (refine wpAnyH_take (i := 20) (oi := { dst := some 113, op := Go.Op.load 3 (Go.Operand.tmp 112), type := 3, pos := "ref.go:75", after := #[{ on := 19, ground := Go.Ground.data }, { on := 18, ground := Go.Ground.guard }], guard := some (18, true) }) (v := ?_) rfl (by kernel_rfl) (by kernel_rfl) (by kernel_rfl) (fun _ _ _ h => h) (Or.inl ⟨by rfl, ?_⟩) HX.out ?_); rotate_left
                        · (intro w' hSw; obtain ⟨h0, h1, h2, h3, h4, h5, h6, _⟩ := hSw; go_simp; try with_reducible rfl)
                        (try simp only [Act.put, List.setIfInBounds_toArray, List.set_cons_zero, List.set_cons_succ])
                        (refine wpAnyH_take (i := 21) (oi := { dst := some 114, op := Go.Op.move (Go.Operand.tmp 12), type := 55, pos := "ref.go:75", after := #[{ on := 18, ground := Go.Ground.guard }], guard := some (18, true) }) (v := ?_) rfl (by kernel_rfl) (by kernel_rfl) (by kernel_rfl) (fun _ _ _ h => h) (Or.inl ⟨by rfl, ?_⟩) HX.out ?_); rotate_left
                        · (intro w' hSw; obtain ⟨h0, h1, h2, h3, h4, h5, h6, _⟩ := hSw; go_simp; try with_reducible rfl)
                        (try simp only [Act.put, List.setIfInBounds_toArray, List.set_cons_zero, List.set_cons_succ])
                        (refine wpAnyH_take (i := 22) (oi := { dst := some 115, op := Go.Op.move (Go.Operand.tmp 14), type := 3, pos := "ref.go:75", after := #[{ on := 18, ground := Go.Ground.guard }], guard := some (18, true) }) (v := ?_) rfl (by kernel_rfl) (by kernel_rfl) (by kernel_rfl) (fun _ _ _ h => h) (Or.inl ⟨by rfl, ?_⟩) HX.out ?_); rotate_left
                        · (intro w' hSw; obtain ⟨h0, h1, h2, h3, h4, h5, h6, _⟩ := hSw; go_simp; try with_reducible rfl)
                        (try simp only [Act.put, List.setIfInBounds_toArray, List.set_cons_zero, List.set_cons_succ])
                        (refine wpAnyH_take (i := 23) (oi := { dst := some 116, op := Go.Op.indexAddr 55 (Go.Operand.tmp 114) (Go.Operand.tmp 115), type := 0, pos := "ref.go:75", after := #[{ on := 21, ground := Go.Ground.data }, { on := 22, ground := Go.Ground.data }, { on := 18, ground := Go.Ground.guard }], guard := some (18, true) }) (v := ?_) rfl (by kernel_rfl) (by kernel_rfl) (by kernel_rfl) (fun _ _ _ h => h) (Or.inl ⟨by rfl, ?_⟩) HX.out ?_); rotate_left
                        · (intro w' hSw; obtain ⟨h0, h1, h2, h3, h4, h5, h6, _⟩ := hSw; go_simp; try with_reducible rfl)
                        (try simp only [Act.put, List.setIfInBounds_toArray, List.set_cons_zero, List.set_cons_succ])
                        (refine wpAnyH_take (i := 24) (oi := { dst := some 117, op := Go.Op.fieldAddr 57 (Go.Operand.tmp 116) 2, type := 0, pos := "ref.go:75", after := #[{ on := 23, ground := Go.Ground.data }, { on := 18, ground := Go.Ground.guard }], guard := some (18, true) }) (v := ?_) rfl (by kernel_rfl) (by kernel_rfl) (by kernel_rfl) (fun _ _ _ h => h) (Or.inl ⟨by rfl, ?_⟩) HX.out ?_); rotate_left
                        · (intro w' hSw; obtain ⟨h0, h1, h2, h3, h4, h5, h6, _⟩ := hSw; go_simp; try with_reducible rfl)
                        (try simp only [Act.put, List.setIfInBounds_toArray, List.set_cons_zero, List.set_cons_succ])
                        (refine wpAnyH_take (i := 25) (oi := { dst := some 118, op := Go.Op.load 3 (Go.Operand.tmp 117), type := 3, pos := "ref.go:75", after := #[{ on := 24, ground := Go.Ground.data }, { on := 18, ground := Go.Ground.guard }], guard := some (18, true) }) (v := ?_) rfl (by kernel_rfl) (by kernel_rfl) (by kernel_rfl) (fun _ _ _ h => h) (Or.inl ⟨by rfl, ?_⟩) HX.out ?_); rotate_left
                        · (intro w' hSw; obtain ⟨h0, h1, h2, h3, h4, h5, h6, _⟩ := hSw; go_simp; try with_reducible rfl)
                        (try simp only [Act.put, List.setIfInBounds_toArray, List.set_cons_zero, List.set_cons_succ])
                        (refine wpAnyH_take (i := 26) (oi := { dst := some 119, op := Go.Op.binOp Go.BinOp.add 3 (Go.Operand.tmp 118) (Go.Operand.const (Go.Value.int Go.IntKind.i64 1)) 3, type := 3, pos := "ref.go:75", after := #[{ on := 25, ground := Go.Ground.data }, { on := 18, ground := Go.Ground.guard }], guard := some (18, true) }) (v := ?_) rfl (by kernel_rfl) (by kernel_rfl) (by kernel_rfl) (fun _ _ _ h => h) (Or.inl ⟨by rfl, ?_⟩) HX.out ?_); rotate_left
                        · (intro w' hSw; obtain ⟨h0, h1, h2, h3, h4, h5, h6, _⟩ := hSw; go_simp; try with_reducible rfl)
                        (try simp only [Act.put, List.setIfInBounds_toArray, List.set_cons_zero, List.set_cons_succ])
                        (refine wpAnyH_take (i := 27) (oi := { dst := some 120, op := Go.Op.binOp Go.BinOp.leq 3 (Go.Operand.tmp 113) (Go.Operand.tmp 119) 3, type := 4, pos := "ref.go:75", after := #[{ on := 20, ground := Go.Ground.data }, { on := 26, ground := Go.Ground.data }, { on := 18, ground := Go.Ground.guard }], guard := some (18, true) }) (v := ?_) rfl (by kernel_rfl) (by kernel_rfl) (by kernel_rfl) (fun _ _ _ h => h) (Or.inl ⟨by rfl, ?_⟩) HX.out ?_); rotate_left
                        · (intro w' hSw; obtain ⟨h0, h1, h2, h3, h4, h5, h6, _⟩ := hSw; go_simp; try with_reducible rfl)
                        (try simp only [Act.put, List.setIfInBounds_toArray, List.set_cons_zero, List.set_cons_succ])
                        (refine wpAnyH_take (i := 28) (oi := { dst := some 121, op := Go.Op.pick (Go.Operand.tmp 111) (Go.Operand.tmp 120) (Go.Operand.const (Go.Value.bool false)), type := 4, pos := "ref.go:75", after := #[{ on := 18, ground := Go.Ground.data }, { on := 27, ground := Go.Ground.data }, { on := 15, ground := Go.Ground.guard }], guard := some (15, false) }) (v := ?_) rfl (by kernel_rfl) (by kernel_rfl) (by kernel_rfl) (fun _ _ _ h => h) (Or.inl ⟨by rfl, ?_⟩) HX.out ?_); rotate_left
                        · (intro w' hSw; obtain ⟨h0, h1, h2, h3, h4, h5, h6, _⟩ := hSw; go_simp; try with_reducible rfl)
                        (try simp only [Act.put, List.setIfInBounds_toArray, List.set_cons_zero, List.set_cons_succ])
                        (refine wpAnyH_take (i := 29) (oi := { dst := some 122, op := Go.Op.pick (Go.Operand.tmp 108) (Go.Operand.const (Go.Value.bool true)) (Go.Operand.tmp 121), type := 4, pos := "ref.go:75", after := #[{ on := 15, ground := Go.Ground.data }, { on := 28, ground := Go.Ground.data }], guard := none }) (v := ?_) rfl (by kernel_rfl) (by kernel_rfl) (by kernel_rfl) (fun _ _ _ h => h) (Or.inl ⟨by rfl, ?_⟩) HX.out ?_); rotate_left
                        · (intro w' hSw; obtain ⟨h0, h1, h2, h3, h4, h5, h6, _⟩ := hSw; go_simp; try with_reducible rfl)
                        (try simp only [Act.put, List.setIfInBounds_toArray, List.set_cons_zero, List.set_cons_succ])
                        refine wpAnyH_done (by kernel_rfl) ?_ _
                        go_wp2_with fail
                        go_meet
                        exact ⟨by first | rfl | (simp [x2]; done) | (simp [x2]; omega), HX.out.le⟩
                · have x1 : ¬ (v : Int) = 0 := by omega
                  have x2 : (v == 0) = false := beq_eq_false_iff_ne.2 hv0'
                  refine wp_region_held_drew (S := SP GB gl D G j t W H x gx g T sx wD) hmxP HX0.out (fun _ => ?_)
                  have HX := Lib.hid HX0.out
                  generalize wD.drew = WA at *
                  (refine wpAnyH_take (i := 0) (oi := { dst := some 93, op := Go.Op.load 36 (Go.Operand.tmp 5), type := 36, pos := "ref.go:75", after := #[], guard := none }) (v := ?_) rfl (by kernel_rfl) (by kernel_rfl) (by kernel_rfl) (fun _ _ _ h => h) (Or.inl ⟨by rfl, ?_⟩) HX.out ?_); rotate_left
                  · (intro w' hSw; obtain ⟨h0, h1, h2, h3, h4, h5, h6, _⟩ := hSw; go_simp; try with_reducible rfl)
                  (try simp only [Act.put, List.setIfInBounds_toArray, List.set_cons_zero, List.set_cons_succ])
                  (refine wpAnyH_take (i := 1) (oi := { dst := some 94, op := Go.Op.move (Go.Operand.tmp 16), type := 22, pos := "ref.go:75", after := #[], guard := none }) (v := ?_) rfl (by kernel_rfl) (by kernel_rfl) (by kernel_rfl) (fun _ _ _ h => h) (Or.inl ⟨by rfl, ?_⟩) HX.out ?_); rotate_left
                  · (intro w' hSw; obtain ⟨h0, h1, h2, h3, h4, h5, h6, _⟩ := hSw; go_simp; try with_reducible rfl)
                  (try simp only [Act.put, List.setIfInBounds_toArray, List.set_cons_zero, List.set_cons_succ])
                  (refine wpAnyH_take (i := 2) (oi := { dst := some 95, op := Go.Op.move (Go.Operand.tmp 17), type := 3, pos := "ref.go:75", after := #[], guard := none }) (v := ?_) rfl (by kernel_rfl) (by kernel_rfl) (by kernel_rfl) (fun _ _ _ h => h) (Or.inl ⟨by rfl, ?_⟩) HX.out ?_); rotate_left
                  · (intro w' hSw; obtain ⟨h0, h1, h2, h3, h4, h5, h6, _⟩ := hSw; go_simp; try with_reducible rfl)
                  (try simp only [Act.put, List.setIfInBounds_toArray, List.set_cons_zero, List.set_cons_succ])
                  (refine wpAnyH_take (i := 3) (oi := { dst := some 96, op := Go.Op.indexAddr 22 (Go.Operand.tmp 94) (Go.Operand.tmp 95), type := 0, pos := "ref.go:75", after := #[{ on := 1, ground := Go.Ground.data }, { on := 2, ground := Go.Ground.data }], guard := none }) (v := ?_) rfl (by kernel_rfl) (by kernel_rfl) (by kernel_rfl) (fun _ _ _ h => h) (Or.inl ⟨by rfl, ?_⟩) HX.out ?_); rotate_left
                  · (intro w' hSw; obtain ⟨h0, h1, h2, h3, h4, h5, h6, _⟩ := hSw; go_simp; try with_reducible rfl)
                  (try simp only [Act.put, List.setIfInBounds_toArray, List.set_cons_zero, List.set_cons_succ])
                  (refine wpAnyH_take (i := 4) (oi := { dst := some 97, op := Go.Op.load 3 (Go.Operand.tmp 96), type := 3, pos := "ref.go:75", after := #[{ on := 3, ground := Go.Ground.data }], guard := none }) (v := ?_) rfl (by kernel_rfl) (by kernel_rfl) (by kernel_rfl) (fun _ _ _ h => h) (Or.inl ⟨by rfl, ?_⟩) HX.out ?_); rotate_left
                  · (intro w' hSw; obtain ⟨h0, h1, h2, h3, h4, h5, h6, _⟩ := hSw; go_simp; try with_reducible rfl)
                  (try simp only [Act.put, List.setIfInBounds_toArray, List.set_cons_zero, List.set_cons_succ])
                  refine wpAnyH_ready (rs := [5]) (by kernel_rfl) (by simp) ?_
                  refine AllReadyH.cons (o := { dst := some 98, op := Go.Op.call { callee := Go.Callee.value (Go.Operand.func 24), args := #[Go.Operand.tmp 93, Go.Operand.tmp 97], argTypes := #[36, 3] }, type := 5, pos := "ref.go:75", after := #[{ on := 0, ground := Go.Ground.data }, { on := 4, ground := Go.Ground.data }], guard := none }) (by kernel_rfl) (fun K hK => ?_) AllReadyH.nil
                  go_simp
                  refine (HIS.out _).mono ?_
                  rintro e WB ⟨rfl, hE⟩
                  have HX := Lib.hid (HX.out.next hE)
                  clear hE
                  (try go_wp2_with fail)
                  refine hK.out _ _ HX.out (fun _ => ?_)
                  clear hK K
                  (try simp only [Act.put, List.setIfInBounds_toArray, List.set_cons_zero, List.set_cons_succ])
                  (refine wpAnyH_take (i := 6) (oi := { dst := some 99, op := Go.Op.binOp Go.BinOp.neq 5 (Go.Operand.tmp 98) (Go.Operand.const (Go.Value.int Go.IntKind.u8 0)) 5, type := 4, pos := "ref.go:75", after := #[{ on := 5, ground := Go.Ground.data }], guard := none }) (v := Go.Value.bool true) rfl (by kernel_rfl) (by kernel_rfl) (by kernel_rfl) (fun _ _ _ h => h) (Or.inl ⟨by rfl, ?_⟩) HX.out ?_)
                  · (intro w' hSw; obtain ⟨h0, h1, h2, h3, h4, h5, h6, _⟩ := hSw; go_simp; first | done | with_reducible rfl | simp [x1])
                  (try simp only [Act.put, List.setIfInBounds_toArray, List.set_cons_zero, List.set_cons_succ])
                  (refine wpAnyH_take (i := 7) (oi := { dst := some 100, op := Go.Op.move (Go.Operand.tmp 99), type := 4, pos := "ref.go:75", after := #[{ on := 6, ground := Go.Ground.data }, { on := 5, ground := Go.Ground.chain }], guard := none }) (v := ?_) rfl (by kernel_rfl) (by kernel_rfl) (by kernel_rfl) (fun _ _ _ h => h) (Or.inl ⟨by rfl, ?_⟩) HX.out ?_); rotate_left
                  · (intro w' hSw; obtain ⟨h0, h1, h2, h3, h4, h5, h6, _⟩ := hSw; go_simp; try with_reducible rfl)
                  (try simp only [Act.put, List.setIfInBounds_toArray, List.set_cons_zero, List.set_cons_succ])
                  (refine wpAnyH_take (i := 8) (oi := { dst := some 101, op := Go.Op.move (Go.Operand.tmp 1), type := 22, pos := "ref.go:75", after := #[{ on := 7, ground := Go.Ground.guard }], guard := some (7, false) }) (v := Go.undef) rfl (by kernel_rfl) (by kernel_rfl) (by kernel_rfl) (fun _ _ _ h => h) (Or.inr ⟨by rfl, by rfl⟩) HX.out ?_)
                  (try simp only [Act.put, List.setIfInBounds_toArray, List.set_cons_zero, List.set_cons_succ])
                  (refine wpAnyH_take (i := 9) (oi := { dst := some 102, op := Go.Op.move (Go.Operand.tmp 16), type := 22, pos := "ref.go:75", after := #[{ on := 7, ground := Go.Ground.guard }], guard := some (7, false) }) (v := Go.undef) rfl (by kernel_rfl) (by kernel_rfl) (by kernel_rfl) (fun _ _ _ h => h) (Or.inr ⟨by rfl, by rfl⟩) HX.out ?_)
                  (try simp only [Act.put, List.setIfInBounds_toArray, List.set_cons_zero, List.set_cons_succ])
                  (refine wpAnyH_take (i := 10) (oi := { dst := some 103, op := Go.Op.move (Go.Operand.tmp 17), type := 3, pos := "ref.go:75", after := #[{ on := 7, ground := Go.Ground.guard }], guard := some (7, false) }) (v := Go.undef) rfl (by kernel_rfl) (by kernel_rfl) (by kernel_rfl) (fun _ _ _ h => h) (Or.inr ⟨by rfl, by rfl⟩) HX.out ?_)
                  (try simp only [Act.put, List.setIfInBounds_toArray, List.set_cons_zero, List.set_cons_succ])
                  (refine wpAnyH_take (i := 11) (oi := { dst := some 104, op := Go.Op.indexAddr 22 (Go.Operand.tmp 102) (Go.Operand.tmp 103), type := 0, pos := "ref.go:75", after := #[{ on := 9, ground := Go.Ground.data }, { on := 10, ground := Go.Ground.data }, { on := 7, ground := Go.Ground.guard }], guard := some (7, false) }) (v := Go.undef) rfl (by kernel_rfl) (by kernel_rfl) (by kernel_rfl) (fun _ _ _ h => h) (Or.inr ⟨by rfl, by rfl⟩) HX.out ?_)
                  (try simp only [Act.put, List.setIfInBounds_toArray, List.set_cons_zero, List.set_cons_succ])
                  (refine wpAnyH_take (i := 12) (oi := { dst := some 105, op := Go.Op.load 3 (Go.Operand.tmp 104), type := 3, pos := "ref.go:75", after := #[{ on := 11, ground := Go.Ground.data }, { on := 7, ground := Go.Ground.guard }], guard := some (7, false) }) (v := Go.undef) rfl (by kernel_rfl) (by kernel_rfl) (by kernel_rfl) (fun _ _ _ h => h) (Or.inr ⟨by rfl, by rfl⟩) HX.out ?_)
                  (try simp only [Act.put, List.setIfInBounds_toArray, List.set_cons_zero, List.set_cons_succ])
                  (refine wpAnyH_take (i := 13) (oi := { dst := some 106, op := Go.Op.call { callee := Go.Callee.value (Go.Operand.func 25), args := #[Go.Operand.tmp 101, Go.Operand.tmp 105], argTypes := #[22, 3] }, type := 4, pos := "ref.go:75", after := #[{ on := 8, ground := Go.Ground.data }, { on := 12, ground := Go.Ground.data }, { on := 7, ground := Go.Ground.chain }, { on := 7, ground := Go.Ground.guard }], guard := some (7, false) }) (v := Go.undef) rfl (by kernel_rfl) (by kernel_rfl) (by kernel_rfl) (fun _ _ _ h => h) (Or.inr ⟨by rfl, by rfl⟩) HX.out ?_)
                  (try simp only [Act.put, List.setIfInBounds_toArray, List.set_cons_zero, List.set_cons_succ])
                  (refine wpAnyH_take (i := 14) (oi := { dst := some 107, op := Go.Op.pick (Go.Operand.tmp 100) (Go.Operand.const (Go.Value.bool true)) (Go.Operand.tmp 106), type := 4, pos := "ref.go:75", after := #[{ on := 7, ground := Go.Ground.data }, { on := 13, ground := Go.Ground.data }], guard := none }) (v := ?_) rfl (by kernel_rfl) (by kernel_rfl) (by kernel_rfl) (fun _ _ _ h => h) (Or.inl ⟨by rfl, ?_⟩) HX.out ?_); rotate_left
                  · (intro w' hSw; obtain ⟨h0, h1, h2, h3, h4, h5, h6, _⟩ := hSw; go_simp; try with_reducible rfl)
                  (try simp only [Act.put, List.setIfInBounds_toArray, List.set_cons_zero, List.set_cons_succ])
                  (refine wpAnyH_take (i := 15) (oi := { dst := some 108, op := Go.Op.move (Go.Operand.tmp 107), type := 4, pos := "ref.go:75", after := #[{ on := 14, ground := Go.Ground.data }, { on := 13, ground := Go.Ground.chain }], guard := none }) (v := ?_) rfl (by kernel_rfl) (by kernel_rfl) (by kernel_rfl) (fun _ _ _ h => h) (Or.inl ⟨by rfl, ?_⟩) HX.out ?_); rotate_left
                  · (intro w' hSw; obtain ⟨h0, h1, h2, h3, h4, h5, h6, _⟩ := hSw; go_simp; try with_reducible rfl)
                  (try simp only [Act.put, List.setIfInBounds_toArray, List.set_cons_zero, List.set_cons_succ])
                  (refine wpAnyH_take (i := 16) (oi := { dst := some 109, op := Go.Op.fieldAddr 57 (Go.Operand.tmp 18) 0, type := 0, pos := "ref.go:75", after := #[{ on := 15, ground := Go.Ground.guard }], guard := some (15, false) }) (v := Go.undef) rfl (by kernel_rfl) (by kernel_rfl) (by kernel_rfl) (fun _ _ _ h => h) (Or.inr ⟨by rfl, by rfl⟩) HX.out ?_)
                  (try simp only [Act.put, List.setIfInBounds_toArray, List.set_cons_zero, List.set_cons_succ])
                  (refine wpAnyH_take (i := 17) (oi := { dst := some 110, op := Go.Op.load 4 (Go.Operand.tmp 109), type := 4, pos := "ref.go:75", after := #[{ on := 16, ground := Go.Ground.data }, { on := 15, ground := Go.Ground.guard }], guard := some (15, false) }) (v := Go.undef) rfl (by kernel_rfl) (by kernel_rfl) (by kernel_rfl) (fun _ _ _ h => h) (Or.inr ⟨by rfl, by rfl⟩) HX.out ?_)
                  (try simp only [Act.put, List.setIfInBounds_toArray, List.set_cons_zero, List.set_cons_succ])
                  (refine wpAnyH_take (i := 18) (oi := { dst := some 111, op := Go.Op.move (Go.Operand.tmp 110), type := 4, pos := "ref.go:75", after := #[{ on := 17, ground := Go.Ground.data }, { on := 15, ground := Go.Ground.chain }, { on := 15, ground := Go.Ground.guard }], guard := some (15, false) }) (v := Go.undef) rfl (by kernel_rfl) (by kernel_rfl) (by kernel_rfl) (fun _ _ _ h => h) (Or.inr ⟨by rfl, by rfl⟩) HX.out ?_)
                  (try simp only [Act.put, List.setIfInBounds_toArray, List.set_cons_zero, List.set_cons_succ])
                  (refine wpAnyH_take (i := 19) (oi := { dst := some 112, op := Go.Op.fieldAddr 57 (Go.Operand.tmp 18) 2, type := 0, pos := "ref.go:75", after := #[{ on := 18, ground := Go.Ground.guard }], guard := some (18, true) }) (v := Go.undef) rfl (by kernel_rfl) (by kernel_rfl) (by kernel_rfl) (fun _ _ _ h => h) (Or.inr ⟨by rfl, by rfl⟩) HX.out ?_)
                  (try simp only [Act.put, List.setIfInBounds_toArray, List.set_cons_zero, List.set_cons_succ])
                  (refine wpAnyH_take (i := 20) (oi := { dst := some 113, op := Go.Op.load 3 (Go.Operand.tmp 112), type := 3, pos := "ref.go:75", after := #[{ on := 19, ground := Go.Ground.data }, { on := 18, ground := Go.Ground.guard }], guard := some (18, true) }) (v := Go.undef) rfl (by kernel_rfl) (by kernel_rfl) (by kernel_rfl) (fun _ _ _ h => h) (Or.inr ⟨by rfl, by rfl⟩) HX.out ?_)
                  (try simp only [Act.put, List.setIfInBounds_toArray, List.set_cons_zero, List.set_cons_succ])
                  (refine wpAnyH_take (i := 21) (oi := { dst := some 114, op := Go.Op.move (Go.Operand.tmp 12), type := 55, pos := "ref.go:75", after := #[{ on := 18, ground := Go.Ground.guard }], guard := some (18, true) }) (v := Go.undef) rfl (by kernel_rfl) (by kernel_rfl) (by kernel_rfl) (fun _ _ _ h => h) (Or.inr ⟨by rfl, by rfl⟩) HX.out ?_)
                  (try simp only [Act.put, List.setIfInBounds_toArray, List.set_cons_zero, List.set_cons_succ])
                  (refine wpAnyH_take (i := 22) (oi := { dst := some 115, op := Go.Op.move (Go.Operand.tmp 14), type := 3, pos := "ref.go:75", after := #[{ on := 18, ground := Go.Ground.guard }], guard := some (18, true) }) (v := Go.undef) rfl (by kernel_rfl) (by kernel_rfl) (by kernel_rfl) (fun _ _ _ h => h) (Or.inr ⟨by rfl, by rfl⟩) HX.out ?_)
                  (try simp only [Act.put, List.setIfInBounds_toArray, List.set_cons_zero, List.set_cons_succ])
                  (refine wpAnyH_take (i := 23) (oi := { dst := some 116, op := Go.Op.indexAddr 55 (Go.Operand.tmp 114) (Go.Operand.tmp 115), type := 0, pos := "ref.go:75", after := #[{ on := 21, ground := Go.Ground.data }, { on := 22, ground := Go.Ground.data }, { on := 18, ground := Go.Ground.guard }], guard := some (18, true) }) (v := Go.undef) rfl (by kernel_rfl) (by kernel_rfl) (by kernel_rfl) (fun _ _ _ h => h) (Or.inr ⟨by rfl, by rfl⟩) HX.out ?_)
                  (try simp only [Act.put, List.setIfInBounds_toArray, List.set_cons_zero, List.set_cons_succ])
                  (refine wpAnyH_take (i := 24) (oi := { dst := some 117, op := Go.Op.fieldAddr 57 (Go.Operand.tmp 116) 2, type := 0, pos := "ref.go:75", after := #[{ on := 23, ground := Go.Ground.data }, { on := 18, ground := Go.Ground.guard }], guard := some (18, true) }) (v := Go.undef) rfl (by kernel_rfl) (by kernel_rfl) (by kernel_rfl) (fun _ _ _ h => h) (Or.inr ⟨by rfl, by rfl⟩) HX.out ?_)
                  (try simp only [Act.put, List.setIfInBounds_toArray, List.set_cons_zero, List.set_cons_succ])
                  (refine wpAnyH_take (i := 25) (oi := { dst := some 118, op := Go.Op.load 3 (Go.Operand.tmp 117), type := 3, pos := "ref.go:75", after := #[{ on := 24, ground := Go.Ground.data }, { on := 18, ground := Go.Ground.guard }], guard := some (18, true) }) (v := Go.undef) rfl (by kernel_rfl) (by kernel_rfl) (by kernel_rfl) (fun _ _ _ h => h) (Or.inr ⟨by rfl, by rfl⟩) HX.out ?_)
                  (try simp only [Act.put, List.setIfInBounds_toArray, List.set_cons_zero, List.set_cons_succ])
                  (refine wpAnyH_take (i := 26) (oi := { dst := some 119, op := Go.Op.binOp Go.BinOp.add 3 (Go.Operand.tmp 118) (Go.Operand.const (Go.Value.int Go.IntKind.i64 1)) 3, type := 3, pos := "ref.go:75", after := #[{ on := 25, ground := Go.Ground.data }, { on := 18, ground := Go.Ground.guard }], guard := some (18, true) }) (v := Go.undef) rfl (by kernel_rfl) (by kernel_rfl) (by kernel_rfl) (fun _ _ _ h => h) (Or.inr ⟨by rfl, by rfl⟩) HX.out ?_)
                  (try simp only [Act.put, List.setIfInBounds_toArray, List.set_cons_zero, List.set_cons_succ])
                  (refine wpAnyH_take (i := 27) (oi := { dst := some 120, op := Go.Op.binOp Go.BinOp.leq 3 (Go.Operand.tmp 113) (Go.Operand.tmp 119) 3, type := 4, pos := "ref.go:75", after := #[{ on := 20, ground := Go.Ground.data }, { on := 26, ground := Go.Ground.data }, { on := 18, ground := Go.Ground.guard }], guard := some (18, true) }) (v := Go.undef) rfl (by kernel_rfl) (by kernel_rfl) (by kernel_rfl) (fun _ _ _ h => h) (Or.inr ⟨by rfl, by rfl⟩) HX.out ?_)
                  (try simp only [Act.put, List.setIfInBounds_toArray, List.set_cons_zero, List.set_cons_succ])
                  (refine wpAnyH_take (i := 28) (oi := { dst := some 121, op := Go.Op.pick (Go.Operand.tmp 111) (Go.Operand.tmp 120) (Go.Operand.const (Go.Value.bool false)), type := 4, pos := "ref.go:75", after := #[{ on := 18, ground := Go.Ground.data }, { on := 27, ground := Go.Ground.data }, { on := 15, ground := Go.Ground.guard }], guard := some (15, false) }) (v := Go.undef) rfl (by kernel_rfl) (by kernel_rfl) (by kernel_rfl) (fun _ _ _ h => h) (Or.inr ⟨by rfl, by rfl⟩) HX.out ?_)
                  (try simp only [Act.put, List.setIfInBounds_toArray, List.set_cons_zero, List.set_cons_succ])
                  (refine wpAnyH_take (i := 29) (oi := { dst := some 122, op := Go.Op.pick (Go.Operand.tmp 108) (Go.Operand.const (Go.Value.bool true)) (Go.Operand.tmp 121), type := 4, pos := "ref.go:75", after := #[{ on := 15, ground := Go.Ground.data }, { on := 28, ground := Go.Ground.data }], guard := none }) (v := ?_) rfl (by kernel_rfl) (by kernel_rfl) (by kernel_rfl) (fun _ _ _ h => h) (Or.inl ⟨by rfl, ?_⟩) HX.out ?_); rotate_left
                  · (intro w' hSw; obtain ⟨h0, h1, h2, h3, h4, h5, h6, _⟩ := hSw; go_simp; try with_reducible rfl)
                  (try simp only [Act.put, List.setIfInBounds_toArray, List.set_cons_zero, List.set_cons_succ])
                  refine wpAnyH_done (by kernel_rfl) ?_ _
                  go_wp2_with fail
                  go_meet
                  exact ⟨by first | rfl | (simp [x2]; done) | (simp [x2]; omega), HX.out.le⟩
              case rest =>
                obtain ⟨rfl, ex⟩ := hcut
                have HF4 := Lib.hid (HF3.out.ext' ex)
                have HFX2 : Hid ((!(v == 0 && !bx)) = (!(FR' x))) := Lib.hid (by rw [HFX.out])
                obtain ⟨r, hr⟩ : ∃ r, r = (!(v == 0 && !bx) || (sx && decide (gx ≤ g + 1))) := ⟨_, rfl⟩
                rw [← hr]
                have HR : Hid (r = (!(FR' x) || (sx && decide (gx ≤ g + 1)))) := Lib.hid (by rw [hr, HFX2.out])
                clear hr ex HF3 HFX HFX2 HIS HIN HX0
                cases r with
                | true =>
                  have HRX : Hid (relax FR' t all2 x = all2) := Lib.hid (relax_no (by
                    have h := HR.out.symm
                    rw [Bool.or_eq_true, Bool.and_eq_true, decide_eq_true_eq, Bool.not_eq_true'] at h
                    rcases h with h | ⟨h1, h2⟩
                    · exact .inl h
                    · exact .inr ⟨by rw [← HSX.out]; exact h1, by rw [← HGX.out, HF4.out.own.2]; exact h2⟩))
                  have HEND := Lib.hid (HF4.out.skip HX.out HRX.out)
                  go_wp2_with fail
                  go_roundw
                  case measure => simp only [intOf]; omega
                  case rel => exact ⟨j + 1, _, rfl, by omega, HEND.out⟩
                | false =>
                  have HRX : Hid (relax FR' t all2 x = all2.set x (true, true, g + 1, t)) := Lib.hid (by
                    have h := HR.out.symm
                    rw [Bool.or_eq_false_iff] at h
                    have h1 : FR' x = true := by have := h.1; simpa using this
                    have := relax_yes (t := t) (all := all2) h1 (fun hs => by
                      have h2 := h.2
                      rw [HSX.out, hs, Bool.true_and, decide_eq_false_iff_not] at h2
                      rw [← HGX.out, HF4.out.own.2]; omega)
                    rw [this, HF4.out.own.2])
                  have HF5 := Lib.hid (HF4.out.ext' (ext_drew (Ext.rfl' wc)))
                  go_upto_region 24 with fail
                  refine wp_region_held_drew (S := fun _ => True) hmxP trivial (fun _ => ?_)
                  generalize wc.drew = WR at *
                  have HP5 := Lib.hid (HF5.out.row.put hxP true true (g + 1) t)
                  have HEND := Lib.hid (HF5.out.put HX.out HRX.out HGI.out hxP HGB.out HGG.out HP5.out.1 HP5.out.2)
                  obtain ⟨q0, q1, q2, q3⟩ := HF5.out.row.cells hxP
                  have hfz := HF5.out.row.frozen
                  have qg := (HF5.out.row.cells htP).2.2.1
                  rw [HF5.out.own.2] at qg
                  have cx : WR.cell? ⟨gl, j, none⟩ = some (.int .i64 (x : Int)) := by
                    have := Rw.cell (i := j) rfl HF5.out.nb (by rw [← HL.out]; exact hjL)
                    rw [List.getD_eq_getElem?_getD, HX.out] at this; exact this
                  (refine wpAnyH_take (i := 0) (oi := { dst := some 123, op := Go.Op.move (Go.Operand.tmp 12), type := 55, pos := "ref.go:78", after := #[], guard := none }) (v := ?_) rfl (by kernel_rfl) (by kernel_rfl) (by kernel_rfl) (fun _ _ _ h => h) (Or.inl ⟨by rfl, ?_⟩) trivial ?_); rotate_left
                  · (intro w' hSw; go_simp; try with_reducible rfl)
                  (try simp only [Act.put, List.setIfInBounds_toArray, List.set_cons_zero, List.set_cons_succ])
                  (refine wpAnyH_take (i := 1) (oi := { dst := some 124, op := Go.Op.move (Go.Operand.tmp 16), type := 22, pos := "ref.go:78", after := #[], guard := none }) (v := ?_) rfl (by kernel_rfl) (by kernel_rfl) (by kernel_rfl) (fun _ _ _ h => h) (Or.inl ⟨by rfl, ?_⟩) trivial ?_); rotate_left
                  · (intro w' hSw; go_simp; try with_reducible rfl)
                  (try simp only [Act.put, List.setIfInBounds_toArray, List.set_cons_zero, List.set_cons_succ])
                  (refine wpAnyH_take (i := 2) (oi := { dst := some 125, op := Go.Op.move (Go.Operand.tmp 17), type := 3, pos := "ref.go:78", after := #[], guard := none }) (v := ?_) rfl (by kernel_rfl) (by kernel_rfl) (by kernel_rfl) (fun _ _ _ h => h) (Or.inl ⟨by rfl, ?_⟩) trivial ?_); rotate_left
                  · (intro w' hSw; go_simp; try with_reducible rfl)
                  (try simp only [Act.put, List.setIfInBounds_toArray, List.set_cons_zero, List.set_cons_succ])
                  (refine wpAnyH_take (i := 3) (oi := { dst := some 126, op := Go.Op.indexAddr 22 (Go.Operand.tmp 124) (Go.Operand.tmp 125), type := 0, pos := "ref.go:78", after := #[{ on := 1, ground := Go.Ground.data }, { on := 2, ground := Go.Ground.data }], guard := none }) (v := ?_) rfl (by kernel_rfl) (by kernel_rfl) (by kernel_rfl) (fun _ _ _ h => h) (Or.inl ⟨by rfl, ?_⟩) trivial ?_); rotate_left
                  · (intro w' hSw; go_simp; try with_reducible rfl)
                  (try simp only [Act.put, List.setIfInBounds_toArray, List.set_cons_zero, List.set_cons_succ])
                  (refine wpAnyH_take (i := 5) (oi := { dst := some 128, op := Go.Op.move (Go.Operand.tmp 12), type := 55, pos := "ref.go:78", after := #[], guard := none }) (v := ?_) rfl (by kernel_rfl) (by kernel_rfl) (by kernel_rfl) (fun _ _ _ h => h) (Or.inl ⟨by rfl, ?_⟩) trivial ?_); rotate_left
                  · (intro w' hSw; go_simp; try with_reducible rfl)
                  (try simp only [Act.put, List.setIfInBounds_toArray, List.set_cons_zero, List.set_cons_succ])
                  (refine wpAnyH_take (i := 6) (oi := { dst := some 129, op := Go.Op.move (Go.Operand.tmp 14), type := 3, pos := "ref.go:78", after := #[], guard := none }) (v := ?_) rfl (by kernel_rfl) (by kernel_rfl) (by kernel_rfl) (fun _ _ _ h => h) (Or.inl ⟨by rfl, ?_⟩) trivial ?_); rotate_left
                  · (intro w' hSw; go_simp; try with_reducible rfl)
                  (try simp only [Act.put, List.setIfInBounds_toArray, List.set_cons_zero, List.set_cons_succ])
                  (refine wpAnyH_take (i := 7) (oi := { dst := some 130, op := Go.Op.indexAddr 55 (Go.Operand.tmp 128) (Go.Operand.tmp 129), type := 0, pos := "ref.go:78", after := #[{ on := 5, ground := Go.Ground.data }, { on := 6, ground := Go.Ground.data }], guard := none }) (v := ?_) rfl (by kernel_rfl) (by kernel_rfl) (by kernel_rfl) (fun _ _ _ h => h) (Or.inl ⟨by rfl, ?_⟩) trivial ?_); rotate_left
                  · (intro w' hSw; go_simp; try with_reducible rfl)
                  (try simp only [Act.put, List.setIfInBounds_toArray, List.set_cons_zero, List.set_cons_succ])
                  (refine wpAnyH_take (i := 8) (oi := { dst := some 131, op := Go.Op.fieldAddr 57 (Go.Operand.tmp 130) 2, type := 0, pos := "ref.go:78", after := #[{ on := 7, ground := Go.Ground.data }], guard := none }) (v := ?_) rfl (by kernel_rfl) (by kernel_rfl) (by kernel_rfl) (fun _ _ _ h => h) (Or.inl ⟨by rfl, ?_⟩) trivial ?_); rotate_left
                  · (intro w' hSw; go_simp; try with_reducible rfl)
                  (try simp only [Act.put, List.setIfInBounds_toArray, List.set_cons_zero, List.set_cons_succ])
                  (refine wpAnyH_take (i := 11) (oi := { dst := some 134, op := Go.Op.move (Go.Operand.tmp 14), type := 3, pos := "ref.go:78", after := #[], guard := none }) (v := ?_) rfl (by kernel_rfl) (by kernel_rfl) (by kernel_rfl) (fun _ _ _ h => h) (Or.inl ⟨by rfl, ?_⟩) trivial ?_); rotate_left
                  · (intro w' hSw; go_simp; try with_reducible rfl)
                  (try simp only [Act.put, List.setIfInBounds_toArray, List.set_cons_zero, List.set_cons_succ])
                  refine wpAnyH_ready (rs := [4, 9]) (by kernel_rfl) (by simp) ?_
                  refine AllReadyH.cons (o := { dst := some 127, op := Go.Op.load 3 (Go.Operand.tmp 126), type := 3, pos := "ref.go:78", after := #[{ on := 3, ground := Go.Ground.data }], guard := none }) (by kernel_rfl) (fun K hK => ?_) (AllReadyH.cons (o := { dst := some 132, op := Go.Op.load 3 (Go.Operand.tmp 131), type := 3, pos := "ref.go:78", after := #[{ on := 8, ground := Go.Ground.data }], guard := none }) (by kernel_rfl) (fun K hK => ?_) AllReadyH.nil)
                  · go_simp
                    refine hK.out _ _ trivial (fun _ => ?_)
                    clear hK K
                    (try simp only [Act.put, List.setIfInBounds_toArray, List.set_cons_zero, List.set_cons_succ])
                    refine wpAnyH_ready (rs := [9]) (by kernel_rfl) (by simp) ?_
                    refine AllReadyH.cons (o := { dst := some 132, op := Go.Op.load 3 (Go.Operand.tmp 131), type := 3, pos := "ref.go:78", after := #[{ on := 8, ground := Go.Ground.data }], guard := none }) (by kernel_rfl) (fun K hK => ?_) AllReadyH.nil
                    go_simp
                    refine hK.out _ _ trivial (fun _ => ?_)
                    clear hK K
                    (try simp only [Act.put, List.setIfInBounds_toArray, List.set_cons_zero, List.set_cons_succ])
                    (refine wpAnyH_take (i := 10) (oi := { dst := some 133, op := Go.Op.binOp Go.BinOp.add 3 (Go.Operand.tmp 132) (Go.Operand.const (Go.Value.int Go.IntKind.i64 1)) 3, type := 3, pos := "ref.go:78", after := #[{ on := 9, ground := Go.Ground.data }], guard := none }) (v := ?_) rfl (by kernel_rfl) (by kernel_rfl) (by kernel_rfl) (fun _ _ _ h => h) (Or.inl ⟨by rfl, ?_⟩) trivial ?_); rotate_left
                    · (intro w' hSw; go_simp; try with_reducible rfl)
                    (try simp only [Act.put, List.setIfInBounds_toArray, List.set_cons_zero, List.set_cons_succ])
                    (refine wpAnyH_take (i := 12) (oi := { dst := some 135, op := Go.Op.build 57 #[(0, Go.Operand.const (Go.Value.bool true)), (1, Go.Operand.const (Go.Value.bool true)), (2, Go.Operand.tmp 133), (3, Go.Operand.tmp 134)], type := 57, pos := "ref.go:78", after := #[{ on := 10, ground := Go.Ground.data }, { on := 11, ground := Go.Ground.data }], guard := none }) (v := ?_) rfl (by kernel_rfl) (by kernel_rfl) (by kernel_rfl) (fun _ _ _ h => h) (Or.inl ⟨by rfl, ?_⟩) trivial ?_); rotate_left
                    · (intro w' hSw; go_simp; try with_reducible rfl)
                    (try simp only [Act.put, List.setIfInBounds_toArray, List.set_cons_zero, List.set_cons_succ])
                    (refine wpAnyH_take (i := 13) (oi := { dst := some 136, op := Go.Op.indexAddr 55 (Go.Operand.tmp 123) (Go.Operand.tmp 127), type := 0, pos := "ref.go:78", after := #[{ on := 0, ground := Go.Ground.data }, { on := 4, ground := Go.Ground.data }, { on := 0, ground := Go.Ground.phase }, { on := 1, ground := Go.Ground.phase }, { on := 2, ground := Go.Ground.phase }, { on := 3, ground := Go.Ground.phase }, { on := 4, ground := Go.Ground.phase }, { on := 5, ground := Go.Ground.phase }, { on := 6, ground := Go.Ground.phase }, { on := 7, ground := Go.Ground.phase }, { on := 8, ground := Go.Ground.phase }, { on := 9, ground := Go.Ground.phase }, { on := 10, ground := Go.Ground.phase }, { on := 11, ground := Go.Ground.phase }, { on := 12, ground := Go.Ground.phase }], guard := none }) (v := ?_) rfl (by kernel_rfl) (by kernel_rfl) (by kernel_rfl) (fun _ _ _ h => h) (Or.inl ⟨by rfl, ?_⟩) trivial ?_); rotate_left
                    · (intro w' hSw; go_simp; try with_reducible rfl)
                    (try simp only [Act.put, List.setIfInBounds_toArray, List.set_cons_zero, List.set_cons_succ])
                    refine wpAnyH_ready (rs := [14]) (by kernel_rfl) (by simp) ?_
                    refine AllReadyH.cons (o := { dst := none, op := Go.Op.store 57 (Go.Operand.tmp 136) (Go.Operand.tmp 135), type := 0, pos := "ref.go:78", after := #[{ on := 13, ground := Go.Ground.data }, { on := 12, ground := Go.Ground.data }, { on := 0, ground := Go.Ground.phase }, { on := 1, ground := Go.Ground.phase }, { on := 2, ground := Go.Ground.phase }, { on := 3, ground := Go.Ground.phase }, { on := 4, ground := Go.Ground.phase }, { on := 5, ground := Go.Ground.phase }, { on := 6, ground := Go.Ground.phase }, { on := 7, ground := Go.Ground.phase }, { on := 8, ground := Go.Ground.phase }, { on := 9, ground := Go.Ground.phase }, { on := 10, ground := Go.Ground.phase }, { on := 11, ground := Go.Ground.phase }, { on := 12, ground := Go.Ground.phase }], guard := none }) (by kernel_rfl) (fun K hK => ?_) AllReadyH.nil
                    go_simp
                    refine hK.out _ _ trivial (fun _ => ?_)
                    clear hK K
                    (try simp only [Act.put, List.setIfInBounds_toArray, List.set_cons_zero, List.set_cons_succ])
                    refine wpAnyH_done (by kernel_rfl) ?_ _
                    go_wp2_with fail
                    go_roundw
                    case measure => simp only [intOf]; omega
                    case rel => exact ⟨j + 1, _, rfl, by omega, HEND.out⟩
                  · go_simp
                    refine hK.out _ _ trivial (fun _ => ?_)
                    clear hK K
                    (try simp only [Act.put, List.setIfInBounds_toArray, List.set_cons_zero, List.set_cons_succ])
                    (refine wpAnyH_take (i := 10) (oi := { dst := some 133, op := Go.Op.binOp Go.BinOp.add 3 (Go.Operand.tmp 132) (Go.Operand.const (Go.Value.int Go.IntKind.i64 1)) 3, type := 3, pos := "ref.go:78", after := #[{ on := 9, ground := Go.Ground.data }], guard := none }) (v := ?_) rfl (by kernel_rfl) (by kernel_rfl) (by kernel_rfl) (fun _ _ _ h => h) (Or.inl ⟨by rfl, ?_⟩) trivial ?_); rotate_left
                    · (intro w' hSw; go_simp; try with_reducible rfl)
                    (try simp only [Act.put, List.setIfInBounds_toArray, List.set_cons_zero, List.set_cons_succ])
                    (refine wpAnyH_take (i := 12) (oi := { dst := some 135, op := Go.Op.build 57 #[(0, Go.Operand.const (Go.Value.bool true)), (1, Go.Operand.const (Go.Value.bool true)), (2, Go.Operand.tmp 133), (3, Go.Operand.tmp 134)], type := 57, pos := "ref.go:78", after := #[{ on := 10, ground := Go.Ground.data }, { on := 11, ground := Go.Ground.data }], guard := none }) (v := ?_) rfl (by kernel_rfl) (by kernel_rfl) (by kernel_rfl) (fun _ _ _ h => h) (Or.inl ⟨by rfl, ?_⟩) trivial ?_); rotate_left
                    · (intro w' hSw; go_simp; try with_reducible rfl)
                    (try simp only [Act.put, List.setIfInBounds_toArray, List.set_cons_zero, List.set_cons_succ])
                    refine wpAnyH_ready (rs := [4]) (by kernel_rfl) (by simp) ?_
                    refine AllReadyH.cons (o := { dst := some 127, op := Go.Op.load 3 (Go.Operand.tmp 126), type := 3, pos := "ref.go:78", after := #[{ on := 3, ground := Go.Ground.data }], guard := none }) (by kernel_rfl) (fun K hK => ?_) AllReadyH.nil
                    go_simp
                    refine hK.out _ _ trivial (fun _ => ?_)
                    clear hK K
                    (try simp only [Act.put, List.setIfInBounds_toArray, List.set_cons_zero, List.set_cons_succ])
                    (refine wpAnyH_take (i := 13) (oi := { dst := some 136, op := Go.Op.indexAddr 55 (Go.Operand.tmp 123) (Go.Operand.tmp 127), type := 0, pos := "ref.go:78", after := #[{ on := 0, ground := Go.Ground.data }, { on := 4, ground := Go.Ground.data }, { on := 0, ground := Go.Ground.phase }, { on := 1, ground := Go.Ground.phase }, { on := 2, ground := Go.Ground.phase }, { on := 3, ground := Go.Ground.phase }, { on := 4, ground := Go.Ground.phase }, { on := 5, ground := Go.Ground.phase }, { on := 6, ground := Go.Ground.phase }, { on := 7, ground := Go.Ground.phase }, { on := 8, ground := Go.Ground.phase }, { on := 9, ground := Go.Ground.phase }, { on := 10, ground := Go.Ground.phase }, { on := 11, ground := Go.Ground.phase }, { on := 12, ground := Go.Ground.phase }], guard := none }) (v := ?_) rfl (by kernel_rfl) (by kernel_rfl) (by kernel_rfl) (fun _ _ _ h => h) (Or.inl ⟨by rfl, ?_⟩) trivial ?_); rotate_left
                    · (intro w' hSw; go_simp; try with_reducible rfl)
                    (try simp only [Act.put, List.setIfInBounds_toArray, List.set_cons_zero, List.set_cons_succ])
                    refine wpAnyH_ready (rs := [14]) (by kernel_rfl) (by simp) ?_
                    refine AllReadyH.cons (o := { dst := none, op := Go.Op.store 57 (Go.Operand.tmp 136) (Go.Operand.tmp 135), type := 0, pos := "ref.go:78", after := #[{ on := 13, ground := Go.Ground.data }, { on := 12, ground := Go.Ground.data }, { on := 0, ground := Go.Ground.phase }, { on := 1, ground := Go.Ground.phase }, { on := 2, ground := Go.Ground.phase }, { on := 3, ground := Go.Ground.phase }, { on := 4, ground := Go.Ground.phase }, { on := 5, ground := Go.Ground.phase }, { on := 6, ground := Go.Ground.phase }, { on := 7, ground := Go.Ground.phase }, { on := 8, ground := Go.Ground.phase }, { on := 9, ground := Go.Ground.phase }, { on := 10, ground := Go.Ground.phase }, { on := 11, ground := Go.Ground.phase }, { on := 12, ground := Go.Ground.phase }], guard := none }) (by kernel_rfl) (fun K hK => ?_) AllReadyH.nil
                    go_simp
                    refine hK.out _ _ trivial (fun _ => ?_)
                    clear hK K
                    (try simp only [Act.put, List.setIfInBounds_toArray, List.set_cons_zero, List.set_cons_succ])
                    refine wpAnyH_done (by kernel_rfl) ?_ _
                    go_wp2_with fail
                    go_roundw
                    case measure => simp only [intOf]; omega
                    case rel => exact ⟨j + 1, _, rfl, by omega, HEND.out⟩
            · have z1 : ¬ (j : Int) < (L : Int) := by omega
              have HNF : Hid (RR W H f tt nr P GB G T FR' w (i + 1) all2 wj) := Lib.hid (by
                have hjj : j = L := by omega
                refine ⟨HF2.out.pl, ?_, HF2.out.row, HF2.out.ext, HF2.out.map⟩
                rw [HWAY.out, show 600 - (i + 1) = n from by have := HN.out; omega, HF2.out.allq, hjj, HL.out, List.take_length])
              go_wp2_with fail
              go_roundw
              case measure => simp only [intOf]; omega
              case rel => exact ⟨i + 1, all2, rfl, by omega, HNF.out⟩
    · have y1 : ¬ (i : Int) < 600 := by omega
      have HPW : Hid (pway W H FR' f tt nr = none) := Lib.hid (by rw [← HF.out.way, show 600 - i = 0 from by omega]; rfl)
      go_wp2_with fail
      go_ret2
      unfold FPost
      rw [← hFR'.out, HPW.out]
      exact ⟨rfl, HF.out.ext⟩
end Go.Proofs.Ytmceaocknlnmpaa.Pth
