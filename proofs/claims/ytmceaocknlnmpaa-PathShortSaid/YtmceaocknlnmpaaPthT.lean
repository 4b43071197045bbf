/- Path: Find. -/
import Derived.Test.YtmceaocknlnmpaaPthS
namespace Go.Proofs.Ytmceaocknlnmpaa.Pth
open Go.ChangeShapes Go.WideShapes Go.ChangeAt Go.RowKit
open Go.Proofs.Ytmceaocknlnmpaa.Rec Go.Proofs.Ytmceaocknlnmpaa.Grid
set_option linter.unusedVariables false
section
variable {h : Nat → Nat} {nb : Nat → List Nat} {free : Nat → Bool} {f n t : Nat} {all : List Ti}
theorem afind_none (hb : best h all all.length = none) : afind h nb free f (n + 1) all = none := by rw [afind, hb]
theorem afind_goal (hb : best h all all.length = some t) (h0 : h t = 0) : afind h nb free f (n + 1) all = some (back (shut all t) f ((ti all t).g + 1) t []) := by rw [afind, hb]; exact if_pos h0
theorem afind_go (hb : best h all all.length = some t) (h0 : h t ≠ 0) : afind h nb free f (n + 1) all = afind h nb free f n ((nb t).foldl (relax free t) (shut all t)) := by rw [afind, hb]; exact if_neg h0
end
/-- What Find answers. -/
def FPost (W H : Nat) (free : Nat → Bool) (f tt nr : Nat) (w : World) (e : Ending) (w' : World) : Prop :=
  (match pway W H free f tt nr with
    | none => e = .returned (.tuple #[.slice none 0 0, .bool false])
    | some l => ∃ v, e = .returned (.tuple #[v, .bool true]) ∧ Rw w.heap.size w' v l) ∧ Ext w w'
/-- What Find's rounds keep. -/
structure FR (W H f tt nr : Nat) (T : ByteArray) (bu : Value) (free : Nat → Bool) (w : World) (B M i : Nat) (all : List Ti) (C : Co) (q : List Nd) (v : Value) (wr : World) : Prop where
  fi : Fi (hh W tt nr) (W * H) f i all C q
  few : q.length ≤ 1 + 4 * i
  way : afind (hh W tt nr) (nxt W H) free f (600 - i) all = pway W H free f tt nr
  se : Se (w.heap.size + 1) B M W H T bu (tt : Int) (nr : Int) C q v wr
  ext : Ext w wr
  map : Blk wr w.heap.size 25 #[.int .i64 (W : Int), .int .i64 (H : Int), .string T]
/-- What the rounds over the tiles next to one keep. -/
structure FN (W H f tt nr : Nat) (T : ByteArray) (bu : Value) (free : Nat → Bool) (w : World) (B M i t g hv D gl c j : Nat) (all0 all : List Ti) (C : Co) (q : List Nd) (v : Value) (wr : World) : Prop where
  fi : Fi (hh W tt nr) (W * H) f (i + 1) all C q
  own : (ti all t).seen = true ∧ (ti all t).g = g
  few : q.length ≤ 1 + 4 * i + j
  all : all = ((nxt W H t).take j).foldl (relax free t) (shut all0 t)
  se : Se (w.heap.size + 1) B M W H T bu (tt : Int) (nr : Int) C q v wr
  ext : Ext w wr
  map : Blk wr w.heap.size 25 #[.int .i64 (W : Int), .int .i64 (H : Int), .string T]
  node : Blk wr D 51 #[.int .i64 (t : Int), .int .i64 (g : Int), .int .i64 (hv : Int)]
  row : Rw (w.heap.size + 1) wr (.slice (some ⟨gl, 0, none⟩) (nxt W H t).length c) (nxt W H t)
  offD : Off v D
  offg : Off v gl
theorem FR.node {W H f tt nr : Nat} {T : ByteArray} {bu : Value} {free : Nat → Bool} {w wr w' : World} {B M i t : Nat} {all : List Ti} {C : Co} {q q' : List Nd} {v v' : Value} (h : FR W H f tt nr T bu free w B M i all C q v wr)
    (hb : best (hh W tt nr) all all.length = some t) (hp : Hp (hh W tt nr) (shut all t) q') (hq : ∀ a ∈ q', a ∈ q) (hl : q'.length ≤ q.length) (hS : Se (w.heap.size + 1) B M W H T bu (tt : Int) (nr : Int) C q' v' w') (hr : SR wr w' B M v v') (hB : w.heap.size + 1 ≤ B) (hM : w.heap.size + 1 ≤ M) :
    (Fi (hh W tt nr) (W * H) f i (shut all t) C q' ∧ t < W * H ∧ (ti (shut all t) t).seen = true ∧ (ti (shut all t) t).g = (ti all t).g ∧ (ti all t).g ≤ i ∧ (ti all t).seen = true) ∧ q'.length ≤ 1 + 4 * i ∧ Ext w w' ∧ Blk w' w.heap.size 25 #[.int .i64 (W : Int), .int .i64 (H : Int), .string T] := by
  refine ⟨h.fi.take hb hp hq, Nat.le_trans hl h.few, hr.below h.ext (by omega) (by omega) (fun k hk => by have := h.se.own_ge k hk; omega), ?_⟩
  exact (hr.block w.heap.size h.map.lt (by omega) (by omega) (fun e => by have := h.se.own_ge _ e; omega)).trans h.map
theorem tk_none {base B M W H : Nat} {T : ByteArray} {bu v0 : Value} {tv near : Int} {C : Co} {h : Nat → Nat} {all : List Ti} {q0 : List Nd} {w w' : World} {e : Ending} (hp : TkPost base B M W H T bu tv near C h all q0 v0 w e w') (hb : best h all all.length = none) :
    e = .returned (.tuple #[.agg #[.int .i64 0, .int .i64 0, .int .i64 0], .bool false]) ∧ ∃ v, SR w w' B M v0 v := by
  unfold TkPost at hp; rw [hb] at hp; exact hp
theorem tk_some {base B M W H t : Nat} {T : ByteArray} {bu v0 : Value} {tv near : Int} {C : Co} {h : Nat → Nat} {all : List Ti} {q0 : List Nd} {w w' : World} {e : Ending} (hp : TkPost base B M W H T bu tv near C h all q0 v0 w e w') (hb : best h all all.length = some t) :
    e = .returned (.tuple #[.agg #[.int .i64 (t : Int), .int .i64 ((ti all t).g : Int), .int .i64 (h t : Int)], .bool true]) ∧ ∃ q v, Hp h (shut all t) q ∧ (∀ a ∈ q, a ∈ q0) ∧ q.length ≤ q0.length ∧ Se base B M W H T bu tv near C q v w' ∧ SR w w' B M v0 v := by
  unfold TkPost at hp; rw [hb] at hp; exact hp
theorem rw_mono {b b' : Nat} {w : World} {v : Value} {xs : List Nat} (h : Rw b w v xs) (hb : b' ≤ b) : Rw b' w v xs := by
  rcases h with ⟨h1, h2 | ⟨g, cap, cur, r1, r2, r3⟩⟩
  · exact ⟨h1, .inl h2⟩
  · exact ⟨h1, .inr ⟨g, cap, cur, r1, Nat.le_trans hb r2, r3⟩⟩
theorem hh_small {W tt nr x : Nat} (hW : 0 < W) (hW2 : W ≤ 64) (hx : x ≤ 5000) (ht : tt ≤ 5000) : hh W tt nr x ≤ 20000 := by
  have := far_small (W := W) (a := x) (b := tt) hW
  unfold hh; omega
theorem FN.step {W H f tt nr : Nat} {T : ByteArray} {bu : Value} {free : Nat → Bool} {w : World} {B M i t g hv D gl c j x : Nat} {all0 all : List Ti} {C C' : Co} {q q' : List Nd} {v v' : Value} {wr w' : World} (h : FN W H f tt nr T bu free w B M i t g hv D gl c j all0 all C q v wr)
    (hW : 4 ≤ W) (hW2 : W ≤ 64) (hP : W * H ≤ 4999) (htt : tt ≤ 5000) (hgi : g ≤ i) (hxn : (nxt W H t)[j]? = some x) (ht : t < W * H) (hB : w.heap.size + 1 ≤ B) (hM : w.heap.size + 1 ≤ M) (hDB : D ≠ B) (hDM : D ≠ M) (hgB : gl ≠ B) (hgM : gl ≠ M)
    (hS : Se (w.heap.size + 1) B M W H T bu (tt : Int) (nr : Int) C' q' v' w') (hr : SR wr w' B M v v') (R : Rch C q free (hh W tt nr) x t (g + 1) C' q') :
    FN W H f tt nr T bu free w B M i t g hv D gl c (j + 1) all0 (relax free t all x) C' q' v' w' := by
  have hx : x < W * H := nxt_lt hW ht (List.mem_of_getElem? hxn)
  obtain ⟨h1, h2, h3⟩ := h.fi.step h.own.1 h.own.2 hgi hx (by omega) (hh_small (by omega) hW2 (by omega) htt) R
  have hgl : gl < wr.heap.size := (World.ownsRow.lt h.row gl rfl).2
  refine ⟨h1, h2, by have := h.few; omega, ?_, hS, hr.below h.ext (by omega) (by omega) (fun k hk => by have := h.se.own_ge k hk; omega), ?_, ?_, ?_, hr.off h.offD h.node.lt, hr.off h.offg hgl⟩
  · rw [List.take_add_one, hxn, h.all, List.foldl_append]; rfl
  · exact (hr.block w.heap.size h.map.lt (by omega) (by omega) (fun e => by have := h.se.own_ge _ e; omega)).trans h.map
  · exact (hr.block D h.node.lt hDB hDM h.offD).trans h.node
  · exact own_keep h.row (fun k hk => by cases hk; exact hr.block gl hgl hgB hgM h.offg)
theorem cF_none : cF (fun _ => none) = fun _ => none := by funext k; unfold cF; split <;> rfl
theorem se_new {base W H : Nat} {T : ByteArray} {bu : Value} {tv near : Int} {w2 : World} (hb : base ≤ w2.heap.size) :
    Se base (w2.heap.size + 1) w2.heap.size W H T bu tv near (fun _ => none) [] (.slice none 0 0) ((w2.alloc (.map #[] 0)).alloc (.cells (sM W H T bu (.map (some w2.heap.size)) (.slice none 0 0) tv near) 48)) := by
  refine ⟨Blk.new1 w2 _ _ _, OwnR.nil _ _ _ _ _, ?_, heap_nil, by rw [World.size_alloc, World.size_alloc]; omega⟩
  rw [cF_none]
  exact (Map64.MapR.new w2).ext (ext_alloc (Ext.rfl' _) _)
set_option maxHeartbeats 8000000 in
set_option maxRecDepth 100000 in
theorem find_st (W H f tt nr : Nat) (T : ByteArray) (bu : Value) (bz : Nat → Bool) (w : World) (hbu : Busy bu bz w) (hW : 4 ≤ W) (hW2 : W ≤ 64) (hH : 4 ≤ H) (hH2 : H ≤ 64) (hs : T.size = W * H) (hs2 : T.size ≤ 4999) (hf : f < T.size) (ht : tt < T.size) (hnr : (nr : Int) ≤ 9223372036854775807) :
    Calls Try.prog 8 #[.agg #[.int .i64 (W : Int), .int .i64 (H : Int), .string T], bu, .int .i64 (f : Int), .int .i64 (tt : Int), .int .i64 (nr : Int)] w (FPost W H (sfree T bz) f tt nr w) := by
  have HBU := Lib.hid hbu
  have HSZ := Lib.hid hs
  have HONF := Lib.hid (fun w' => on_yes W H f T w' hW (by omega) hf)
  have HONT := Lib.hid (fun w' => on_yes W H tt T w' hW (by omega) ht)
  have y1 : decide ((nr : Int) < 0) = false := decide_eq_false (by omega)
  have hmm := @run_makeMap Try.prog
  clear hbu hs
  go_enter Try.func8, Try.ntmps8
  go_upto_region 1 with fail
  obtain ⟨GM, hGM⟩ : ∃ G, G = w.heap.size := ⟨_, rfl⟩
  have K0 := Lib.hid (Blk.new w 25 #[.int .i64 (W : Int), .int .i64 (H : Int), .string T])
  have E0 := Lib.hid (ext_alloc (Ext.rfl' w) (.cells #[.int .i64 (W : Int), .int .i64 (H : Int), .string T] 25))
  have Z0 : Hid (w.heap.size + 1 ≤ (w.alloc (.cells #[.int .i64 (W : Int), .int .i64 (H : Int), .string T] 25)).heap.size) := Lib.hid (by rw [World.size_alloc]; omega)
  obtain ⟨w0, hw0⟩ : ∃ W0, W0 = w.alloc (.cells #[.int .i64 (W : Int), .int .i64 (H : Int), .string T] 25) := ⟨_, rfl⟩
  rw [← hw0] at K0 E0 Z0 ⊢
  rw [← hGM] at K0 ⊢
  replace hGM := Lib.hid hGM
  clear hw0
  have k0 := fun i => K0.out.cell i
  go_wp2_with fail
  refine (HONF.out _).mono ?_
  rintro e w1 ⟨rfl, b1⟩
  have K1 := Lib.hid (K0.out.ext b1); have E1 := Lib.hid (ext_trans E0.out b1); have Z1 : Hid (w.heap.size + 1 ≤ w1.heap.size) := Lib.hid (Nat.le_trans Z0.out b1.size)
  clear b1 k0
  have k1 := fun i => K1.out.cell i
  go_wp2_with fail
  refine (HONT.out _).mono ?_
  rintro e w2 ⟨rfl, b2⟩
  have K2 := Lib.hid (K1.out.ext b2); have E2 := Lib.hid (ext_trans E1.out b2); have Z2 : Hid (w.heap.size + 1 ≤ w2.heap.size) := Lib.hid (Nat.le_trans Z1.out b2.size)
  clear b2 k1 K1 E1 Z1 K0 E0 Z0
  have k2 := fun i => K2.out.cell i
  go_upto_region 3 with fail
  go_cut [12] (fun s12 wx => s12 = .pointer (some ⟨w2.heap.size + 1, 0, none⟩) ∧ wx = (w2.alloc (.map #[] 0)).alloc (.cells (sM W H T bu (.map (some w2.heap.size)) (.slice none 0 0) (tt : Int) (nr : Int)) 48))
  case first =>
    rcases HBU.out with ⟨rfl, _⟩ | ⟨id, caps, rfl, _⟩
    · go_wp2_with fail
      go_meet
      exact ⟨rfl, rfl⟩
    · go_wp2_with fail
      go_meet
      exact ⟨rfl, rfl⟩
  case rest =>
  obtain ⟨rfl, hwc⟩ := hcut
  have hse := se_new (base := w.heap.size + 1) (W := W) (H := H) (T := T) (bu := bu) (tv := (tt : Int)) (near := (nr : Int)) Z2.out
  have hE := ext_alloc (ext_alloc E2.out (.map #[] 0)) (.cells (sM W H T bu (.map (some w2.heap.size)) (.slice none 0 0) (tt : Int) (nr : Int)) 48)
  have hK := (K2.out.alloc (.map #[] 0)).alloc (.cells (sM W H T bu (.map (some w2.heap.size)) (.slice none 0 0) (tt : Int) (nr : Int)) 48)
  rw [← hwc] at hse hE hK
  have HM0 := Lib.hid Z2.out
  have hBM : w2.heap.size + 1 = (w2.heap.size + 1) := rfl
  obtain ⟨M, hM⟩ : ∃ M, M = w2.heap.size := ⟨_, rfl⟩
  rw [← hM] at hse HM0 ⊢
  obtain ⟨B, hB⟩ : ∃ B, B = M + 1 := ⟨_, rfl⟩
  rw [← hB] at hse ⊢
  replace hB := Lib.hid hB
  have HSE := Lib.hid hse; have HE := Lib.hid hE; have HK := Lib.hid hK
  clear hwc hse hE hK hM k2 hmm hBM K2 E2 Z2 HONF HONT y1
  have h5 : hh W tt nr f ≤ 20000 := hh_small (by omega) hW2 (by omega) (by omega)
  have HRE := Lib.hid (reach_st (w.heap.size + 1) B M W H f f 0 tt nr T bu _ bz _ [] w wc HSE.out HBU.out HE.out hW hW2 (by omega) hf ht hnr (by omega) (by omega) (by simp) (by intro a ha; simp at ha; subst ha; exact ⟨by show f ≤ 100000; omega, by show 0 ≤ 100000; omega, by show hh W tt nr f ≤ 100000; omega⟩))
  go_wp2_with fail
  refine HRE.out.mono ?_
  rintro e w3 ⟨rfl, C3, q3, v3, hse3, hsr3, hr3⟩
  have HFR : Hid (FR W H f tt nr T bu (sfree T bz) w B M 0 (first (W * H) f) C3 q3 v3 w3) := Lib.hid (by
    obtain ⟨hfi, hql⟩ := Fi.start (P := W * H) (by rw [← HSZ.out]; exact hf) (by omega) h5 hr3
    have hBge : w.heap.size + 1 ≤ B := by have := hB.out; have := HM0.out; omega
    refine ⟨hfi, by omega, rfl, hse3, hsr3.below HE.out (by omega) (by have := HM0.out; omega) (fun k hk => by cases hk), ?_⟩
    have := hsr3.block GM HK.out.lt (by have := hGM.out; omega) (by have := hGM.out; have := HM0.out; omega) (fun e => by cases e)
    rw [← hGM.out]; exact this.trans HK.out)
  clear hse3 hsr3 hr3 HSE HE HK HRE h5
  go_wp2_with fail
  have HBG : Hid (w.heap.size + 1 ≤ B) := Lib.hid (by have := hB.out; have := HM0.out; omega)
  clear hB
  go_loopw [42] (fun iv wr => ∃ (i : Nat) (all : List Ti) (C : Co) (q : List Nd) (v : Value), iv = .int .i64 (i : Int) ∧ i ≤ 600 ∧ FR W H f tt nr T bu (sfree T bz) w B M i all C q v wr) (fun iv _ => 600 - (intOf iv).toNat)
  case atStart => exact ⟨0, _, C3, q3, v3, rfl, by omega, HFR.out⟩
  case round =>
    obtain ⟨i, all, C, q, v, rfl, hi, hF⟩ := hrel
    obtain ⟨wi, rfl⟩ : ∃ wi : World, wi = wr := ⟨_, rfl⟩
    have HF := Lib.hid hF
    clear hF HFR
    by_cases hi6 : i < 600
    · have y1 : (i : Int) < 600 := by omega
      have HTK := Lib.hid (take_st (w.heap.size + 1) B M W H f T bu v (tt : Int) (nr : Int) C (hh W tt nr) all q wi HF.out.se HF.out.fi.cm HF.out.fi.hp (by have := HF.out.few; omega) (HF.out.fi.sn.sm (by omega)))
      have y2 : IntKind.i64.wrap ((i : Int) + 1) = ((i + 1 : Nat) : Int) := by rw [IntWalk.i64_in _ (by omega)]; omega
      obtain ⟨n, hn⟩ : ∃ n, 600 - i = n + 1 := ⟨600 - i - 1, by omega⟩
      have HN := Lib.hid hn
      clear hn
      cases hb : best (hh W tt nr) all all.length with
      | none =>
        have HB := Lib.hid hb
        have HPW : Hid (pway W H (sfree T bz) f tt nr = none) := Lib.hid (by rw [← HF.out.way, HN.out]; exact afind_none hb)
        clear hb
        go_wp2_with fail
        refine HTK.out.mono ?_
        intro e w4 hpo
        obtain ⟨rfl, v4, hr4⟩ := tk_none hpo HB.out
        clear hpo
        have HE4 : Hid (Ext w w4) := Lib.hid (hr4.below HF.out.ext (by have := HBG.out; omega) (by have := HM0.out; omega) (fun k hk => by have := HF.out.se.own_ge k hk; omega))
        clear hr4
        go_wp2_with fail
        go_ret2
        unfold FPost
        rw [HPW.out]
        exact ⟨rfl, ext_alloc HE4.out _⟩
      | some t =>
        have HB := Lib.hid hb
        clear hb
        have hnd : (cNd (nd (hh W tt nr) all t)).toArray = #[.int .i64 (t : Int), .int .i64 ((ti all t).g : Int), .int .i64 (hh W tt nr t : Int)] := rfl
        obtain ⟨g, hg⟩ : ∃ g, g = (ti all t).g := ⟨_, rfl⟩
        obtain ⟨hv, hhv⟩ : ∃ hv, hv = hh W tt nr t := ⟨_, rfl⟩
        rw [← hg, ← hhv] at hnd
        have HG := Lib.hid hg; have HHV := Lib.hid hhv; have HND := Lib.hid hnd
        clear hg hhv hnd
        go_wp2_with fail
        refine HTK.out.mono ?_
        intro e w4 hpo
        obtain ⟨he, q4, v4, hp4, hq4, hl4, hs4, hr4⟩ := tk_some hpo HB.out
        rw [← HG.out, ← HHV.out] at he
        subst he
        clear hpo
        obtain ⟨hT1, hT2, hT3, hT4⟩ := HF.out.node HB.out hp4 hq4 hl4 hs4 hr4 HBG.out HM0.out
        have HT1 := Lib.hid hT1; have HT2 := Lib.hid hT2; have HT3 := Lib.hid hT3; have HT4 := Lib.hid hT4; have HS4 := Lib.hid hs4
        clear hT1 hT2 hT3 hT4 hp4 hq4 hl4 hs4 hr4 HTK
        have hd0 := Blk.new w4 51 #[.int .i64 (t : Int), .int .i64 (g : Int), .int .i64 (hv : Int)]
        have hE4 := ext_alloc (Ext.rfl' w4) (.cells #[.int .i64 (t : Int), .int .i64 (g : Int), .int .i64 (hv : Int)] 51)
        have hDo : Off v4 w4.heap.size := fun e => by have := (World.ownsRow.lt HS4.out.own _ e).2; omega
        have hDB : w4.heap.size ≠ B := fun e => by have := HS4.out.blk.lt; omega
        have hDM : w4.heap.size ≠ M := fun e => by have := HS4.out.map.lt; omega
        have hs5 : Hid (w.heap.size + 1 ≤ w4.heap.size) := Lib.hid HS4.out.base
        go_upto_region 8 with fail
        obtain ⟨w5, hw5⟩ : ∃ W5, W5 = w4.alloc (.cells #[.int .i64 (t : Int), .int .i64 (g : Int), .int .i64 (hv : Int)] 51) := ⟨_, rfl⟩
        rw [← hw5] at hd0 hE4 ⊢
        obtain ⟨D, hD⟩ : ∃ D, D = w4.heap.size := ⟨_, rfl⟩
        rw [← hD] at hd0 hDo hDB hDM hs5 ⊢
        clear hw5 hD
        have HD5 := Lib.hid hd0; have HDO := Lib.hid hDo; have HDB := Lib.hid hDB; have HDM := Lib.hid hDM
        have HS5 := Lib.hid (HS4.out.ext hE4); have HE5 := Lib.hid (ext_trans HT3.out hE4); have HK5 := Lib.hid (HT4.out.ext hE4)
        clear hd0 hDo hDB hDM hE4 HS4 HT3 HT4
        have d5 := fun i => HD5.out.cell i
        by_cases hv0 : hv = 0
        · have y3 : (hv : Int) = 0 := by omega
          have HPW : Hid (pway W H (sfree T bz) f tt nr = some (back (shut all t) f ((ti (shut all t) t).g + 1) t [])) := Lib.hid (by
            rw [← HF.out.way, HN.out, afind_goal HB.out (HHV.out.symm.trans hv0), HT1.out.2.2.2.1])
          have HWAY := Lib.hid (way_st (w.heap.size + 1) B M W H f t T bu v4 (tt : Int) (nr : Int) C (shut all t) q4 w5 HS5.out HT1.out.1.cm HT1.out.1.ch HT1.out.2.2.1 (by have := HT1.out.2.2.2.2.1; rw [HT1.out.2.2.2.1]; omega))
          go_wp2_with fail
          refine HWAY.out.mono ?_
          rintro e w6 ⟨v6, rfl, hr6, hE6⟩
          have HR6 := Lib.hid hr6; have HE6 := Lib.hid (ext_trans HE5.out hE6)
          clear hr6 hE6
          go_wp2_with fail
          go_ret2
          unfold FPost
          rw [HPW.out]
          exact ⟨⟨v6, rfl, rw_mono HR6.out HE5.out.size⟩, HE6.out⟩
        · have y3 : ¬ (hv : Int) = 0 := by omega
          have k5 := fun i => HK5.out.cell i
          rw [← hGM.out] at k5
          have HNX := Lib.hid (next_yes W H t T w5 hW hW2 hH hH2 (by omega) (by have := HT1.out.2.1; have := HSZ.out; omega))
          go_wp2_with fail
          refine HNX.out.mono ?_
          rintro e w6 ⟨vr, rfl, hr6, hE6⟩
          have hrow : Rw w5.heap.size w6 vr (nxt W H t) := Rw.of hr6
          have hL := nxt_pos' (W := W) (H := H) (t := t) hW
          have hL4 := nxt_len W H t
          obtain ⟨gl, c, rfl⟩ : ∃ gl c, vr = .slice (some ⟨gl, 0, none⟩) (nxt W H t).length c := by
            rcases hrow.2 with ⟨_, hz⟩ | ⟨g', cap, cur, hv', _⟩
            · omega
            · exact ⟨g', cap, hv'⟩
          have hgl := (World.ownsRow.lt hrow gl rfl).1
          have HGB : Hid (gl ≠ B) := Lib.hid (fun e => by have := HS5.out.blk.lt; omega)
          have HGM2 : Hid (gl ≠ M) := Lib.hid (fun e => by have := HS5.out.map.lt; omega)
          have HFN : Hid (FN W H f tt nr T bu (sfree T bz) w B M i t g hv D gl c 0 all (shut all t) C q4 v4 w6) := Lib.hid
            ⟨HT1.out.1.more (by omega), ⟨HT1.out.2.2.1, HT1.out.2.2.2.1.trans HG.out.symm⟩, HT2.out, rfl, HS5.out.ext hE6, ext_trans HE5.out hE6, HK5.out.ext hE6, HD5.out.ext hE6, rw_mono hrow HS5.out.base, HDO.out, fun e => by have := (World.ownsRow.lt HS5.out.own _ e).2; omega⟩
          obtain ⟨L, hLL⟩ : ∃ L, L = (nxt W H t).length := ⟨_, rfl⟩
          rw [← hLL] at hL hL4 ⊢
          have HL := Lib.hid hLL
          have HGI : Hid (g ≤ i) := Lib.hid (by have := HT1.out.2.2.2.2.1; have := HG.out; omega)
          have HTP := Lib.hid HT1.out.2.1
          have HWAY : Hid (pway W H (sfree T bz) f tt nr = afind (hh W tt nr) (nxt W H) (sfree T bz) f n ((nxt W H t).foldl (relax (sfree T bz) t) (shut all t))) := Lib.hid (by
            rw [← HF.out.way, HN.out, afind_go HB.out (by rw [← HHV.out]; exact hv0)])
          clear hr6 hE6 hrow hgl hLL d5 k5 HD5 HDO HS5 HE5 HK5 HT1 HT2 HNX y3
          go_wp2_with fail
          go_loopw [64] (fun jv wr => ∃ (j : Nat) (all2 : List Ti) (C2 : Co) (q2 : List Nd) (v2 : Value), jv = .int .i64 (j : Int) ∧ j ≤ L ∧ FN W H f tt nr T bu (sfree T bz) w B M i t g hv D gl c j all all2 C2 q2 v2 wr) (fun jv _ => L - (intOf jv).toNat)
          case atStart => exact ⟨0, _, C, q4, v4, rfl, by omega, HFN.out⟩
          case round =>
            obtain ⟨j, all2, C2, q2, v2, rfl, hj, hF2⟩ := hrel
            obtain ⟨wj, rfl⟩ : ∃ wj : World, wj = wr := ⟨_, rfl⟩
            have HF2 := Lib.hid hF2
            clear hF2 HFN
            by_cases hjL : j < L
            · have z1 : (j : Int) < (L : Int) := by omega
              have z2 : (0 : Int) ≤ (j : Int) := by omega
              have z3 : IntKind.i64.wrap ((j : Int) + 1) = ((j + 1 : Nat) : Int) := by rw [IntWalk.i64_in _ (by omega)]; omega
              obtain ⟨x, hx⟩ : ∃ x, (nxt W H t)[j]? = some x := ⟨(nxt W H t)[j]'(by rw [← HL.out]; exact hjL), List.getElem?_eq_getElem _⟩
              have hxl : x < W * H := nxt_lt hW HTP.out (List.mem_of_getElem? hx)
              have cx : wj.cell? ⟨gl, j, none⟩ = some (.int .i64 (x : Int)) := by
                have := Rw.cell (i := j) rfl HF2.out.row (by rw [← HL.out]; exact hjL)
                rw [List.getD_eq_getElem?_getD, hx] at this; exact this
              have HX := Lib.hid hx; have HXL := Lib.hid hxl
              have d0 : wj.cell? ⟨D, 0, none⟩ = some (.int .i64 (t : Int)) := HF2.out.node.cell 0
              have d1 : wj.cell? ⟨D, 1, none⟩ = some (.int .i64 (g : Int)) := HF2.out.node.cell 1
              have z4 : IntKind.i64.wrap ((g : Int) + 1) = ((g + 1 : Nat) : Int) := by have := HGI.out; rw [IntWalk.i64_in _ (by omega)]; omega
              have HRE := Lib.hid (reach_st (w.heap.size + 1) B M W H x t (g + 1) tt nr T bu v2 bz C2 q2 w wj HF2.out.se HBU.out HF2.out.ext hW hW2 (by omega) (by have := HSZ.out; omega) ht hnr (by have := HGI.out; omega) (by have := HTP.out; have := HSZ.out; omega) (by have := HF2.out.few; omega)
                (fun a ha => by
                  rcases List.mem_append.1 ha with h1 | h1
                  · have := HF2.out.fi.sn a h1; omega
                  · rw [List.mem_singleton.1 h1]
                    have := hh_small (tt := tt) (nr := nr) (x := x) (W := W) (by omega) hW2 (by have := HSZ.out; omega) (by omega)
                    exact ⟨by show x ≤ 100000; have := HSZ.out; omega, by show g + 1 ≤ 100000; have := HGI.out; omega, by show hh W tt nr x ≤ 100000; omega⟩))
              clear hx hxl
              go_wp2_with fail
              refine HRE.out.mono ?_
              rintro e w8 ⟨rfl, C8, q8, v8, hs8, hr8, hR8⟩
              have HN8 := Lib.hid (HF2.out.step hW hW2 (by have := HSZ.out; omega) (by omega) HGI.out HX.out HTP.out HBG.out HM0.out HDB.out HDM.out HGB.out HGM2.out hs8 hr8 hR8)
              clear hs8 hr8 hR8
              go_wp2_with fail
              go_roundw
              case measure => simp only [intOf]; omega
              case rel => exact ⟨j + 1, _, C8, q8, v8, rfl, by omega, HN8.out⟩
            · have z1 : ¬ (j : Int) < (L : Int) := by omega
              have HNF : Hid (FR W H f tt nr T bu (sfree T bz) w B M (i + 1) all2 C2 q2 v2 wj) := Lib.hid (by
                have hjj : j = L := by omega
                refine ⟨HF2.out.fi, by have := HF2.out.few; omega, ?_, HF2.out.se, HF2.out.ext, HF2.out.map⟩
                rw [HWAY.out, show 600 - (i + 1) = n from by have := HN.out; omega, HF2.out.all, hjj, HL.out, List.take_length])
              go_wp2_with fail
              go_roundw
              case measure => simp only [intOf]; omega
              case rel => exact ⟨i + 1, all2, C2, q2, v2, rfl, by omega, HNF.out⟩
    · have y1 : ¬ (i : Int) < 600 := by omega
      have HPW : Hid (pway W H (sfree T bz) f tt nr = none) := Lib.hid (by rw [← HF.out.way, show 600 - i = 0 from by omega]; rfl)
      go_wp2_with fail
      go_ret2
      unfold FPost
      rw [HPW.out]
      exact ⟨rfl, HF.out.ext⟩
end Go.Proofs.Ytmceaocknlnmpaa.Pth
