/- Headers: whether one may be (plain; walked). -/
import Derived.Test.YtlldmpcamdginaaG4
import Derived.Test.YtlldmpcamdginaaG1
import Derived.Deep.LoopGhost
import Derived.Deep.Cut
import Derived.Test.YtlldmpcamdginaaG5
import Derived.Test.YtlldmpcamdginaaG2
import Derived.StillTailTactics
import Derived.Laws.Rows
import Derived.Laws.Tables
namespace Go.Proofs.Ytlldmpcamdginaa.Log
open Go.ChangeShapes Go.WideShapes Go.ChangeAt Go.RowKit
open Go.Proofs.Ytlldmpcamdginaa.Rec
open Go.Proofs.Ytlldmpcamdginaa.Grid (okm newR mval new_any walk_yes walk_no)
open Go.Proofs.Ytlldmpcamdginaa.Map64 (MapR)
set_option linter.unusedVariables false

/-- A unit that is there at first, as it stands in a slice. -/
structure Sv where
  owner : Nat
  kind : Nat
  tile : Int
def cS (u : Sv) : List Value := [.int .u8 (u.owner : Int), .int .u8 (u.kind : Int), .int .i64 u.tile]
theorem cS_len (u : Sv) : (cS u).length = 3 := rfl
def Sv.fits (u : Sv) : Prop := u.owner < 256 ∧ u.kind < 256 ∧ -9223372036854775808 ≤ u.tile ∧ u.tile ≤ 9223372036854775807
/-- A header's numbers, its tiles' text, its units. -/
structure Hv where
  w : Int
  h : Int
  players : Int
  seed : Nat
  tiles : ByteArray
  starts : List Sv
/-- The header as a value; v: its slice. -/
def cH (x : Hv) (v : Value) : Array Value := #[.int .i64 x.w, .int .i64 x.h, .int .i64 x.players, .int .u32 (x.seed : Int), .string x.tiles, v]
def walkB (T : ByteArray) (t : Int) : Bool := if h : 0 ≤ t ∧ t.toNat < T.size then (((T[t.toNat]'h.2).toNat : Int) == 0) else false
def mayB (p : Int) (T : ByteArray) : List Int → List Sv → Bool
  | _, [] => true
  | tk, u :: us => decide ((u.owner : Int) < p) && (decide (1 ≤ u.kind) && (decide (u.kind ≤ 5) && (walkB T u.tile && (!decide (u.tile ∈ tk) && mayB p T (u.tile :: tk) us))))
def mayH (x : Hv) : Prop := okm x.w x.h x.tiles ∧ 1 ≤ x.players ∧ x.players ≤ 4 ∧ x.starts.length ≤ 128 ∧ mayB x.players x.tiles [] x.starts = true
instance (x : Hv) : Decidable (mayH x) := by unfold mayH; infer_instance
theorem walk_any (W H : Nat) (T : ByteArray) (t : Int) (w : World) (hW : 4 ≤ W) (hs : T.size ≤ 5000) :
    Calls Try.prog 36 #[.agg #[.int .i64 (W : Int), .int .i64 (H : Int), .string T], .int .i64 t] w fun e w' => e = .returned (.bool (walkB T t)) ∧ Ext w w' := by
  unfold walkB
  by_cases h : 0 ≤ t ∧ t.toNat < T.size
  · rw [dif_pos h]
    obtain ⟨n, rfl⟩ : ∃ n : Nat, t = (n : Int) := ⟨t.toNat, by omega⟩
    have hn : n < T.size := by have := h.2; rwa [Int.toNat_natCast] at this
    have := walk_yes W H n T w hW hs hn
    simpa using this
  · rw [dif_neg h]
    exact walk_no W H t T w hW hs (by omega)
theorem zU (w : World) : (zeroValue 98).run Try.prog w = .ok (.agg #[]) w := by kernel_rfl
def mF (tk : List Int) : Int → Option Value := fun t => if t ∈ tk then some (.agg #[]) else none
theorem mF_get (tk : List Int) (t : Int) : (mF tk t).getD (.agg #[]) = .agg #[] ∧ (mF tk t).isSome = decide (t ∈ tk) := by
  unfold mF; by_cases h : t ∈ tk <;> simp [h]
theorem kept1 {w w' : World} {g r : Nat} {t : TypeId} {cs : Array Value} (h : Blk w g t cs) (k : w.grownBy w' (some r)) (hne : g ≠ r) : Blk w' g t cs := (k.block g h.lt (by simpa using hne)).trans h
/-- Where the loop of May stands. -/
def MRel (w : World) (hb mb gb : Nat) (H G : Array Value) (p : Int) (T : ByteArray) (us : List Sv) (R : Bool) (gh : Nat) (iv : Value) (wr : World) : Prop :=
  ∃ (k : Nat) (tk : List Int), k + gh = us.length ∧ iv = .int .i64 (k : Int) ∧ MapR wr mb (mF tk) ∧ Blk wr hb 25 H ∧ Blk wr gb 94 G ∧ Ext w wr ∧ R = mayB p T tk (us.drop k)
set_option maxHeartbeats 4000000 in
set_option maxRecDepth 100000 in
theorem may_st (x : Hv) (A : Option Addr) (m c : Nat) (w : World) (hB : RowR w A m 3 cS x.starts) (hf : ∀ u ∈ x.starts, u.fits) (hs : x.tiles.size ≤ 5000) (hm : m ≤ 1000000)
    (hw1 : -9223372036854775808 ≤ x.w) (hw2 : x.w ≤ 9223372036854775807) (hh1 : -9223372036854775808 ≤ x.h) (hh2 : x.h ≤ 9223372036854775807) :
    Calls Try.prog 9 #[.agg (cH x (.slice A m c))] w fun e w' => e = .returned (.bool (decide (mayH x))) ∧ Ext w w' := by
  generalize hR : decide (mayH x) = R
  replace hR := Lib.hid hR
  obtain ⟨xw, xh, xp, xs, xt, us⟩ := x
  simp only at *
  have HB := Lib.hid hB; have HF := Lib.hid hf
  have HLEN := Lib.hid hB.1
  clear hB hf
  have HN := Lib.hid (fun (W : World) => new_any xw xh xt W hs hw1 hw2 hh1 hh2)
  clear hw1 hw2 hh1 hh2
  unfold cH
  simp only
  by_cases hok : okm xw xh xt
  · have HNR : Hid (newR xw xh xt = .tuple #[mval xw xh xt, .int .i64 0]) := Lib.hid (by unfold newR; rw [if_pos hok])
    obtain ⟨o1, o2, o3, o4, o5, o6⟩ := hok
    obtain ⟨W, rfl⟩ : ∃ W : Nat, xw = (W : Int) := ⟨xw.toNat, by omega⟩
    obtain ⟨H, rfl⟩ : ∃ H : Nat, xh = (H : Int) := ⟨xh.toNat, by omega⟩
    have HOK : Hid (okm (W : Int) (H : Int) xt) := Lib.hid ⟨o1, o2, o3, o4, o5, o6⟩
    have HWK := Lib.hid (fun t w' => walk_any W H xt t w' (by omega) hs)
    clear o1 o2 o3 o4 o5 o6
    have hb0 := Blk.new w 25 #[.int .i64 (W : Int), .int .i64 (H : Int), .int .i64 xp, .int .u32 (xs : Int), .string xt, .slice A m c]
    have HH0 := Lib.hid hb0; clear hb0
    have HE0 := Lib.hid (ext_alloc (Ext.rfl' w) (.cells #[.int .i64 (W : Int), .int .i64 (H : Int), .int .i64 xp, .int .u32 (xs : Int), .string xt, .slice A m c] 25))
    go_enter Try.func9, Try.ntmps9
    go_wp2_with fail
    refine (HN.out _).mono ?_
    rintro e w1 ⟨rfl, hE1⟩
    rw [HNR.out]
    unfold mval
    have HH1 := Lib.hid (HH0.out.ext hE1)
    have HE1 := Lib.hid (ext_trans HE0.out hE1)
    have hhc := fun i => HH1.out.cell i
    have hlt1 : w.heap.size < w1.heap.size := HH1.out.lt
    have HG2 := Lib.hid (Blk.new w1 94 #[.int .i64 (W : Int), .int .i64 (H : Int), .string xt])
    have HH2 := Lib.hid (HH1.out.alloc (.cells #[.int .i64 (W : Int), .int .i64 (H : Int), .string xt] 94))
    have HE2 := Lib.hid (ext_alloc HE1.out (.cells #[.int .i64 (W : Int), .int .i64 (H : Int), .string xt] 94))
    clear hE1 HN HNR HE0 HH0
    by_cases hp1 : 1 ≤ xp
    · by_cases hp4 : xp ≤ 4
      · by_cases hm8 : m ≤ 128
        · have HRR : Hid (R = mayB xp xt [] us) := Lib.hid (by
            rw [← hR.out]
            by_cases hb : mayB xp xt [] us = true
            · rw [hb]; exact decide_eq_true ⟨HOK.out, hp1, hp4, by rw [HLEN.out]; exact hm8, hb⟩
            · rw [Bool.eq_false_iff.2 hb]; exact decide_eq_false (fun h => hb h.2.2.2.2))
          have hmm := @run_makeMap Try.prog
          have hm9 : (m : Int) ≤ 128 := by omega
          clear HOK
          go_upto_region 5 with fail
          clear hmm
          have HM3 := MapR.new (w1.alloc (.cells #[.int .i64 (W : Int), .int .i64 (H : Int), .string xt] 94))
          rw [World.size_alloc] at HM3
          replace HM3 := Lib.hid HM3
          have HREL : Hid (MRel w w.heap.size (w1.heap.size + 1) w1.heap.size #[.int .i64 (W : Int), .int .i64 (H : Int), .int .i64 xp, .int .u32 (xs : Int), .string xt, .slice A m c] #[.int .i64 (W : Int), .int .i64 (H : Int), .string xt] xp xt us R m (.int .i64 ((0 : Nat) : Int)) ((w1.alloc (.cells #[.int .i64 (W : Int), .int .i64 (H : Int), .string xt] 94)).alloc (.map #[] 0))) := Lib.hid <| by
            refine ⟨0, [], by rw [HLEN.out]; omega, rfl, ?_, HH2.out.alloc _, HG2.out.alloc _, ext_alloc HE2.out _, HRR.out⟩
            have : mF [] = fun _ => none := by funext t; simp [mF]
            rw [this]
            exact HM3.out
          obtain ⟨w3, hw3⟩ : ∃ W', W' = (w1.alloc (.cells #[.int .i64 (W : Int), .int .i64 (H : Int), .string xt] 94)).alloc (.map #[] 0) := ⟨_, rfl⟩
          have HH3 := Lib.hid (HH2.out.alloc (.map #[] 0))
          rw [← hw3] at HH3 HREL ⊢
          clear hw3 HM3 HH1 HH2 HG2 HE2 HE1 hhc HRR
          have hh3 := fun i => HH3.out.cell i
          generalize hmb : w1.heap.size + 1 = mb at *
          generalize w1.heap.size = gb at *
          replace hmb := Lib.hid hmb
          go_wp2_with fail
          go_loopg [42] m (fun gh iv wr => MRel w w.heap.size mb gb #[.int .i64 (W : Int), .int .i64 (H : Int), .int .i64 xp, .int .u32 (xs : Int), .string xt, .slice A m c] #[.int .i64 (W : Int), .int .i64 (H : Int), .string xt] xp xt us R gh iv wr)
          case atStart => exact HREL.out
          case round =>
            obtain ⟨k, tk, hk, rfl, hM, hH, hG, hE, hRk⟩ := hrel
            obtain ⟨wi, rfl⟩ : ∃ wi : World, wi = wr := ⟨_, rfl⟩
            obtain ⟨gh, rfl⟩ : ∃ gh : Nat, gh = gk := ⟨_, rfl⟩
            have HM := Lib.hid hM; have HH := Lib.hid hH; have HG := Lib.hid hG; have HE := Lib.hid hE; have HRK := Lib.hid hRk
            have hkm : k + gh = m := by rw [hk, HLEN.out]
            clear hM hH hG hE hRk HREL hk hh3 HH3
            have y1 : (0 : Int) ≤ (k : Int) := by omega
            by_cases hlt : k < m
            · have hke : k < us.length := by rw [HLEN.out]; exact hlt
              obtain ⟨b, o, rfl, hbw, hc⟩ := HB.out.2 (by omega)
              have hd : us.drop k = us[k] :: us.drop (k + 1) := List.drop_eq_getElem_cons hke
              have hfx := HF.out us[k] (List.getElem_mem hke)
              have hcx := hc k hke
              obtain ⟨u, hu⟩ : ∃ u, u = us[k] := ⟨_, rfl⟩
              rw [← hu] at hd hfx hcx
              obtain ⟨u1, u2, u3⟩ := u
              obtain ⟨f1, f2, f3, f4⟩ := hfx
              simp only at f1 f2 f3 f4
              have HD := Lib.hid hd
              have HCX := Lib.hid (fun i (hi : i < 3) => (HE.out.cell (p := ⟨b, o + k * 3 + i, none⟩) hbw).trans (hcx i hi))
              clear hc hcx hu hd hke
              have c0 := HCX.out 0 (by omega); have c1 := HCX.out 1 (by omega); have c2 := HCX.out 2 (by omega)
              simp only [cS, Nat.add_zero, List.getElem?_cons_zero, List.getElem?_cons_succ] at c0 c1 c2
              have y2 : (k : Int) < (m : Int) := by omega
              have HMA := Lib.hid (HM.out.ext (ext_alloc (Ext.rfl' wi) (.cells #[.int .u8 (u1 : Int), .int .u8 (u2 : Int), .int .i64 u3] 80)))
              have HV1 := Lib.hid (mF_get tk u3)
              have hub := Blk.new wi 80 #[.int .u8 (u1 : Int), .int .u8 (u2 : Int), .int .i64 u3]
              have HU := Lib.hid hub; clear hub
              generalize htw : decide (u3 ∈ tk) = tw at *
              have HTW := Lib.hid htw; clear htw
              go_upto_region 9 with (refine Map64.wpList_look2 rfl (.tmp 47) (.tmp 49) rfl Try.underlying97 Try.underlying3 (zU _) rfl HMA.out u3 rfl (.agg #[]) tw HV1.out.1 HV1.out.2 ?_)
              have HM5 := Lib.hid (HMA.out.ext (ext_alloc (Ext.rfl' _) (.cells #[] 98)))
              have HH5 := Lib.hid ((HH.out.alloc (.cells #[.int .u8 (u1 : Int), .int .u8 (u2 : Int), .int .i64 u3] 80)).alloc (.cells #[] 98))
              have HG5 := Lib.hid ((HG.out.alloc (.cells #[.int .u8 (u1 : Int), .int .u8 (u2 : Int), .int .i64 u3] 80)).alloc (.cells #[] 98))
              have HU5 := Lib.hid (HU.out.alloc (.cells #[] 98))
              have HE5 := Lib.hid (ext_alloc (ext_alloc HE.out (.cells #[.int .u8 (u1 : Int), .int .u8 (u2 : Int), .int .i64 u3] 80)) (.cells #[] 98))
              obtain ⟨w5, hw5⟩ : ∃ W', W' = (wi.alloc (.cells #[.int .u8 (u1 : Int), .int .u8 (u2 : Int), .int .i64 u3] 80)).alloc (.cells #[] 98) := ⟨_, rfl⟩
              rw [← hw5] at HM5 HH5 HG5 HU5 HE5 ⊢
              clear hw5 HM HH HG HE HMA HU HV1 HCX c0 c1 c2
              have h5 := fun i => HH5.out.cell i
              have g5 := fun i => HG5.out.cell i
              have u5 := fun i => HU5.out.cell i
              have HTM : Hid (tw = decide (u3 ∈ tk)) := Lib.hid HTW.out.symm
              clear HTW
              by_cases q1 : (u1 : Int) < xp
              · have q1' : ¬ xp ≤ (u1 : Int) := by omega
                by_cases q2 : 1 ≤ u2
                · have q2' : (1 : Int) ≤ (u2 : Int) := by omega
                  by_cases q3 : u2 ≤ 5
                  · have q3' : (u2 : Int) ≤ 5 := by omega
                    have HW5 := Lib.hid (HWK.out u3 w5)
                    generalize hwb : walkB xt u3 = wb at *
                    have HWB := Lib.hid hwb; clear hwb
                    go_wp2_with fail
                    refine (HW5.out).mono ?_
                    rintro e w6 ⟨rfl, hE6⟩
                    have HE6 := Lib.hid (ext_trans HE5.out hE6)
                    have HH6 := Lib.hid (HH5.out.ext hE6); have HG6 := Lib.hid (HG5.out.ext hE6); have HM6 := Lib.hid (HM5.out.ext hE6); have HU6 := Lib.hid (HU5.out.ext hE6)
                    clear hE6 HW5 h5 g5 u5
                    have u6 := fun i => HU6.out.cell i
                    cases wb with
                    | false =>
                      have HRF : Hid (R = false) := Lib.hid (by rw [HRK.out, HD.out, mayB]; rw [HWB.out]; simp)
                      go_wp2_with fail
                      go_ret
                      exact ⟨by rw [HRF.out]; rfl, HE6.out⟩
                    | true =>
                      cases tw with
                      | true =>
                        have HRF : Hid (R = false) := Lib.hid (by rw [HRK.out, HD.out, mayB]; rw [← HTM.out]; simp)
                        go_wp2_with fail
                        go_ret
                        exact ⟨by rw [HRF.out]; rfl, HE6.out⟩
                      | false =>
                        have HRT : Hid (R = mayB xp xt (u3 :: tk) (us.drop (k + 1))) := Lib.hid (by
                          rw [HRK.out, HD.out, mayB, decide_eq_true q1, decide_eq_true q2, decide_eq_true q3, ← HTM.out]
                          show (true && (true && (true && (walkB xt u3 && (true && mayB xp xt (u3 :: tk) (us.drop (k + 1))))))) = _
                          rw [HWB.out]
                          simp only [Bool.true_and])
                        go_wp2_with (refine Map64.wpList_put rfl (.tmp 79) (.tmp 81) (.tmp 82) rfl Try.underlying97 Try.underlying3 rfl HM6.out u3 (.agg #[]) rfl rfl ?_; intro we hM9 hg9; have HM9 := Lib.hid hM9; have HG9 := Lib.hid hg9; clear hM9 hg9)
                        go_roundg (gh - 1)
                        case measure => omega
                        case rel =>
                          have hmb2 := hmb.out
                          refine ⟨k + 1, u3 :: tk, by rw [HLEN.out]; omega, by go_num, ?_, kept1 HH6.out HG9.out (by omega), kept1 HG6.out HG9.out (by omega), ext_grown HE6.out HG9.out (fun q e => by cases e; omega), HRT.out⟩
                          have hF : (fun x => if x = u3 then some (Value.agg #[]) else mF tk x) = mF (u3 :: tk) := by
                            funext x
                            unfold mF
                            by_cases hx : x = u3 <;> by_cases ht : x ∈ tk <;> simp [hx, ht]
                          rw [← hF]
                          exact HM9.out
                  · have q3' : ¬ (u2 : Int) ≤ 5 := by omega
                    have HRF : Hid (R = false) := Lib.hid (by rw [HRK.out, HD.out, mayB]; rw [decide_eq_false q3]; simp)
                    go_wp2_with fail
                    go_ret
                    exact ⟨by rw [HRF.out]; rfl, HE5.out⟩
                · have q2' : ¬ (1 : Int) ≤ (u2 : Int) := by omega
                  have HRF : Hid (R = false) := Lib.hid (by rw [HRK.out, HD.out, mayB]; rw [decide_eq_false q2]; simp)
                  go_wp2_with fail
                  go_ret
                  exact ⟨by rw [HRF.out]; rfl, HE5.out⟩
              · have q1' : xp ≤ (u1 : Int) := by omega
                have HRF : Hid (R = false) := Lib.hid (by rw [HRK.out, HD.out, mayB]; rw [decide_eq_false q1]; simp)
                go_wp2_with fail
                go_ret
                exact ⟨by rw [HRF.out]; rfl, HE5.out⟩
            · obtain rfl : gh = 0 := by omega
              obtain rfl : k = m := by omega
              have HRF : Hid (R = true) := Lib.hid (by
                rw [HRK.out, List.drop_eq_nil_of_le (by rw [HLEN.out]; omega), mayB])
              have y2 : ¬ (k : Int) < (k : Int) := by omega
              go_wp2_with fail
              go_ret
              exact ⟨by rw [HRF.out]; rfl, HE.out⟩
        · have hm9 : 128 < (m : Int) := by omega
          have HRF : Hid (R = false) := Lib.hid (by rw [← hR.out]; exact decide_eq_false (fun h => by have := h.2.2.2.1; simp only at this; rw [HLEN.out] at this; omega))
          go_wp2_with fail
          go_ret
          exact ⟨by rw [HRF.out]; rfl, HE2.out⟩
      · have hp5 : 4 < xp := by omega
        have HRF : Hid (R = false) := Lib.hid (by rw [← hR.out]; exact decide_eq_false (fun h => by have := h.2.2.1; simp only at this; omega))
        go_wp2_with fail
        go_ret
        exact ⟨by rw [HRF.out]; rfl, HE2.out⟩
    · have hp5 : xp < 1 := by omega
      have HRF : Hid (R = false) := Lib.hid (by rw [← hR.out]; exact decide_eq_false (fun h => by have := h.2.1; simp only at this; omega))
      go_wp2_with fail
      go_ret
      exact ⟨by rw [HRF.out]; rfl, HE2.out⟩
  · have HNR : Hid (newR xw xh xt = .tuple #[mval 0 0 ⟨#[]⟩, .int .i64 2]) := Lib.hid (by unfold newR; rw [if_neg hok])
    have HRF : Hid (R = false) := Lib.hid (by rw [← hR.out]; exact decide_eq_false (fun h => hok h.1))
    clear hok
    have HE0 := Lib.hid (ext_alloc (Ext.rfl' w) (.cells #[.int .i64 xw, .int .i64 xh, .int .i64 xp, .int .u32 (xs : Int), .string xt, .slice A m c] 25))
    go_enter Try.func9, Try.ntmps9
    go_wp2_with fail
    refine (HN.out _).mono ?_
    rintro e w1 ⟨rfl, hE1⟩
    rw [HNR.out]
    unfold mval
    have HE2 := Lib.hid (ext_alloc (ext_trans HE0.out hE1) (.cells #[.int .i64 0, .int .i64 0, .string ⟨#[]⟩] 94))
    clear hE1
    go_wp2_with fail
    go_ret
    exact ⟨by rw [HRF.out]; rfl, HE2.out⟩
end Go.Proofs.Ytlldmpcamdginaa.Log
namespace Go.Proofs.Ytlldmpcamdginaa.Log
open Go.ChangeShapes Go.WideShapes Go.ChangeAt Go.RowKit
open Go.Proofs.Ytlldmpcamdginaa.Wire
set_option linter.unusedVariables false

/-- A number, one that is not too great, four bytes' number, so many bytes. -/
def pN (L : List Nat) : Option (Nat × List Nat) := match vr 0 0 L with | .ok v k => some (v, L.drop k) | _ => none
def pI (L : List Nat) : Option (Nat × List Nat) := match lim (vr 0 0 L) with | .ok v k => some (v, L.drop k) | _ => none
def pF (L : List Nat) : Option (Nat × List Nat) := if 4 ≤ L.length then some (be (L.take 4), L.drop 4) else none
def pB (n : Nat) (L : List Nat) : Option (List Nat × List Nat) := if n ≤ L.length then some (L.take n, L.drop n) else none
/-- A text of at most so many bytes. -/
def pT (most : Nat) (L : List Nat) : Option (List Nat × List Nat) := match pN L with | some (n, M) => if n ≤ most then pB n M else none | none => none
theorem cut_app {xs ys : List Nat} {n : Nat} (h : n = xs.length) : (xs ++ ys).drop n = ys ∧ (xs ++ ys).take n = xs := by subst h; exact ⟨List.drop_left, List.take_left⟩
theorem pN_put {m : Nat} (h : m < 18446744073709551616) (ys : List Nat) : pN (vb m ++ ys) = some (m, ys) := by
  unfold pN; rw [vr_put h]; simp only [(cut_app rfl).1]
theorem pI_put {m : Nat} (h : m ≤ 2147483647) (ys : List Nat) : pI (vb m ++ ys) = some (m, ys) := by
  unfold pI; rw [vr_put (by omega)]; simp only [lim, if_pos h, (cut_app rfl).1]
theorem pF_put {m : Nat} (h : m < 4294967296) (ys : List Nat) : pF (fx m ++ ys) = some (m, ys) := by
  have h4 : (fx m).length = 4 := rfl
  unfold pF
  rw [if_pos (by rw [List.length_append]; omega), (cut_app h4.symm).1, (cut_app h4.symm).2, be_fx h]
theorem pB_put (xs ys : List Nat) : pB xs.length (xs ++ ys) = some (xs, ys) := by
  unfold pB; rw [if_pos (by rw [List.length_append]; omega), (cut_app rfl).1, (cut_app rfl).2]
theorem pT_put {most : Nat} {xs : List Nat} (h : xs.length ≤ most) (hm : most < 18446744073709551616) (ys : List Nat) : pT most (vb xs.length ++ (xs ++ ys)) = some (xs, ys) := by
  unfold pT; rw [pN_put (by omega)]; simp only; rw [if_pos h, pB_put]
theorem pN_ok {L R : List Nat} (hL : ∀ c ∈ L, c < 256) {v : Nat} (h : pN L = some (v, R)) : L = vb v ++ R ∧ v < 18446744073709551616 := by
  unfold pN at h
  split at h
  · rename_i v' k hv
    cases h
    obtain ⟨b0, k0, h3, _⟩ := vr_ok hL hv
    exact ⟨by rw [b0, List.take_append_drop], h3⟩
  · cases h
theorem pI_ok {L R : List Nat} (hL : ∀ c ∈ L, c < 256) {v : Nat} (h : pI L = some (v, R)) : L = vb v ++ R ∧ v ≤ 2147483647 := by
  unfold pI at h
  split at h
  · rename_i v' k hv
    cases h
    refine ⟨?_, lim_le hv⟩
    cases hr : vr 0 0 L with
    | short => rw [hr] at hv; cases hv
    | form => rw [hr] at hv; cases hv
    | ok x y =>
      rw [hr] at hv
      simp only [lim] at hv
      split at hv <;> cases hv
      obtain ⟨b0, _, _, _⟩ := vr_ok hL hr
      rw [b0, List.take_append_drop]
  · cases h
theorem fx_be4 {ys : List Nat} (h : ∀ c ∈ ys, c < 256) (hl : ys.length = 4) : fx (be ys) = ys ∧ be ys < 4294967296 := by
  match ys, hl, h with
  | [a, b, c, d], _, h =>
    have h1 := h a (by simp); have h2 := h b (by simp); have h3 := h c (by simp); have h4 := h d (by simp)
    simp only [be, List.foldl_cons, List.foldl_nil, fx, List.cons.injEq, and_true]
    refine ⟨⟨by omega, by omega, by omega, by omega⟩, by omega⟩
theorem pF_ok {L R : List Nat} (hL : ∀ c ∈ L, c < 256) {v : Nat} (h : pF L = some (v, R)) : L = fx v ++ R ∧ v < 4294967296 := by
  unfold pF at h
  split at h
  · rename_i h4
    cases h
    have := fx_be4 (ys := L.take 4) (fun c hc => hL c (List.mem_of_mem_take hc)) (by rw [List.length_take]; omega)
    exact ⟨by rw [this.1, List.take_append_drop], this.2⟩
  · cases h
theorem pB_ok {n : Nat} {L R xs : List Nat} (h : pB n L = some (xs, R)) : L = xs ++ R ∧ xs.length = n := by
  unfold pB at h
  split at h
  · cases h
    exact ⟨(List.take_append_drop _ _).symm, by rw [List.length_take]; omega⟩
  · cases h
theorem pT_ok {most : Nat} {L R xs : List Nat} (hL : ∀ c ∈ L, c < 256) (h : pT most L = some (xs, R)) : L = vb xs.length ++ (xs ++ R) ∧ xs.length ≤ most := by
  unfold pT at h
  split at h
  · rename_i n M hn
    split at h
    · rename_i hm
      obtain ⟨e1, _⟩ := pN_ok hL hn
      obtain ⟨e2, e3⟩ := pB_ok h
      exact ⟨by rw [e3, ← e2, ← e1], by omega⟩
    · cases h
  · cases h
/-- A unit that is there at first; a header. -/
structure St where
  owner : Nat
  kind : Nat
  tile : Nat
structure Hd where
  w : Nat
  h : Nat
  players : Nat
  seed : Nat
  tiles : List Nat
  starts : List St
def encS : List St → List Nat
  | [] => []
  | u :: us => vb u.owner ++ (vb u.kind ++ (vb u.tile ++ encS us))
def encH (x : Hd) : List Nat := vb x.w ++ (vb x.h ++ (vb x.players ++ (fx x.seed ++ (vb x.tiles.length ++ (x.tiles ++ (vb x.starts.length ++ encS x.starts))))))
def pS : Nat → List Nat → Option (List St × List Nat)
  | 0, L => some ([], L)
  | left + 1, L => match pN L with
    | none => none
    | some (o, L1) => match pN L1 with
      | none => none
      | some (k, L2) => match pI L2 with
        | none => none
        | some (t, L3) => match pS left L3 with
          | none => none
          | some (us, L4) => some (⟨o, k, t⟩ :: us, L4)
def pH (L : List Nat) : Option (Hd × List Nat) :=
  match pI L with
  | none => none
  | some (w, L1) => match pI L1 with
    | none => none
    | some (h, L2) => match pI L2 with
      | none => none
      | some (p, L3) => match pF L3 with
        | none => none
        | some (seed, L4) => match pT 4096 L4 with
          | none => none
          | some (tiles, L5) => match pN L5 with
            | none => none
            | some (left, L6) => match pS left L6 with
              | none => none
              | some (us, L7) => some (⟨w, h, p, seed, tiles, us⟩, L7)
/-- The numbers that go into a header's bytes. -/
def St.fits (u : St) : Prop := u.owner < 18446744073709551616 ∧ u.kind < 18446744073709551616 ∧ u.tile ≤ 2147483647
def Hd.fits (x : Hd) : Prop := x.w ≤ 2147483647 ∧ x.h ≤ 2147483647 ∧ x.players ≤ 2147483647 ∧ x.seed < 4294967296 ∧ x.tiles.length ≤ 4096 ∧ x.starts.length < 18446744073709551616 ∧ ∀ u ∈ x.starts, u.fits
theorem pS_put : ∀ (us : List St) (ys : List Nat), (∀ u ∈ us, u.fits) → pS us.length (encS us ++ ys) = some (us, ys) := by
  intro us
  induction us with
  | nil => intro ys _; rfl
  | cons u us ih =>
    intro ys hf
    obtain ⟨h1, h2, h3⟩ := hf u (by simp)
    rw [List.length_cons, encS, List.append_assoc, List.append_assoc, List.append_assoc, pS, pN_put h1]
    simp only
    rw [pN_put h2]
    simp only
    rw [pI_put h3]
    simp only
    rw [ih ys (fun x hx => hf x (by simp [hx]))]
theorem pH_put {x : Hd} (h : x.fits) (ys : List Nat) : pH (encH x ++ ys) = some (x, ys) := by
  obtain ⟨h1, h2, h3, h4, h5, h6, h7⟩ := h
  unfold encH
  simp only [List.append_assoc]
  unfold pH
  rw [pI_put h1]; simp only
  rw [pI_put h2]; simp only
  rw [pI_put h3]; simp only
  rw [pF_put h4]; simp only
  rw [pT_put h5 (by omega)]; simp only
  rw [pN_put h6]; simp only
  rw [pS_put x.starts ys h7]
theorem pS_ok : ∀ (left : Nat) (L : List Nat) (us : List St) (R : List Nat), (∀ c ∈ L, c < 256) → pS left L = some (us, R) → L = encS us ++ R ∧ us.length = left ∧ ∀ u ∈ us, u.fits := by
  intro left
  induction left with
  | zero => intro L us R _ h; cases h; exact ⟨rfl, rfl, fun u hu => by cases hu⟩
  | succ left ih =>
    intro L us R hL h
    rw [pS] at h
    split at h
    · cases h
    · rename_i o L1 h1
      split at h
      · cases h
      · rename_i k L2 h2
        split at h
        · cases h
        · rename_i t L3 h3
          split at h
          · cases h
          · rename_i us2 L4 h4
            cases h
            obtain ⟨e1, f1⟩ := pN_ok hL h1
            have hL1 : ∀ c ∈ L1, c < 256 := fun c hc => hL c (by rw [e1]; exact List.mem_append_right _ hc)
            obtain ⟨e2, f2⟩ := pN_ok hL1 h2
            have hL2 : ∀ c ∈ L2, c < 256 := fun c hc => hL1 c (by rw [e2]; exact List.mem_append_right _ hc)
            obtain ⟨e3, f3⟩ := pI_ok hL2 h3
            have hL3 : ∀ c ∈ L3, c < 256 := fun c hc => hL2 c (by rw [e3]; exact List.mem_append_right _ hc)
            obtain ⟨e4, f4, f5⟩ := ih L3 us2 R hL3 h4
            refine ⟨?_, by rw [List.length_cons, f4], fun u hu => ?_⟩
            · rw [e1, e2, e3, e4, encS]; simp only [List.append_assoc]
            · rcases List.mem_cons.1 hu with rfl | hu
              · exact ⟨f1, f2, f3⟩
              · exact f5 u hu
theorem pH_ok {L R : List Nat} {x : Hd} (hL : ∀ c ∈ L, c < 256) (h : pH L = some (x, R)) : L = encH x ++ R ∧ x.fits := by
  unfold pH at h
  split at h
  · cases h
  rename_i w L1 h1
  split at h
  · cases h
  rename_i hh L2 h2
  split at h
  · cases h
  rename_i p L3 h3
  split at h
  · cases h
  rename_i seed L4 h4
  split at h
  · cases h
  rename_i tiles L5 h5
  split at h
  · cases h
  rename_i left L6 h6
  split at h
  · cases h
  rename_i us L7 h7
  cases h
  obtain ⟨e1, f1⟩ := pI_ok hL h1
  have hL1 : ∀ c ∈ L1, c < 256 := fun c hc => hL c (by rw [e1]; exact List.mem_append_right _ hc)
  obtain ⟨e2, f2⟩ := pI_ok hL1 h2
  have hL2 : ∀ c ∈ L2, c < 256 := fun c hc => hL1 c (by rw [e2]; exact List.mem_append_right _ hc)
  obtain ⟨e3, f3⟩ := pI_ok hL2 h3
  have hL3 : ∀ c ∈ L3, c < 256 := fun c hc => hL2 c (by rw [e3]; exact List.mem_append_right _ hc)
  obtain ⟨e4, f4⟩ := pF_ok hL3 h4
  have hL4 : ∀ c ∈ L4, c < 256 := fun c hc => hL3 c (by rw [e4]; exact List.mem_append_right _ hc)
  obtain ⟨e5, f5⟩ := pT_ok hL4 h5
  have hL5 : ∀ c ∈ L5, c < 256 := fun c hc => hL4 c (by rw [e5]; exact List.mem_append_right _ (List.mem_append_right _ hc))
  obtain ⟨e6, f6⟩ := pN_ok hL5 h6
  have hL6 : ∀ c ∈ L6, c < 256 := fun c hc => hL5 c (by rw [e6]; exact List.mem_append_right _ hc)
  obtain ⟨e7, f7, f8⟩ := pS_ok left L6 us R hL6 h7
  refine ⟨?_, f1, f2, f3, f4, f5, by rw [f7]; exact f6, f8⟩
  unfold encH
  simp only [List.append_assoc, f7]
  rw [← e7, ← e6, ← e5, ← e4, ← e3, ← e2, ← e1]
end Go.Proofs.Ytlldmpcamdginaa.Log
namespace Go.Proofs.Ytlldmpcamdginaa.Log
open Go.ChangeShapes Go.WideShapes Go.ChangeAt Go.RowKit
open Go.Proofs.Ytlldmpcamdginaa.Wire
open Go.Proofs.Ytlldmpcamdginaa.Rec
open Go.Proofs.Ytlldmpcamdginaa.Grid (okm)
set_option linter.unusedVariables false

theorem put_fixed_nil (d : Nat) (hd : d < 4294967296) (w : World) : Calls Try.prog 33 #[.slice none 0 0, .int .u32 (d : Int)] w fun e w' => ∃ v, e = .returned v ∧ Src Try.prog 1 29 v (fx d).length (c8 (fx d)) w' ∧ Ext w w' := by
  refine (putFixed none 0 0 [] d hd w (Bs.none _ _) (fun _ => ⟨rfl, rfl⟩) (by omega) (by omega) (by omega)).mono ?_
  rintro e w' ⟨g, c, rfl, h1, h2, h3, hO, hE⟩
  rw [List.nil_append] at *
  exact ⟨_, rfl, own_src hO (small_mem (fx_mem hd)), hE⟩
theorem put_text_nil (s : ByteArray) (hs : s.size ≤ 1000000000) (w : World) : Calls Try.prog 34 #[.slice none 0 0, .string s] w fun e w' => ∃ v, e = .returned v ∧ Src Try.prog 1 29 v (vb s.size ++ natsOf s).length (c8 (vb s.size ++ natsOf s)) w' ∧ Ext w w' := by
  refine (putText none 0 0 [] s w (Bs.none _ _) (fun _ => ⟨rfl, rfl⟩) (by omega) (by omega) (by omega) hs).mono ?_
  rintro e w' ⟨g, c, rfl, h1, h2, h3, hO, hE⟩
  rw [List.nil_append] at *
  exact ⟨_, rfl, own_src hO (small_app (vb_byte _) (natsOf_small s)), hE⟩
/-- The header as numbers. -/
def Sv.st (u : Sv) : St := ⟨u.owner, u.kind, u.tile.toNat⟩
def Hv.hd (x : Hv) : Hd := ⟨x.w.toNat, x.h.toNat, x.players.toNat, x.seed, natsOf x.tiles, x.starts.map Sv.st⟩
theorem mayB_tiles (p : Int) (T : ByteArray) : ∀ (us : List Sv) (tk : List Int), mayB p T tk us = true → ∀ u ∈ us, 0 ≤ u.tile ∧ u.tile.toNat < T.size ∧ u.kind ≤ 5
  | [], _, _, u, hu => by cases hu
  | x :: us, tk, h, u, hu => by
    rw [mayB] at h
    simp only [Bool.and_eq_true, decide_eq_true_iff] at h
    obtain ⟨h1, h2, h3, h4, h5, h6⟩ := h
    rcases List.mem_cons.1 hu with rfl | hu
    · unfold walkB at h4
      split at h4
      · rename_i hq; exact ⟨hq.1, hq.2, h3⟩
      · cases h4
    · exact mayB_tiles p T us _ h6 u hu
/-- Where a loop over three numbers stands. -/
def NRel (W : World) (zs : List Nat) (ws : List Nat) (ab : Nat) (ds : Array Value) (gh : Nat) (bv iv : Value) (wr : World) : Prop :=
  ∃ (k : Nat), k + gh = 3 ∧ iv = .int .i64 (k : Int) ∧ OwnB W.heap.size wr bv (zs ++ (ws.take k).flatMap vb) ∧ Blk wr ab 3 ds ∧ Off bv ab ∧ Ext W wr
/-- Where the loop over the units stands. -/
def URel (W : World) (us : List St) (T : List Nat) (gh : Nat) (bv iv : Value) (wr : World) : Prop :=
  ∃ (k : Nat) (zs : List Nat), k + gh = us.length ∧ iv = .int .i64 (k : Int) ∧ OwnB W.heap.size wr bv zs ∧ zs.length ≤ 10000 + 40 * k ∧ Ext W wr ∧ T = zs ++ encS (us.drop k)
theorem ints3 (x3 x4 x5 : Nat) (f3 : x3 < 1000000) (f4 : x4 < 1000000) (f5 : x5 < 1000000) : ∀ k, k < 3 → ∃ y, y < 1000000 ∧ (#[Value.int .i64 (x3 : Int), .int .i64 (x4 : Int), .int .i64 (x5 : Int)])[k]? = some (.int .i64 (y : Int)) ∧ ([x3, x4, x5].take (k + 1)).flatMap vb = ([x3, x4, x5].take k).flatMap vb ++ vb y
  | 0, _ => ⟨x3, f3, rfl, by simp⟩
  | 1, _ => ⟨x4, f4, rfl, by simp⟩
  | 2, _ => ⟨x5, f5, rfl, by simp⟩
  | k + 3, h => absurd h (by omega)
theorem flat3i_len (x3 x4 x5 : Nat) (f3 : x3 < 1000000) (f4 : x4 < 1000000) (f5 : x5 < 1000000) : ∀ k, (([x3, x4, x5].take k).flatMap vb).length ≤ 30 := by
  intro k
  have q1 := vb_ten (n := x3) (by omega)
  have q2 := vb_ten (n := x4) (by omega)
  have q3 := vb_ten (n := x5) (by omega)
  match k with
  | 0 => simp
  | 1 => simp; omega
  | 2 => simp; omega
  | k + 3 => simp; omega
def HdPost (w : World) (x : Hv) (e : Ending) (w' : World) : Prop :=
  Ext w w' ∧ if mayH x then ∃ v, e = .returned (.tuple #[v, .int .i64 0]) ∧ OwnB w.heap.size w' v (encH x.hd) else e = .returned (.tuple #[.slice none 0 0, .int .i64 2])
theorem hd_ok {w w' : World} {x : Hv} {v : Value} {L : List Nat} {b : Nat} (h : mayH x) (hE : Ext w w') (hO : OwnB b w' v L) (hL : encH x.hd = L) (hb : w.heap.size ≤ b) : HdPost w x (.returned (.tuple #[v, .int .i64 0])) w' := by
  refine ⟨hE, ?_⟩; rw [if_pos h, hL]; exact ⟨v, rfl, hO.mono hb⟩
theorem hd_bad {w w' : World} {x : Hv} (h : ¬ mayH x) (hE : Ext w w') : HdPost w x (.returned (.tuple #[.slice none 0 0, .int .i64 2])) w' := by
  refine ⟨hE, ?_⟩; rw [if_neg h]
end Go.Proofs.Ytlldmpcamdginaa.Log
namespace Go.Proofs.Ytlldmpcamdginaa.Log
open Go.ChangeShapes Go.WideShapes Go.ChangeAt Go.RowKit
open Go.Proofs.Ytlldmpcamdginaa.Wire
set_option linter.unusedVariables false

/-- A command of a tick. -/
structure En where
  tick : Nat
  player : Nat
  doing : Nat
  kind : Nat
  unit : Nat
  tile : Nat
  target : Nat
/-- Its bytes, behind one of the tick last. -/
def enc1 (last : Nat) (e : En) : List Nat := vb (e.tick - last) ++ ([e.player, e.doing, e.kind] ++ (vb e.unit ++ (vb e.tile ++ vb e.target)))
def encs (last : Nat) : List En → List Nat
  | [] => []
  | e :: es => enc1 last e ++ encs e.tick es
/-- What goes into it. -/
def En.fits (e : En) : Prop := e.player < 256 ∧ e.doing < 256 ∧ e.kind < 256 ∧ e.unit ≤ 65535 ∧ e.tile ≤ 65535 ∧ e.target ≤ 65535
/-- How many of a tick there are with this one. -/
def each' (last each tick : Nat) : Nat := if tick = last then each + 1 else 1
/-- Whether entries may stand there, in a game of n ticks. -/
def paced (n : Nat) : Nat → Nat → List En → Prop
  | _, _, [] => True
  | last, each, e :: es => last ≤ e.tick ∧ e.tick < n ∧ each' last each e.tick ≤ 32 ∧ paced n e.tick (each' last each e.tick) es
/-- What one entry's reading comes to: an error, or the tick, three bytes, three numbers, and how many bytes these are. -/
inductive ER where
  | bad (e : Int)
  | ok (step a b c u t g : Nat) (k : Nat)
def entry (L : List Nat) : ER :=
  match lim (vr 0 0 L) with
  | .short => .bad 3
  | .form => .bad 4
  | .ok step j =>
    if L.length < j + 3 then .bad 3
    else match vr 0 0 (L.drop (j + 3)) with
      | .short => .bad 3
      | .form => .bad 4
      | .ok u j1 => match vr 0 0 (L.drop (j + 3 + j1)) with
        | .short => .bad 3
        | .form => .bad 4
        | .ok t j2 => match vr 0 0 (L.drop (j + 3 + j1 + j2)) with
          | .short => .bad 3
          | .form => .bad 4
          | .ok g j3 => .ok step (L.getD j 0) (L.getD (j + 1) 0) (L.getD (j + 2) 0) u t g (j + 3 + j1 + j2 + j3)
/-- What so many entries' reading comes to. -/
inductive LR where
  | bad (e : Int)
  | ok (es : List En) (rest : List Nat)
def dec (n : Nat) : Nat → Nat → Nat → List Nat → LR
  | 0, _, _, L => .ok [] L
  | left + 1, last, each, L =>
    match entry L with
    | .bad e => .bad e
    | .ok step a b c u t g k =>
      if 65535 < u ∨ 65535 < t ∨ 65535 < g then .bad 4
      else if last + step < n ∧ each' last each (last + step) ≤ 32 then
        match dec n left (last + step) (each' last each (last + step)) (L.drop k) with
        | .bad e => .bad e
        | .ok es rest => .ok (⟨last + step, a, b, c, u, t, g⟩ :: es) rest
      else .bad 4
theorem drop_app {xs ys : List Nat} {n : Nat} (h : n = xs.length) : (xs ++ ys).drop n = ys := by subst h; exact List.drop_left
theorem take_app {xs ys : List Nat} {n : Nat} (h : n = xs.length) : (xs ++ ys).take n = xs := by subst h; exact List.take_left
theorem lim_put {m : Nat} (h : m ≤ 2147483647) (ys : List Nat) : lim (vr 0 0 (vb m ++ ys)) = .ok m (vb m).length := by
  rw [vr_put (by omega)]; simp [lim, h]
theorem enc1_len (last : Nat) (e : En) : (enc1 last e).length = (vb (e.tick - last)).length + 3 + (vb e.unit).length + (vb e.tile).length + (vb e.target).length := by
  simp [enc1]; omega
theorem entry_enc {last : Nat} {e : En} (hf : e.fits) (hs : e.tick - last ≤ 2147483647) (ys : List Nat) : entry (enc1 last e ++ ys) = .ok (e.tick - last) e.player e.doing e.kind e.unit e.tile e.target (enc1 last e).length := by
  obtain ⟨h1, h2, h3, h4, h5, h6⟩ := hf
  have e0 : enc1 last e ++ ys = vb (e.tick - last) ++ ([e.player, e.doing, e.kind] ++ (vb e.unit ++ (vb e.tile ++ (vb e.target ++ ys)))) := by simp [enc1, List.append_assoc]
  have d1 : (enc1 last e ++ ys).drop ((vb (e.tick - last)).length + 3) = vb e.unit ++ (vb e.tile ++ (vb e.target ++ ys)) := by
    rw [e0, ← List.drop_drop, drop_app rfl]; rfl
  have d2 : (enc1 last e ++ ys).drop ((vb (e.tick - last)).length + 3 + (vb e.unit).length) = vb e.tile ++ (vb e.target ++ ys) := by
    rw [← List.drop_drop, d1, drop_app rfl]
  have d3 : (enc1 last e ++ ys).drop ((vb (e.tick - last)).length + 3 + (vb e.unit).length + (vb e.tile).length) = vb e.target ++ ys := by
    rw [← List.drop_drop, d2, drop_app rfl]
  have g : ∀ i, i < 3 → (enc1 last e ++ ys).getD ((vb (e.tick - last)).length + i) 0 = ([e.player, e.doing, e.kind] : List Nat).getD i 0 := fun i hi => by
    rw [e0, List.getD_eq_getElem?_getD, List.getElem?_append_right (by omega), Nat.add_sub_cancel_left, List.getElem?_append_left (by simpa using hi), List.getD_eq_getElem?_getD]
  have g0 := g 0 (by omega)
  have g1 := g 1 (by omega)
  have g2 := g 2 (by omega)
  rw [Nat.add_zero] at g0
  unfold entry
  have hv : lim (vr 0 0 (enc1 last e ++ ys)) = .ok (e.tick - last) (vb (e.tick - last)).length := by rw [e0]; exact lim_put hs _
  rw [hv]
  simp only
  rw [if_neg (by rw [List.length_append, enc1_len]; omega), d1, vr_put (by omega)]
  simp only
  rw [d2, vr_put (by omega)]
  simp only
  rw [d3, vr_put (by omega)]
  simp only
  rw [g0, g1, g2, enc1_len]
  rfl
theorem dec_enc (n : Nat) (hn : n ≤ 2147483647) : ∀ (es : List En) (last each : Nat) (ys : List Nat), (∀ e ∈ es, e.fits) → paced n last each es → dec n es.length last each (encs last es ++ ys) = .ok es ys := by
  intro es
  induction es with
  | nil => intro last each ys _ _; rfl
  | cons e es ih =>
    intro last each ys hf hp
    obtain ⟨p1, p2, p3, p4⟩ := hp
    have hfe := hf e (by simp)
    obtain ⟨h1, h2, h3, h4, h5, h6⟩ := hfe
    rw [List.length_cons, encs, List.append_assoc, dec, entry_enc (hf e (by simp)) (by omega)]
    simp only
    rw [if_neg (by omega), show last + (e.tick - last) = e.tick from by omega, if_pos ⟨p2, p3⟩, drop_app rfl, ih e.tick _ ys (fun x hx => hf x (by simp [hx])) p4]
theorem entry_ok {L : List Nat} (hL : ∀ c ∈ L, c < 256) {last step a b c u t g k : Nat} (h : entry L = .ok step a b c u t g k) : step ≤ 2147483647 ∧ a < 256 ∧ b < 256 ∧ c < 256 ∧ L.take k = enc1 last ⟨last + step, a, b, c, u, t, g⟩ ∧ k = (enc1 last ⟨last + step, a, b, c, u, t, g⟩).length := by
  unfold entry at h
  cases h0 : lim (vr 0 0 L) with
  | short => rw [h0] at h; cases h
  | form => rw [h0] at h; cases h
  | ok s j =>
    rw [h0] at h
    simp only at h
    split at h
    · cases h
    · rename_i hlen
      cases h1 : vr 0 0 (L.drop (j + 3)) with
      | short => rw [h1] at h; cases h
      | form => rw [h1] at h; cases h
      | ok u' j1 =>
        rw [h1] at h
        simp only at h
        cases h2 : vr 0 0 (L.drop (j + 3 + j1)) with
        | short => rw [h2] at h; cases h
        | form => rw [h2] at h; cases h
        | ok t' j2 =>
          rw [h2] at h
          simp only at h
          cases h3 : vr 0 0 (L.drop (j + 3 + j1 + j2)) with
          | short => rw [h3] at h; cases h
          | form => rw [h3] at h; cases h
          | ok g' j3 =>
            rw [h3] at h
            simp only at h
            cases h
            have hv : vr 0 0 L = .ok step j := by
              cases hr : vr 0 0 L with
              | short => rw [hr] at h0; cases h0
              | form => rw [hr] at h0; cases h0
              | ok x y =>
                rw [hr] at h0
                simp only [lim] at h0
                split at h0 <;> cases h0
                rfl
            have hm : ∀ m, ∀ c ∈ L.drop m, c < 256 := fun m c hc => hL c (List.mem_of_mem_drop hc)
            obtain ⟨b0, k0, _, l0⟩ := vr_ok hL hv
            obtain ⟨b1, k1, _, l1⟩ := vr_ok (hm _) h1
            obtain ⟨b2, k2, _, l2⟩ := vr_ok (hm _) h2
            obtain ⟨b3, k3, _, l3⟩ := vr_ok (hm _) h3
            have gb : ∀ i, L.getD i 0 < 256 := small_mem hL
            have e3 : (L.drop j).take 3 = [L.getD j 0, L.getD (j + 1) 0, L.getD (j + 2) 0] := by
              have hd : L.drop j = L[j] :: L[j + 1] :: L[j + 2] :: L.drop (j + 3) := by
                rw [List.drop_eq_getElem_cons (i := j) (by omega), List.drop_eq_getElem_cons (i := j + 1) (by omega), List.drop_eq_getElem_cons (i := j + 2) (by omega)]
              rw [hd, List.take_succ_cons, List.take_succ_cons, List.take_succ_cons, List.take_zero]
              simp only [Option.getD_some, List.getD_eq_getElem?_getD, List.getElem?_eq_getElem (show j < L.length by omega), List.getElem?_eq_getElem (show j + 1 < L.length by omega), List.getElem?_eq_getElem (show j + 2 < L.length by omega)]
            have hen : L.take (j + 3 + j1 + j2 + j3) = enc1 last ⟨last + step, L.getD j 0, L.getD (j + 1) 0, L.getD (j + 2) 0, u, t, g⟩ := by
              unfold enc1
              simp only
              rw [Nat.add_sub_cancel_left, b0, b1, b2, b3, ← e3]
              rw [show j + 3 + j1 + j2 + j3 = j + (3 + (j1 + (j2 + j3))) from by omega, List.take_add, List.take_add, List.take_add, List.take_add, List.drop_drop, List.drop_drop, List.drop_drop]
            refine ⟨lim_le h0, gb _, gb _, gb _, hen, ?_⟩
            have hl := congrArg List.length hen
            rw [List.length_take, List.length_drop] at *
            omega
theorem enc_dec (n : Nat) : ∀ (left last each : Nat) (L : List Nat) (es : List En) (rest : List Nat), (∀ c ∈ L, c < 256) → dec n left last each L = .ok es rest → L = encs last es ++ rest ∧ es.length = left ∧ paced n last each es ∧ ∀ e ∈ es, e.fits := by
  intro left
  induction left with
  | zero => intro last each L es rest _ h; cases h; exact ⟨rfl, rfl, trivial, fun e he => by cases he⟩
  | succ left ih =>
    intro last each L es rest hL h
    rw [dec] at h
    cases he : entry L with
    | bad e => rw [he] at h; cases h
    | ok step a b c u t g k =>
      rw [he] at h
      simp only at h
      split at h
      · cases h
      · rename_i hw
        split at h
        · rename_i hp
          cases hd : dec n left (last + step) (each' last each (last + step)) (L.drop k) with
          | bad e => rw [hd] at h; cases h
          | ok es2 rest2 =>
            rw [hd] at h
            cases h
            obtain ⟨q1, q2, q3, q4, q5, q6⟩ := entry_ok (last := last) hL he
            obtain ⟨i1, i2, i3, i4⟩ := ih (last + step) _ (L.drop k) es2 rest (fun c hc => hL c (List.mem_of_mem_drop hc)) hd
            refine ⟨?_, by rw [List.length_cons, i2], ⟨by show last ≤ last + step; omega, hp.1, hp.2, i3⟩, fun e hm => ?_⟩
            · rw [encs, List.append_assoc]
              show L = enc1 last ⟨last + step, a, b, c, u, t, g⟩ ++ (encs (last + step) es2 ++ rest)
              rw [← i1, ← q5, List.take_append_drop]
            · rcases List.mem_cons.1 hm with rfl | hm
              · exact ⟨q2, q3, q4, by show u ≤ 65535; omega, by show t ≤ 65535; omega, by show g ≤ 65535; omega⟩
              · exact i4 e hm
        · cases h
end Go.Proofs.Ytlldmpcamdginaa.Log
namespace Go.Proofs.Ytlldmpcamdginaa.Log
open Go.ChangeShapes Go.WideShapes Go.ChangeAt Go.RowKit
open Go.Proofs.Ytlldmpcamdginaa.Wire
set_option linter.unusedVariables false

/-- Only two blocks have changed. -/
def Two (w w' : World) (p q : Nat) : Prop := w'.os = w.os ∧ w'.tape = w.tape ∧ w'.output = w.output ∧ w.heap.size ≤ w'.heap.size ∧ ∀ k, k < w.heap.size → k ≠ p → k ≠ q → w'.heap[k]? = w.heap[k]?
theorem Two.of_set (w : World) (p q : Nat) (u v : Value) : Two w ((w.setCell ⟨q, 0, none⟩ u).setCell ⟨p, 0, none⟩ v) p q := by
  refine ⟨rfl, rfl, rfl, by simp [World.setCell], fun k _ h1 h2 => ?_⟩
  rw [Below.heap_setCell _ ⟨p, 0, none⟩ v k h1, Below.heap_setCell _ ⟨q, 0, none⟩ u k h2]
theorem Two.of_set3 (w : World) (p q : Nat) (u0 u v : Value) : Two w (((w.setCell ⟨q, 0, none⟩ u0).setCell ⟨q, 0, none⟩ u).setCell ⟨p, 0, none⟩ v) p q := by
  refine ⟨rfl, rfl, rfl, by simp [World.setCell], fun k _ h1 h2 => ?_⟩
  rw [Below.heap_setCell _ ⟨p, 0, none⟩ v k h1, Below.heap_setCell _ ⟨q, 0, none⟩ u k h2, Below.heap_setCell _ ⟨q, 0, none⟩ u0 k h2]
theorem Two.ext {a w w' : World} {p q : Nat} (h : Two w w' p q) (hE : Ext a w) (hp : a.heap.size ≤ p) (hq : a.heap.size ≤ q) : Ext a w' :=
  ⟨h.1.trans hE.os, h.2.1.trans hE.tape, h.2.2.1.trans hE.output, Nat.le_trans hE.size h.2.2.2.1, fun k hk => (h.2.2.2.2 k (Nat.lt_of_lt_of_le hk hE.size) (by omega) (by omega)).trans (hE.block k hk)⟩
/-- The boxes of a pace: the last tick, how many there were of it, how many ticks there are. -/
def Boxes (w : World) (lb eb nb : Nat) (last : Int) (each : Nat) (n : Int) : Prop := Blk w lb 3 #[.int .i64 last] ∧ Blk w eb 3 #[.int .i64 (each : Int)] ∧ Blk w nb 3 #[.int .i64 n] ∧ lb ≠ eb ∧ lb ≠ nb ∧ eb ≠ nb
def eachI (last : Int) (each : Nat) (tick : Int) : Nat := if tick = last then each + 1 else 1
set_option maxHeartbeats 4000000 in
theorem pace1 (lb eb nb : Nat) (last tick n : Int) (each : Nat) (w : World) (h : Boxes w lb eb nb last each n) (he : each ≤ 1000000) :
    Calls Try.prog 75 #[.int .i64 tick, .pointer (some ⟨lb, 0, none⟩), .pointer (some ⟨eb, 0, none⟩), .pointer (some ⟨nb, 0, none⟩)] w fun e w' =>
      e = .returned (.bool (decide (last ≤ tick ∧ tick < n ∧ eachI last each tick ≤ 32))) ∧ Boxes w' lb eb nb tick (eachI last each tick) n ∧ Two w w' lb eb := by
  obtain ⟨h1, h2, h3, n1, n2, n3⟩ := h
  have a0 := h1.cell 0; have a1 := h1.frozen 0; have b0 := h2.cell 0; have b1 := h2.frozen 0; have d0 := h3.cell 0
  simp only [List.getElem?_toArray, List.getElem?_cons_zero] at a0 b0 d0
  have m1 := n1.symm; have m2 := n2.symm; have m3 := n3.symm
  have H1 := Lib.hid h1; have H2 := Lib.hid h2; have H3 := Lib.hid h3
  clear h1 h2 h3
  generalize hb : decide (last ≤ tick ∧ tick < n ∧ eachI last each tick ≤ 32) = b
  by_cases ht : tick = last
  · subst ht
    have hE : Hid (eachI tick each tick = each + 1) := Lib.hid (by simp [eachI])
    rw [hE.out] at hb ⊢
    have K : Hid (Boxes ((w.setCell ⟨eb, 0, none⟩ (.int .i64 ((each : Int) + 1))).setCell ⟨lb, 0, none⟩ (.int .i64 tick)) lb eb nb tick (each + 1) n ∧ Two w ((w.setCell ⟨eb, 0, none⟩ (.int .i64 ((each : Int) + 1))).setCell ⟨lb, 0, none⟩ (.int .i64 tick)) lb eb) := Lib.hid <| by
      refine ⟨⟨?_, ?_, ?_, n1, n2, n3⟩, Two.of_set _ _ _ _ _⟩
      · exact (H1.out.far (p := ⟨eb, 0, none⟩) n1 (.int .i64 ((each : Int) + 1))).set_ 0 (.int .i64 tick)
      · exact (H2.out.set_ 0 (.int .i64 ((each : Int) + 1))).far (p := ⟨lb, 0, none⟩) m1 (.int .i64 tick)
      · exact (H3.out.far (p := ⟨eb, 0, none⟩) m3 _).far (p := ⟨lb, 0, none⟩) m2 _
    by_cases hn : tick < n
    · by_cases h32 : (each : Int) + 1 ≤ 32
      · have hb' : Hid (b = true) := Lib.hid (by rw [← hb]; exact decide_eq_true ⟨by omega, hn, by omega⟩)
        clear hb
        go_enter Try.func75, Try.ntmps75
        go_wp2_with fail
        go_ret
        exact ⟨by rw [hb'.out]; rfl, K.out⟩
      · have hb' : Hid (b = false) := Lib.hid (by rw [← hb]; exact decide_eq_false (by omega))
        clear hb
        go_enter Try.func75, Try.ntmps75
        go_wp2_with fail
        go_ret
        exact ⟨by rw [hb'.out]; rfl, K.out⟩
    · have hb' : Hid (b = false) := Lib.hid (by rw [← hb]; exact decide_eq_false (by omega))
      clear hb
      go_enter Try.func75, Try.ntmps75
      go_wp2_with fail
      go_ret
      exact ⟨by rw [hb'.out]; rfl, K.out⟩
  · have hE : Hid (eachI last each tick = 1) := Lib.hid (by simp [eachI, ht])
    rw [hE.out] at hb ⊢
    have K : Hid (Boxes (((w.setCell ⟨eb, 0, none⟩ (.int .i64 0)).setCell ⟨eb, 0, none⟩ (.int .i64 1)).setCell ⟨lb, 0, none⟩ (.int .i64 tick)) lb eb nb tick 1 n ∧ Two w (((w.setCell ⟨eb, 0, none⟩ (.int .i64 0)).setCell ⟨eb, 0, none⟩ (.int .i64 1)).setCell ⟨lb, 0, none⟩ (.int .i64 tick)) lb eb) := Lib.hid <| by
      refine ⟨⟨?_, ?_, ?_, n1, n2, n3⟩, Two.of_set3 _ _ _ _ _ _⟩
      · exact ((H1.out.far (p := ⟨eb, 0, none⟩) n1 _).far (p := ⟨eb, 0, none⟩) n1 _).set_ 0 (.int .i64 tick)
      · exact ((H2.out.set_ 0 (.int .i64 0)).set_ 0 (.int .i64 1)).far (p := ⟨lb, 0, none⟩) m1 (.int .i64 tick)
      · exact ((H3.out.far (p := ⟨eb, 0, none⟩) m3 _).far (p := ⟨eb, 0, none⟩) m3 _).far (p := ⟨lb, 0, none⟩) m2 _
    by_cases hl : last ≤ tick
    · by_cases hn : tick < n
      · have hb' : Hid (b = true) := Lib.hid (by rw [← hb]; exact decide_eq_true ⟨hl, hn, by omega⟩)
        clear hb
        go_enter Try.func75, Try.ntmps75
        go_wp2_with fail
        go_ret
        exact ⟨by rw [hb'.out]; rfl, K.out⟩
      · have hb' : Hid (b = false) := Lib.hid (by rw [← hb]; exact decide_eq_false (by omega))
        clear hb
        go_enter Try.func75, Try.ntmps75
        go_wp2_with fail
        go_ret
        exact ⟨by rw [hb'.out]; rfl, K.out⟩
    · have hb' : Hid (b = false) := Lib.hid (by rw [← hb]; exact decide_eq_false (by omega))
      clear hb
      go_enter Try.func75, Try.ntmps75
      go_wp2_with fail
      go_ret
      exact ⟨by rw [hb'.out]; rfl, K.out⟩
/-- A pace: a function over three boxes of its own. -/
def Paced (w : World) (base : Nat) (v : Value) (last : Int) (each : Nat) (n : Int) : Prop := ∃ lb eb nb, v = .func (.func 75) #[] #[.pointer (some ⟨lb, 0, none⟩), .pointer (some ⟨eb, 0, none⟩), .pointer (some ⟨nb, 0, none⟩)] ∧ Boxes w lb eb nb last each n ∧ base ≤ lb ∧ base ≤ eb ∧ base ≤ nb
theorem ticks_any (n : Int) (w : World) : Calls Try.prog 44 #[.int .i64 n] w fun e w' => e = .returned (.bool (decide (0 ≤ n ∧ n ≤ 4096))) ∧ Ext w w' := by
  generalize hb : decide (0 ≤ n ∧ n ≤ 4096) = b
  by_cases h1 : 0 ≤ n
  · by_cases h2 : n ≤ 4096
    · have hb' : Hid (b = true) := Lib.hid (by rw [← hb]; exact decide_eq_true ⟨h1, h2⟩)
      clear hb
      go_enter Try.func44, Try.ntmps44
      go_wp2_with fail
      go_ret
      exact ⟨by rw [hb'.out]; rfl, Ext.rfl' _⟩
    · have hb' : Hid (b = false) := Lib.hid (by rw [← hb]; exact decide_eq_false (by omega))
      clear hb
      go_enter Try.func44, Try.ntmps44
      go_wp2_with fail
      go_ret
      exact ⟨by rw [hb'.out]; rfl, Ext.rfl' _⟩
  · have hb' : Hid (b = false) := Lib.hid (by rw [← hb]; exact decide_eq_false (by omega))
    clear hb
    go_enter Try.func44, Try.ntmps44
    go_wp2_with fail
    go_ret
    exact ⟨by rw [hb'.out]; rfl, Ext.rfl' _⟩
theorem pace (n : Int) (w : World) : Calls Try.prog 45 #[.int .i64 n] w fun e w' => ∃ v, e = .returned v ∧ Paced w' w.heap.size v 0 0 n ∧ Ext w w' := by
  go_enter Try.func45, Try.ntmps45
  go_wp2_with fail
  go_ret
  have h1 := (Blk.new w 3 #[.int .i64 n]).alloc (.cells #[.int .i64 0] 3)
  have h2 := h1.alloc (.cells #[.int .i64 0] 3)
  have h3 := (Blk.new (w.alloc (.cells #[.int .i64 n] 3)) 3 #[.int .i64 0]).alloc (.cells #[.int .i64 0] 3)
  have h4 := Blk.new ((w.alloc (.cells #[.int .i64 n] 3)).alloc (.cells #[.int .i64 0] 3)) 3 #[.int .i64 0]
  have hz : ∀ (u : World) (o : Obj), (u.alloc o).heap.size = u.heap.size + 1 := fun u o => World.size_alloc u o
  rw [hz] at h3
  rw [hz, hz] at h4
  exact ⟨_, rfl, ⟨w.heap.size + 1, w.heap.size + 1 + 1, w.heap.size, rfl, ⟨h3, h4, h2, by omega, by omega, by omega⟩, by omega, by omega, Nat.le_refl _⟩, ext_alloc (ext_alloc (ext_alloc (Ext.rfl' _) _) _) _⟩
end Go.Proofs.Ytlldmpcamdginaa.Log
namespace Go.Proofs.Ytlldmpcamdginaa.Log
open Go.ChangeShapes Go.WideShapes Go.ChangeAt Go.RowKit
open Go.Proofs.Ytlldmpcamdginaa.Wire
set_option linter.unusedVariables false

def RSt (w : World) (g : Nat) (A : Option Addr) (n c : Nat) (xs : List Nat) (st : Option (List Nat)) : Prop :=
  ∃ (at_ : Nat) (e : Int), at_ ≤ n ∧ Rdr w g (.slice A n c) at_ e ∧ RB w g A n c xs ∧ n ≤ 4000000000 ∧ (match st with | some L => e = 0 ∧ L = xs.drop at_ | none => e ≠ 0)
def nx {α : Type} (f : List Nat → Option (α × List Nat)) (st : Option (List Nat)) : Option (List Nat) := (st.bind f).map (·.2)
def va {α : Type} (f : List Nat → Option (α × List Nat)) (d : α) (st : Option (List Nat)) : α := ((st.bind f).map (·.1)).getD d
theorem va_none {α : Type} {f : List Nat → Option (α × List Nat)} {d : α} {st : Option (List Nat)} (h : st.bind f = none) : va f d st = d ∧ nx f st = none := by simp [va, nx, h]
theorem va_some {α : Type} {f : List Nat → Option (α × List Nat)} {d : α} {st : Option (List Nat)} {x : α} {R : List Nat} (h : st.bind f = some (x, R)) : va f d st = x ∧ nx f st = some R := by simp [va, nx, h]
theorem RSt.lt {w : World} {g : Nat} {A : Option Addr} {n c : Nat} {xs : List Nat} {st : Option (List Nat)} (h : RSt w g A n c xs st) : g < w.heap.size := by
  obtain ⟨a, e, _, hr, _⟩ := h; exact Blk.lt hr
theorem RSt.small {w : World} {g : Nat} {A : Option Addr} {n c : Nat} {xs L : List Nat} (h : RSt w g A n c xs (some L)) : ∀ x ∈ L, x < 256 := by
  obtain ⟨a, e, _, _, hB, _, hm⟩ := h
  obtain ⟨_, rfl⟩ := hm
  exact fun x hx => mem_small hB.1.2.1 x (List.mem_of_mem_drop hx)
theorem RSt.far {w w' : World} {g : Nat} {A : Option Addr} {n c : Nat} {xs : List Nat} {st : Option (List Nat)} (h : RSt w g A n c xs st) (he : w'.heap[g]? = w.heap[g]?) (hb : ∀ a, A = some a → 0 < n → ∀ i, w'.cell? ⟨a.block, i, none⟩ = w.cell? ⟨a.block, i, none⟩) (hs : w.heap.size ≤ w'.heap.size) : RSt w' g A n c xs st := by
  obtain ⟨a, e, h1, hr, hB, h4, hm⟩ := h
  refine ⟨a, e, h1, he.trans hr, ⟨⟨hB.1.1, hB.1.2.1, fun hp => ?_⟩, hB.2⟩, h4, hm⟩
  obtain ⟨b, o, e1, hl, hc⟩ := hB.1.2.2 hp
  exact ⟨b, o, e1, Nat.lt_of_lt_of_le hl hs, fun j hj => (hb _ e1 hp _).trans (hc j hj)⟩
theorem RSt.ext {w w' : World} {g : Nat} {A : Option Addr} {n c : Nat} {xs : List Nat} {st : Option (List Nat)} (h : RSt w g A n c xs st) (hE : Ext w w') : RSt w' g A n c xs st := by
  obtain ⟨a, e, h1, hr, hB, h4, hm⟩ := h
  refine ⟨a, e, h1, hr.ext hE, ⟨hB.1.ext hE, hB.2⟩, h4, hm⟩
theorem num_st (g n c : Nat) (A : Option Addr) (xs : List Nat) (st : Option (List Nat)) (w : World) (h : RSt w g A n c xs st) :
    Calls Try.prog 41 #[.pointer (some ⟨g, 0, none⟩)] w fun e w' => e = .returned (.int .u64 ((va pN 0 st : Nat) : Int)) ∧ va pN 0 st < 18446744073709551616 ∧ RSt w' g A n c xs (nx pN st) ∧ w.grownBy w' (some g) := by
  have hsm := fun L (e : st = some L) => RSt.small (e ▸ h)
  obtain ⟨at_, e, h1, hr, hB, h4, hm⟩ := h
  cases st with
  | none =>
    refine (num_err g at_ _ e w hr (beq_eq_false_iff_ne.2 hm)).mono ?_
    rintro e' w' ⟨rfl, hE⟩
    exact ⟨rfl, by simp [va], ⟨at_, e, h1, hr.ext hE, ⟨hB.1.ext hE, hB.2⟩, h4, hm⟩, gb_ext hE _⟩
  | some L =>
    obtain ⟨rfl, rfl⟩ := hm
    refine (num g n c at_ A xs w hr hB.1 h1 h4).mono ?_
    rintro e' w' ⟨z, j, err, rfl, hz, hE, hm⟩
    cases hv : vr 0 0 (xs.drop at_) with
    | short =>
      have q := va_none (d := 0) (show (some (xs.drop at_)).bind pN = none by simp [pN, hv])
      rw [hv] at hm; obtain ⟨rfl, rfl, rfl⟩ := hm
      rw [q.1, q.2]
      exact ⟨rfl, by omega, ⟨at_, 3, h1, hE.1, hB.eff hE.2, h4, by simp⟩, hE.2⟩
    | form =>
      have q := va_none (d := 0) (show (some (xs.drop at_)).bind pN = none by simp [pN, hv])
      rw [hv] at hm; obtain ⟨rfl, rfl, rfl⟩ := hm
      rw [q.1, q.2]
      exact ⟨rfl, by omega, ⟨at_, 4, h1, hE.1, hB.eff hE.2, h4, by simp⟩, hE.2⟩
    | ok v k =>
      have q := va_some (d := 0) (show (some (xs.drop at_)).bind pN = some (v, (xs.drop at_).drop k) by simp [pN, hv])
      rw [hv] at hm; obtain ⟨rfl, rfl, rfl⟩ := hm
      have hk := (vr_ok (hsm _ rfl) hv).2.2.2
      rw [List.length_drop, hB.1.1] at hk
      rw [q.1, q.2]
      exact ⟨rfl, hz, ⟨at_ + j, 0, by omega, hE.1, hB.eff hE.2, h4, rfl, by rw [List.drop_drop]⟩, hE.2⟩
theorem int_st (g n c : Nat) (A : Option Addr) (xs : List Nat) (st : Option (List Nat)) (w : World) (h : RSt w g A n c xs st) :
    Calls Try.prog 38 #[.pointer (some ⟨g, 0, none⟩)] w fun e w' => e = .returned (.int .i64 ((va pI 0 st : Nat) : Int)) ∧ va pI 0 st ≤ 2147483647 ∧ RSt w' g A n c xs (nx pI st) ∧ w.grownBy w' (some g) := by
  have hsm := fun L (e : st = some L) => RSt.small (e ▸ h)
  obtain ⟨at_, e, h1, hr, hB, h4, hm⟩ := h
  cases st with
  | none =>
    refine (int_err g at_ _ e w hr (beq_eq_false_iff_ne.2 hm)).mono ?_
    rintro e' w' ⟨rfl, hE⟩
    exact ⟨rfl, by simp [va], ⟨at_, e, h1, hr.ext hE, ⟨hB.1.ext hE, hB.2⟩, h4, hm⟩, gb_ext hE _⟩
  | some L =>
    obtain ⟨rfl, rfl⟩ := hm
    refine (Wire.int g n c at_ A xs w hr hB.1 h1 h4).mono ?_
    rintro e' w' ⟨z, j, err, rfl, hz, hE, hm⟩
    cases hv : lim (vr 0 0 (xs.drop at_)) with
    | short =>
      have q := va_none (d := 0) (show (some (xs.drop at_)).bind pI = none by simp [pI, hv])
      rw [hv] at hm; obtain ⟨rfl, rfl, rfl⟩ := hm
      rw [q.1, q.2]
      exact ⟨rfl, by omega, ⟨at_, 3, h1, hE.1, hB.eff hE.2, h4, by simp⟩, hE.2⟩
    | form =>
      have q := va_none (d := 0) (show (some (xs.drop at_)).bind pI = none by simp [pI, hv])
      rw [hv] at hm; obtain ⟨rfl, rfl, rfl⟩ := hm
      rw [q.1, q.2]
      exact ⟨rfl, by omega, ⟨at_, 4, h1, hE.1, hB.eff hE.2, h4, by simp⟩, hE.2⟩
    | ok v k =>
      have q := va_some (d := 0) (show (some (xs.drop at_)).bind pI = some (v, (xs.drop at_).drop k) by simp [pI, hv])
      have hk : at_ + k ≤ n := by
        cases hr : vr 0 0 (xs.drop at_) with
        | short => rw [hr] at hv; cases hv
        | form => rw [hr] at hv; cases hv
        | ok x y =>
          have hk := (vr_ok (hsm _ rfl) hr).2.2.2
          rw [hr] at hv
          simp only [lim] at hv
          split at hv <;> cases hv
          rw [List.length_drop, hB.1.1] at hk
          omega
      rw [hv] at hm; obtain ⟨rfl, rfl, rfl⟩ := hm
      rw [q.1, q.2]
      exact ⟨rfl, hz, ⟨at_ + j, 0, hk, hE.1, hB.eff hE.2, h4, rfl, by rw [List.drop_drop]⟩, hE.2⟩
theorem be_lt {ys : List Nat} (h : ∀ c ∈ ys, c < 256) (hl : ys.length = 4) : be ys < 4294967296 := (fx_be4 h hl).2
theorem fixed_st (g n c : Nat) (A : Option Addr) (xs : List Nat) (st : Option (List Nat)) (w : World) (h : RSt w g A n c xs st) :
    Calls Try.prog 39 #[.pointer (some ⟨g, 0, none⟩)] w fun e w' => e = .returned (.int .u32 ((va pF 0 st : Nat) : Int)) ∧ va pF 0 st < 4294967296 ∧ RSt w' g A n c xs (nx pF st) ∧ w.grownBy w' (some g) := by
  have hsm := fun L (e : st = some L) => RSt.small (e ▸ h)
  obtain ⟨at_, e, h1, hr, hB, h4, hm⟩ := h
  cases st with
  | none =>
    refine (fixed_err g at_ _ e w hr (beq_eq_false_iff_ne.2 hm)).mono ?_
    rintro e' w' ⟨rfl, hE⟩
    exact ⟨rfl, by simp [va], ⟨at_, e, h1, hr.ext hE, ⟨hB.1.ext hE, hB.2⟩, h4, hm⟩, gb_ext hE _⟩
  | some L =>
    obtain ⟨rfl, rfl⟩ := hm
    refine (fixed g n c at_ A xs w hr hB h1 h4).mono ?_
    rintro e' w' (⟨hl, rfl, hE⟩ | ⟨hl, rfl, hE⟩)
    · have q := va_some (d := 0) (show (some (xs.drop at_)).bind pF = some (be ((xs.drop at_).take 4), (xs.drop at_).drop 4) by simp only [Option.bind_some, pF, if_pos hl])
      rw [q.1, q.2]
      have hk := hl
      rw [List.length_drop, hB.1.1] at hk
      exact ⟨rfl, be_lt (fun x hx => hsm _ rfl x (List.mem_of_mem_take hx)) (by rw [List.length_take]; omega), ⟨at_ + 4, 0, by omega, hE.1, hB.eff hE.2, h4, rfl, by rw [List.drop_drop]⟩, hE.2⟩
    · have q := va_none (d := 0) (show (some (xs.drop at_)).bind pF = none by simp only [Option.bind_some, pF, if_neg (show ¬ 4 ≤ (xs.drop at_).length by omega)])
      rw [q.1, q.2]
      exact ⟨rfl, by omega, ⟨at_, 3, h1, hE.1, hB.eff hE.2, h4, by simp⟩, hE.2⟩
theorem tr_eq (L : List Nat) (most : Nat) (hL : ∀ c ∈ L, c < 256) : (match tr L most with | .bad _ => pT most L = none | .ok ys k => pT most L = some (ys, L.drop k) ∧ k ≤ L.length) := by
  unfold tr pT pN
  cases hv : vr 0 0 L with
  | short => rfl
  | form => rfl
  | ok z k =>
    have hk := (vr_ok hL hv).2.2.2
    simp only
    by_cases h1 : z ≤ most
    · rw [if_neg (by omega), if_pos h1]
      unfold pB
      rw [List.length_drop]
      by_cases h2 : L.length - k < z
      · rw [if_pos h2, if_neg (by omega)]
      · rw [if_neg h2, if_pos (by omega), List.drop_drop]
        exact ⟨rfl, by omega⟩
    · rw [if_pos (by omega), if_neg h1]
set_option maxHeartbeats 1000000 in
theorem text_err (g at_ : Nat) (s : Value) (e0 most : Int) (w : World) (h : Rdr w g s at_ e0) (he : (e0 == 0) = false) :
    Calls Try.prog 40 #[.pointer (some ⟨g, 0, none⟩), .int .i64 most] w fun e w' => e = .returned (.string ⟨#[]⟩) ∧ Ext w w' := by
  have ha := ext_alloc (Ext.rfl' w) (.cells #[.pointer (some ⟨g, 0, none⟩)] 100)
  have hb := ext_alloc (Ext.rfl' (w.alloc (.cells #[.pointer (some ⟨g, 0, none⟩)] 100))) (.cells #[.int .i64 most] 3)
  have HC := Lib.hid (fun F => reading_err_70 g at_ s F e0 _ ((h.ext ha).ext hb) he)
  clear h he
  have HA := Lib.hid ha; have HB := Lib.hid hb; clear ha hb
  go_enter Try.func40, Try.ntmps40
  go_wp2_with fail
  refine (HC.out _).mono ?_
  rintro e w3 ⟨rfl, hE3⟩
  have HE3 := Lib.hid hE3; clear hE3
  go_wp2_with fail
  go_ret
  exact ⟨rfl, ext_trans (ext_trans HA.out HB.out) HE3.out⟩
theorem text_st (g n c most : Nat) (hmo : most ≤ 1000000) (A : Option Addr) (xs : List Nat) (st : Option (List Nat)) (w : World) (h : RSt w g A n c xs st) :
    Calls Try.prog 40 #[.pointer (some ⟨g, 0, none⟩), .int .i64 (most : Int)] w fun e w' => e = .returned (.string (strOf (va (pT most) [] st))) ∧ RSt w' g A n c xs (nx (pT most) st) ∧ w.grownBy w' (some g) := by
  have hsm := fun L (e : st = some L) => RSt.small (e ▸ h)
  obtain ⟨at_, e, h1, hr, hB, h4, hm⟩ := h
  cases st with
  | none =>
    refine (text_err g at_ _ e (most : Int) w hr (beq_eq_false_iff_ne.2 hm)).mono ?_
    rintro e' w' ⟨rfl, hE⟩
    exact ⟨rfl, ⟨at_, e, h1, hr.ext hE, ⟨hB.1.ext hE, hB.2⟩, h4, hm⟩, gb_ext hE _⟩
  | some L =>
    obtain ⟨rfl, rfl⟩ := hm
    refine (text g n c at_ (most : Int) (by omega) (by omega) A xs w hr hB h1 h4).mono ?_
    intro e' w' hp
    have ht := tr_eq (xs.drop at_) most (hsm _ rfl)
    unfold TPost at hp
    cases hv : tr (xs.drop at_) (most : Int) with
    | bad f =>
      rw [hv] at hp ht
      obtain ⟨rfl, hE⟩ := hp
      have q := va_none (d := []) (show (some (xs.drop at_)).bind (pT most) = none from ht)
      rw [q.1, q.2]
      exact ⟨rfl, ⟨at_, f, h1, hE.1, hB.eff hE.2, h4, tr_bad hv⟩, hE.2⟩
    | ok ys k =>
      rw [hv] at hp ht
      obtain ⟨rfl, hE⟩ := hp
      have q := va_some (d := []) (show (some (xs.drop at_)).bind (pT most) = some (ys, (xs.drop at_).drop k) from ht.1)
      rw [q.1, q.2]
      have hk := ht.2
      rw [List.length_drop, hB.1.1] at hk
      exact ⟨rfl, ⟨at_ + k, 0, by omega, hE.1, hB.eff hE.2, h4, rfl, by rw [List.drop_drop]⟩, hE.2⟩
theorem bytes_st (g n c m : Nat) (hm0 : m ≤ 1000000) (A : Option Addr) (xs : List Nat) (st : Option (List Nat)) (w : World) (h : RSt w g A n c xs st) :
    Calls Try.prog 76 #[.pointer (some ⟨g, 0, none⟩), .int .i64 (m : Int)] w fun e w' => (∃ v, e = .returned v ∧ ((st.bind (pB m) = none ∧ v = .slice none 0 0) ∨ ∃ ys R, st.bind (pB m) = some (ys, R) ∧ GotF w.heap.size w' ys v)) ∧ RSt w' g A n c xs (nx (pB m) st) ∧ w.grownBy w' (some g) := by
  have hsm := fun L (e : st = some L) => RSt.small (e ▸ h)
  obtain ⟨at_, e, h1, hr, hB, h4, hm⟩ := h
  cases st with
  | none =>
    refine (bytes_err g at_ _ (m : Int) e w hr (beq_eq_false_iff_ne.2 hm)).mono ?_
    rintro e' w' ⟨rfl, hE⟩
    exact ⟨⟨_, rfl, .inl ⟨rfl, rfl⟩⟩, ⟨at_, e, h1, hr.ext hE, ⟨hB.1.ext hE, hB.2⟩, h4, hm⟩, gb_ext hE _⟩
  | some L =>
    obtain ⟨rfl, rfl⟩ := hm
    refine (bytesF g n c at_ (m : Int) (by omega) (by omega) A xs w hr hB h1 h4).mono ?_
    rintro e' w' (⟨h0, _, _⟩ | ⟨_, hl, rfl, hE⟩ | ⟨_, hl, ⟨v, rfl, hG⟩, hE⟩)
    · omega
    · have q0 : (some (xs.drop at_)).bind (pB m) = none := by simp only [Option.bind_some, pB, if_neg (show ¬ m ≤ (xs.drop at_).length by omega)]
      have q := va_none (d := []) q0
      rw [q.2]
      exact ⟨⟨_, rfl, .inl ⟨q0, rfl⟩⟩, ⟨at_, 3, h1, hE.1, hB.eff hE.2, h4, by simp⟩, hE.2⟩
    · have q0 : (some (xs.drop at_)).bind (pB m) = some ((xs.drop at_).take m, (xs.drop at_).drop m) := by simp only [Option.bind_some, pB, if_pos (show m ≤ (xs.drop at_).length by omega)]
      have q := va_some (d := []) q0
      rw [q.2]
      have hk := hl
      rw [List.length_drop, hB.1.1] at hk
      rw [Int.toNat_natCast] at hG hE
      exact ⟨⟨_, rfl, .inr ⟨_, _, q0, hG⟩⟩, ⟨at_ + m, 0, by omega, hE.1, hB.eff hE.2, h4, rfl, by rw [List.drop_drop]⟩, hE.2⟩
theorem err_st (g n c : Nat) (A : Option Addr) (xs : List Nat) (st : Option (List Nat)) (w : World) (h : RSt w g A n c xs st) :
    Calls Try.prog 42 #[.pointer (some ⟨g, 0, none⟩)] w fun e w' => ∃ x : Int, e = .returned (.int .i64 x) ∧ (x ≠ 0 ↔ st = none) ∧ w = w' := by
  obtain ⟨at_, e, h1, hr, hB, h4, hm⟩ := h
  refine (err_any g _ at_ e w hr).mono ?_
  rintro e' w' ⟨rfl, rfl⟩
  refine ⟨e, rfl, ?_, rfl⟩
  cases st with
  | none => simpa using hm
  | some L => simp [hm.1]
theorem end_st (g n c : Nat) (A : Option Addr) (xs : List Nat) (st : Option (List Nat)) (w : World) (h : RSt w g A n c xs st) :
    Calls Try.prog 43 #[.pointer (some ⟨g, 0, none⟩)] w fun e w' => ∃ x : Int, e = .returned (.int .i64 x) ∧ (x = 0 ↔ st = some []) ∧ Ext w w' := by
  obtain ⟨at_, e, h1, hr, hB, h4, hm⟩ := h
  cases st with
  | none =>
    refine (end_bad g _ at_ e w hr (beq_eq_false_iff_ne.2 hm)).mono ?_
    rintro e' w' ⟨rfl, hE⟩
    exact ⟨e, rfl, by simpa using hm, hE⟩
  | some L =>
    obtain ⟨rfl, rfl⟩ := hm
    refine (end_ok g n c A at_ w hr h1 h4).mono ?_
    rintro e' w' ⟨rfl, hE⟩
    refine ⟨_, rfl, ?_, hE⟩
    have hl : (xs.drop at_).length = n - at_ := by rw [List.length_drop, hB.1.1]
    by_cases he : at_ = n
    · rw [if_pos he]
      simp only [true_iff, Option.some.injEq]
      exact List.eq_nil_of_length_eq_zero (by omega)
    · rw [if_neg he]
      refine ⟨fun h => absurd h (by decide), fun h => ?_⟩
      rw [Option.some.inj h, List.length_nil] at hl
      omega
theorem of_st (A : Option Addr) (n c : Nat) (xs : List Nat) (w : World) (hB : Bs w A n xs) (hnil : A = none → n = 0 ∧ c = 0) (hn : n ≤ 4000000000) :
    Calls Try.prog 37 #[.slice A n c] w fun e w' => ∃ g A' c', e = .returned (.pointer (some ⟨g, 0, none⟩)) ∧ w.heap.size ≤ g ∧ RSt w' g A' n c' xs (some xs) ∧ Ext w w' ∧ (0 < n → ∀ a, A' = some a → w.heap.size ≤ a.block ∧ a.block ≠ g) := by
  refine (ofF A n c xs w hB hnil hn).mono ?_
  rintro e w' ⟨g, A', c', rfl, hg, hr, hRB, hE, hf⟩
  exact ⟨g, A', c', rfl, hg, ⟨0, 0, Nat.zero_le _, hr, hRB, hn, rfl, rfl⟩, hE, fun hp a ha => ⟨hf hp a ha, hRB.2.2.2.2 hp a ha⟩⟩
end Go.Proofs.Ytlldmpcamdginaa.Log
namespace Go.Proofs.Ytlldmpcamdginaa.Log
open Go.ChangeShapes Go.WideShapes Go.ChangeAt Go.RowKit
open Go.Proofs.Ytlldmpcamdginaa.Wire
set_option linter.unusedVariables false

/-- An entry's numbers (tick: the step). -/
def pE (L : List Nat) : Option (En × List Nat) :=
  match pI L with
  | none => none
  | some (s, L1) => match pB 3 L1 with
    | none => none
    | some (ys, L2) => match pN L2 with
      | none => none
      | some (u, L3) => match pN L3 with
        | none => none
        | some (t, L4) => match pN L4 with
          | none => none
          | some (g, L5) => some (⟨s, ys.getD 0 0, ys.getD 1 0, ys.getD 2 0, u, t, g⟩, L5)
def En.words (e : En) : Prop := e.unit ≤ 65535 ∧ e.tile ≤ 65535 ∧ e.target ≤ 65535
instance (e : En) : Decidable e.words := by unfold En.words; infer_instance
/-- So many entries, in a game of n ticks. -/
def pL (n : Nat) : Nat → Nat → Nat → List Nat → Option (List En × List Nat)
  | 0, _, _, L => some ([], L)
  | left + 1, last, each, L => match pE L with
    | none => none
    | some (x, R) => if x.words ∧ last + x.tick < n ∧ each' last each (last + x.tick) ≤ 32 then
        match pL n left (last + x.tick) (each' last each (last + x.tick)) R with
        | none => none
        | some (es, R') => some (({ x with tick := last + x.tick } : En) :: es, R')
      else none
theorem three_of {α : Type} : ∀ {l : List α}, l.length = 3 → ∃ a b c, l = [a, b, c]
  | [a, b, c], _ => ⟨a, b, c, rfl⟩
theorem pE_put {last : Nat} {e : En} (hf : e.fits) (hs : e.tick - last ≤ 2147483647) (ys : List Nat) : pE (enc1 last e ++ ys) = some ({ e with tick := e.tick - last }, ys) := by
  obtain ⟨h1, h2, h3, h4, h5, h6⟩ := hf
  unfold enc1
  simp only [List.append_assoc]
  unfold pE
  rw [pI_put hs]
  simp only
  rw [show ([e.player, e.doing, e.kind] ++ (vb e.unit ++ (vb e.tile ++ (vb e.target ++ ys)))) = [e.player, e.doing, e.kind] ++ (vb e.unit ++ (vb e.tile ++ (vb e.target ++ ys))) from rfl, show (3 : Nat) = [e.player, e.doing, e.kind].length from rfl, pB_put]
  simp only
  rw [pN_put (by omega)]
  simp only
  rw [pN_put (by omega)]
  simp only
  rw [pN_put (by omega)]
  rfl
theorem pL_put (n : Nat) (hn : n ≤ 2147483647) : ∀ (es : List En) (last each : Nat) (ys : List Nat), (∀ e ∈ es, e.fits) → paced n last each es → pL n es.length last each (encs last es ++ ys) = some (es, ys) := by
  intro es
  induction es with
  | nil => intro last each ys _ _; rfl
  | cons e es ih =>
    intro last each ys hf hp
    obtain ⟨p1, p2, p3, p4⟩ := hp
    have hfe := hf e (by simp)
    obtain ⟨h1, h2, h3, h4, h5, h6⟩ := hfe
    rw [List.length_cons, encs, List.append_assoc, pL, pE_put (hf e (by simp)) (by omega)]
    simp only
    rw [show last + (e.tick - last) = e.tick from by omega, if_pos ⟨⟨h4, h5, h6⟩, p2, p3⟩, ih e.tick _ ys (fun x hx => hf x (by simp [hx])) p4]
theorem pE_ok {L R : List Nat} (hL : ∀ c ∈ L, c < 256) {x : En} (h : pE L = some (x, R)) (last : Nat) : L = enc1 last { x with tick := last + x.tick } ++ R ∧ x.tick ≤ 2147483647 ∧ x.player < 256 ∧ x.doing < 256 ∧ x.kind < 256 ∧ x.unit < 18446744073709551616 ∧ x.tile < 18446744073709551616 ∧ x.target < 18446744073709551616 := by
  unfold pE at h
  split at h
  · cases h
  rename_i s L1 h1
  split at h
  · cases h
  rename_i ys L2 h2
  split at h
  · cases h
  rename_i u L3 h3
  split at h
  · cases h
  rename_i t L4 h4
  split at h
  · cases h
  rename_i g L5 h5
  cases h
  obtain ⟨e1, f1⟩ := pI_ok hL h1
  have hL1 : ∀ c ∈ L1, c < 256 := fun c hc => hL c (by rw [e1]; exact List.mem_append_right _ hc)
  obtain ⟨e2, f2⟩ := pB_ok h2
  have hL2 : ∀ c ∈ L2, c < 256 := fun c hc => hL1 c (by rw [e2]; exact List.mem_append_right _ hc)
  obtain ⟨e3, f3⟩ := pN_ok hL2 h3
  have hL3 : ∀ c ∈ L3, c < 256 := fun c hc => hL2 c (by rw [e3]; exact List.mem_append_right _ hc)
  obtain ⟨e4, f4⟩ := pN_ok hL3 h4
  have hL4 : ∀ c ∈ L4, c < 256 := fun c hc => hL3 c (by rw [e4]; exact List.mem_append_right _ hc)
  obtain ⟨e5, f5⟩ := pN_ok hL4 h5
  obtain ⟨a, b, c, rfl⟩ := three_of f2
  have hy : ∀ x ∈ [a, b, c], x < 256 := fun x hx => hL1 x (by rw [e2]; exact List.mem_append_left _ hx)
  refine ⟨?_, f1, hy a (by simp), hy b (by simp), hy c (by simp), f3, f4, f5⟩
  unfold enc1
  simp only [Nat.add_sub_cancel_left, List.append_assoc]
  rw [← e5, ← e4, ← e3]
  exact e1.trans (congrArg _ e2)
theorem pL_ok (n : Nat) : ∀ (left last each : Nat) (L : List Nat) (es : List En) (R : List Nat), (∀ c ∈ L, c < 256) → pL n left last each L = some (es, R) → L = encs last es ++ R ∧ es.length = left ∧ paced n last each es ∧ ∀ e ∈ es, e.fits := by
  intro left
  induction left with
  | zero => intro last each L es R _ h; cases h; exact ⟨rfl, rfl, trivial, fun e he => by cases he⟩
  | succ left ih =>
    intro last each L es R hL h
    rw [pL] at h
    split at h
    · cases h
    rename_i x R1 hx
    split at h
    · rename_i hp
      split at h
      · cases h
      rename_i es2 R2 hd
      cases h
      obtain ⟨q1, q2, q3, q4, q5, _⟩ := pE_ok hL hx last
      obtain ⟨i1, i2, i3, i4⟩ := ih (last + x.tick) _ R1 es2 R (fun c hc => hL c (by rw [q1]; exact List.mem_append_right _ hc)) hd
      refine ⟨?_, by rw [List.length_cons, i2], ⟨by show last ≤ last + x.tick; omega, hp.2.1, hp.2.2, i3⟩, fun e hm => ?_⟩
      · rw [encs, List.append_assoc, ← i1]; exact q1
      · rcases List.mem_cons.1 hm with rfl | hm
        · exact ⟨q3, q4, q5, hp.1.1, hp.1.2.1, hp.1.2.2⟩
        · exact i4 e hm
    · cases h
/-- The reads of an entry, one after the other. -/
theorem chain5 {L : List Nat} : (nx pN (nx pN (nx pN (nx (pB 3) (nx pI (some L))))) = none ∧ pE L = none) ∨
    ∃ s L1 ys L2 u L3 t L4 g L5, pI L = some (s, L1) ∧ pB 3 L1 = some (ys, L2) ∧ pN L2 = some (u, L3) ∧ pN L3 = some (t, L4) ∧ pN L4 = some (g, L5) ∧ pE L = some (⟨s, ys.getD 0 0, ys.getD 1 0, ys.getD 2 0, u, t, g⟩, L5) ∧
      nx pI (some L) = some L1 ∧ nx (pB 3) (some L1) = some L2 ∧ nx pN (some L2) = some L3 ∧ nx pN (some L3) = some L4 ∧ nx pN (some L4) = some L5 ∧ va pI 0 (some L) = s ∧ va pN 0 (some L2) = u ∧ va pN 0 (some L3) = t ∧ va pN 0 (some L4) = g := by
  cases h1 : pI L with
  | none => left; simp [nx, h1, pE]
  | some p1 =>
    obtain ⟨s, L1⟩ := p1
    cases h2 : pB 3 L1 with
    | none => left; simp [nx, h1, h2, pE]
    | some p2 =>
      obtain ⟨ys, L2⟩ := p2
      cases h3 : pN L2 with
      | none => left; simp [nx, h1, h2, h3, pE]
      | some p3 =>
        obtain ⟨u, L3⟩ := p3
        cases h4 : pN L3 with
        | none => left; simp [nx, h1, h2, h3, h4, pE]
        | some p4 =>
          obtain ⟨t, L4⟩ := p4
          cases h5 : pN L4 with
          | none => left; simp [nx, h1, h2, h3, h4, h5, pE]
          | some p5 =>
            obtain ⟨g, L5⟩ := p5
            right
            exact ⟨s, L1, ys, L2, u, L3, t, L4, g, L5, rfl, h2, h3, h4, h5, by simp [pE, h1, h2, h3, h4, h5], by simp [nx, h1], by simp [nx, h2], by simp [nx, h3], by simp [nx, h4], by simp [nx, h5], by simp [va, h1], by simp [va, h3], by simp [va, h4], by simp [va, h5]⟩
theorem results_cell2 {P : Program} {fn : Func} {p q : Tmp} {ty : TypeId} (h : fn.results = #[.cell p ty, .tmp q]) (tmps : Array Value) (w : World) (g : Nat) (t : TypeId) (cs : Array Value) (fr : Nat × Nat) (d : TypeDesc)
    (hp : tmps.getD p undef = .pointer (some ⟨g, 0, none⟩)) (hg : w.heap[g]? = some (.cells cs t fr)) (b : Value) (hq : tmps.getD q undef = b)
    (hu : P.underlying ty = some d) (hd : (match d with | .struct _ | .array _ _ => true | _ => false) = true) (hi : (P.info? ty).map (·.size) = some cs.size) :
    (results fn tmps).run P w = .ok (.tuple #[.agg cs, b]) w := by
  have hp' : tmps[p]?.getD undef = .pointer (some ⟨g, 0, none⟩) := by simpa using hp
  have hq' : tmps[q]?.getD undef = b := by simpa using hq
  simp [results, h, hp', hq', asAddr, run_loadVar_row w g t ty cs fr d hg hu hd hi]
theorem gb_far {a w : World} {r : Option Nat} (h : a.grownBy w r) {p : Addr} (hp : a.heap.size ≤ p.block) (u : Value) : a.grownBy (w.setCell p u) r :=
  ⟨h.os, h.tape, h.output, by have := h.size; simpa [World.setCell] using this, fun k hk hr => (Below.heap_setCell w p u k (by omega)).trans (h.block k hk hr)⟩
theorem gb_alloc {a w : World} {r : Option Nat} (h : a.grownBy w r) (o : Obj) : a.grownBy (w.alloc o) r :=
  ⟨h.os, h.tape, h.output, Nat.le_trans h.size (by rw [World.size_alloc]; omega), fun k hk hr => (Below.heap_alloc w o k (Nat.lt_of_lt_of_le hk h.size)).trans (h.block k hk hr)⟩
theorem gb_drew {a w : World} {r : Option Nat} (h : a.grownBy w r) : a.grownBy w.drew r := ⟨h.os, h.tape, h.output, h.size, h.block⟩
/-- A reader and what it reads lie below. -/
def RIn (B g : Nat) (A : Option Addr) (n : Nat) : Prop := g < B ∧ ∀ a, A = some a → 0 < n → a.block < B
theorem RSt.rin {w : World} {g : Nat} {A : Option Addr} {n c : Nat} {xs : List Nat} {st : Option (List Nat)} (h : RSt w g A n c xs st) : RIn w.heap.size g A n := by
  refine ⟨h.lt, fun a ha hp => ?_⟩
  obtain ⟨a', e, h1, hr, hB, h4, hm⟩ := h
  obtain ⟨b, o, e1, hl, hc⟩ := hB.1.2.2 hp
  obtain rfl := Option.some.inj (ha.symm.trans e1)
  exact hl
theorem RSt.keep {w w' : World} {B g : Nat} {A : Option Addr} {n c : Nat} {xs : List Nat} {st : Option (List Nat)} (hi : RIn B g A n) (h : RSt w g A n c xs st) (hk : ∀ k, k < B → w'.heap[k]? = w.heap[k]?) (hs : w.heap.size ≤ w'.heap.size) : RSt w' g A n c xs st :=
  h.far (hk g hi.1) (fun a ha hp i => World.cell?_of_block (hk _ (hi.2 a ha hp))) hs
theorem RSt.set {w : World} {B g : Nat} {A : Option Addr} {n c : Nat} {xs : List Nat} {st : Option (List Nat)} (hi : RIn B g A n) (h : RSt w g A n c xs st) {p : Addr} (hp : B ≤ p.block) (u : Value) : RSt (w.setCell p u) g A n c xs st :=
  h.keep hi (fun k hk => Below.heap_setCell w p u k (by omega)) (by simp [World.setCell])
/-- An entry as the program has it. -/
def EV (t p d u l g k : Int) : Value := .agg #[.int .i64 t, .int .u8 p, .int .u8 d, .int .u16 u, .int .u16 l, .int .u16 g, .int .u8 k]
def EPost (w : World) (g : Nat) (A : Option Addr) (n c : Nat) (xs L : List Nat) (last : Int) (e : Ending) (w' : World) : Prop :=
  w.grownBy w' (some g) ∧ match pE L with
  | none => e = .returned (.tuple #[EV 0 0 0 0 0 0 0, .bool false]) ∧ RSt w' g A n c xs none
  | some (x, R) => e = .returned (.tuple #[EV (last + x.tick) x.player x.doing (IntKind.u16.wrap x.unit) (IntKind.u16.wrap x.tile) (IntKind.u16.wrap x.target) x.kind, .bool (decide x.words)]) ∧ RSt w' g A n c xs (some R)
end Go.Proofs.Ytlldmpcamdginaa.Log
