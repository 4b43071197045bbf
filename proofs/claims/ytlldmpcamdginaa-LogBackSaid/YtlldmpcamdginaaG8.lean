/- Headers: whether one may be (plain; walked). -/
import Derived.Test.YtlldmpcamdginaaG4
import Derived.Test.YtlldmpcamdginaaG3
import Derived.Deep.LoopGhost
import Derived.Deep.Cut
import Derived.Test.YtlldmpcamdginaaG5
namespace Go.Proofs.Ytlldmpcamdginaa.Log
open Go.ChangeShapes Go.WideShapes Go.ChangeAt Go.RowKit
open Go.Proofs.Ytlldmpcamdginaa.Rec
open Go.Proofs.Ytlldmpcamdginaa.Grid (okm newR mval new_any walk_yes walk_no)
open Go.Proofs.Ytlldmpcamdginaa.Map64 (MapR)
set_option linter.unusedVariables false

/-- A unit that is there at first, as it stands in a slice. -/
structure Sv where
  owner : Nat
  kind : Nat
  tile : Int
def cS (u : Sv) : List Value := [.int .u8 (u.owner : Int), .int .u8 (u.kind : Int), .int .i64 u.tile]
theorem cS_len (u : Sv) : (cS u).length = 3 := rfl
def Sv.fits (u : Sv) : Prop := u.owner < 256 ∧ u.kind < 256 ∧ -9223372036854775808 ≤ u.tile ∧ u.tile ≤ 9223372036854775807
/-- A header's numbers, its tiles' text, its units. -/
structure Hv where
  w : Int
  h : Int
  players : Int
  seed : Nat
  tiles : ByteArray
  starts : List Sv
/-- The header as a value; v: its slice. -/
def cH (x : Hv) (v : Value) : Array Value := #[.int .i64 x.w, .int .i64 x.h, .int .i64 x.players, .int .u32 (x.seed : Int), .string x.tiles, v]
def walkB (T : ByteArray) (t : Int) : Bool := if h : 0 ≤ t ∧ t.toNat < T.size then (((T[t.toNat]'h.2).toNat : Int) == 0) else false
def mayB (p : Int) (T : ByteArray) : List Int → List Sv → Bool
  | _, [] => true
  | tk, u :: us => decide ((u.owner : Int) < p) && (decide (1 ≤ u.kind) && (decide (u.kind ≤ 5) && (walkB T u.tile && (!decide (u.tile ∈ tk) && mayB p T (u.tile :: tk) us))))
def mayH (x : Hv) : Prop := okm x.w x.h x.tiles ∧ 1 ≤ x.players ∧ x.players ≤ 4 ∧ x.starts.length ≤ 128 ∧ mayB x.players x.tiles [] x.starts = true
instance (x : Hv) : Decidable (mayH x) := by unfold mayH; infer_instance
theorem walk_any (W H : Nat) (T : ByteArray) (t : Int) (w : World) (hW : 4 ≤ W) (hs : T.size ≤ 5000) :
    Calls Try.prog 36 #[.agg #[.int .i64 (W : Int), .int .i64 (H : Int), .string T], .int .i64 t] w fun e w' => e = .returned (.bool (walkB T t)) ∧ Ext w w' := by
  unfold walkB
  by_cases h : 0 ≤ t ∧ t.toNat < T.size
  · rw [dif_pos h]
    obtain ⟨n, rfl⟩ : ∃ n : Nat, t = (n : Int) := ⟨t.toNat, by omega⟩
    have hn : n < T.size := by have := h.2; rwa [Int.toNat_natCast] at this
    have := walk_yes W H n T w hW hs hn
    simpa using this
  · rw [dif_neg h]
    exact walk_no W H t T w hW hs (by omega)
theorem zU (w : World) : (zeroValue 98).run Try.prog w = .ok (.agg #[]) w := by kernel_rfl
def mF (tk : List Int) : Int → Option Value := fun t => if t ∈ tk then some (.agg #[]) else none
theorem mF_get (tk : List Int) (t : Int) : (mF tk t).getD (.agg #[]) = .agg #[] ∧ (mF tk t).isSome = decide (t ∈ tk) := by
  unfold mF; by_cases h : t ∈ tk <;> simp [h]
theorem kept1 {w w' : World} {g r : Nat} {t : TypeId} {cs : Array Value} (h : Blk w g t cs) (k : w.grownBy w' (some r)) (hne : g ≠ r) : Blk w' g t cs := (k.block g h.lt (by simpa using hne)).trans h
/-- Where the loop of May stands. -/
def MRel (w : World) (hb mb gb : Nat) (H G : Array Value) (p : Int) (T : ByteArray) (us : List Sv) (R : Bool) (gh : Nat) (iv : Value) (wr : World) : Prop :=
  ∃ (k : Nat) (tk : List Int), k + gh = us.length ∧ iv = .int .i64 (k : Int) ∧ MapR wr mb (mF tk) ∧ Blk wr hb 25 H ∧ Blk wr gb 94 G ∧ Ext w wr ∧ R = mayB p T tk (us.drop k)
set_option maxHeartbeats 4000000 in
set_option maxRecDepth 100000 in
theorem may_st (x : Hv) (A : Option Addr) (m c : Nat) (w : World) (hB : RowR w A m 3 cS x.starts) (hf : ∀ u ∈ x.starts, u.fits) (hs : x.tiles.size ≤ 5000) (hm : m ≤ 1000000)
    (hw1 : -9223372036854775808 ≤ x.w) (hw2 : x.w ≤ 9223372036854775807) (hh1 : -9223372036854775808 ≤ x.h) (hh2 : x.h ≤ 9223372036854775807) :
    Calls Try.prog 9 #[.agg (cH x (.slice A m c))] w fun e w' => e = .returned (.bool (decide (mayH x))) ∧ Ext w w' := by
  generalize hR : decide (mayH x) = R
  replace hR := Lib.hid hR
  obtain ⟨xw, xh, xp, xs, xt, us⟩ := x
  simp only at *
  have HB := Lib.hid hB; have HF := Lib.hid hf
  have HLEN := Lib.hid hB.1
  clear hB hf
  have HN := Lib.hid (fun (W : World) => new_any xw xh xt W hs hw1 hw2 hh1 hh2)
  clear hw1 hw2 hh1 hh2
  unfold cH
  simp only
  by_cases hok : okm xw xh xt
  · have HNR : Hid (newR xw xh xt = .tuple #[mval xw xh xt, .int .i64 0]) := Lib.hid (by unfold newR; rw [if_pos hok])
    obtain ⟨o1, o2, o3, o4, o5, o6⟩ := hok
    obtain ⟨W, rfl⟩ : ∃ W : Nat, xw = (W : Int) := ⟨xw.toNat, by omega⟩
    obtain ⟨H, rfl⟩ : ∃ H : Nat, xh = (H : Int) := ⟨xh.toNat, by omega⟩
    have HOK : Hid (okm (W : Int) (H : Int) xt) := Lib.hid ⟨o1, o2, o3, o4, o5, o6⟩
    have HWK := Lib.hid (fun t w' => walk_any W H xt t w' (by omega) hs)
    clear o1 o2 o3 o4 o5 o6
    have hb0 := Blk.new w 25 #[.int .i64 (W : Int), .int .i64 (H : Int), .int .i64 xp, .int .u32 (xs : Int), .string xt, .slice A m c]
    have HH0 := Lib.hid hb0; clear hb0
    have HE0 := Lib.hid (ext_alloc (Ext.rfl' w) (.cells #[.int .i64 (W : Int), .int .i64 (H : Int), .int .i64 xp, .int .u32 (xs : Int), .string xt, .slice A m c] 25))
    go_enter Try.func9, Try.ntmps9
    go_wp2_with fail
    refine (HN.out _).mono ?_
    rintro e w1 ⟨rfl, hE1⟩
    rw [HNR.out]
    unfold mval
    have HH1 := Lib.hid (HH0.out.ext hE1)
    have HE1 := Lib.hid (ext_trans HE0.out hE1)
    have hhc := fun i => HH1.out.cell i
    have hlt1 : w.heap.size < w1.heap.size := HH1.out.lt
    have HG2 := Lib.hid (Blk.new w1 94 #[.int .i64 (W : Int), .int .i64 (H : Int), .string xt])
    have HH2 := Lib.hid (HH1.out.alloc (.cells #[.int .i64 (W : Int), .int .i64 (H : Int), .string xt] 94))
    have HE2 := Lib.hid (ext_alloc HE1.out (.cells #[.int .i64 (W : Int), .int .i64 (H : Int), .string xt] 94))
    clear hE1 HN HNR HE0 HH0
    by_cases hp1 : 1 ≤ xp
    · by_cases hp4 : xp ≤ 4
      · by_cases hm8 : m ≤ 128
        · have HRR : Hid (R = mayB xp xt [] us) := Lib.hid (by
            rw [← hR.out]
            by_cases hb : mayB xp xt [] us = true
            · rw [hb]; exact decide_eq_true ⟨HOK.out, hp1, hp4, by rw [HLEN.out]; exact hm8, hb⟩
            · rw [Bool.eq_false_iff.2 hb]; exact decide_eq_false (fun h => hb h.2.2.2.2))
          have hmm := @run_makeMap Try.prog
          have hm9 : (m : Int) ≤ 128 := by omega
          clear HOK
          go_upto_region 5 with fail
          clear hmm
          have HM3 := MapR.new (w1.alloc (.cells #[.int .i64 (W : Int), .int .i64 (H : Int), .string xt] 94))
          rw [World.size_alloc] at HM3
          replace HM3 := Lib.hid HM3
          have HREL : Hid (MRel w w.heap.size (w1.heap.size + 1) w1.heap.size #[.int .i64 (W : Int), .int .i64 (H : Int), .int .i64 xp, .int .u32 (xs : Int), .string xt, .slice A m c] #[.int .i64 (W : Int), .int .i64 (H : Int), .string xt] xp xt us R m (.int .i64 ((0 : Nat) : Int)) ((w1.alloc (.cells #[.int .i64 (W : Int), .int .i64 (H : Int), .string xt] 94)).alloc (.map #[] 0))) := Lib.hid <| by
            refine ⟨0, [], by rw [HLEN.out]; omega, rfl, ?_, HH2.out.alloc _, HG2.out.alloc _, ext_alloc HE2.out _, HRR.out⟩
            have : mF [] = fun _ => none := by funext t; simp [mF]
            rw [this]
            exact HM3.out
          obtain ⟨w3, hw3⟩ : ∃ W', W' = (w1.alloc (.cells #[.int .i64 (W : Int), .int .i64 (H : Int), .string xt] 94)).alloc (.map #[] 0) := ⟨_, rfl⟩
          have HH3 := Lib.hid (HH2.out.alloc (.map #[] 0))
          rw [← hw3] at HH3 HREL ⊢
          clear hw3 HM3 HH1 HH2 HG2 HE2 HE1 hhc HRR
          have hh3 := fun i => HH3.out.cell i
          generalize hmb : w1.heap.size + 1 = mb at *
          generalize w1.heap.size = gb at *
          replace hmb := Lib.hid hmb
          go_wp2_with fail
          go_loopg [42] m (fun gh iv wr => MRel w w.heap.size mb gb #[.int .i64 (W : Int), .int .i64 (H : Int), .int .i64 xp, .int .u32 (xs : Int), .string xt, .slice A m c] #[.int .i64 (W : Int), .int .i64 (H : Int), .string xt] xp xt us R gh iv wr)
          case atStart => exact HREL.out
          case round =>
            obtain ⟨k, tk, hk, rfl, hM, hH, hG, hE, hRk⟩ := hrel
            obtain ⟨wi, rfl⟩ : ∃ wi : World, wi = wr := ⟨_, rfl⟩
            obtain ⟨gh, rfl⟩ : ∃ gh : Nat, gh = gk := ⟨_, rfl⟩
            have HM := Lib.hid hM; have HH := Lib.hid hH; have HG := Lib.hid hG; have HE := Lib.hid hE; have HRK := Lib.hid hRk
            have hkm : k + gh = m := by rw [hk, HLEN.out]
            clear hM hH hG hE hRk HREL hk hh3 HH3
            have y1 : (0 : Int) ≤ (k : Int) := by omega
            by_cases hlt : k < m
            · have hke : k < us.length := by rw [HLEN.out]; exact hlt
              obtain ⟨b, o, rfl, hbw, hc⟩ := HB.out.2 (by omega)
              have hd : us.drop k = us[k] :: us.drop (k + 1) := List.drop_eq_getElem_cons hke
              have hfx := HF.out us[k] (List.getElem_mem hke)
              have hcx := hc k hke
              obtain ⟨u, hu⟩ : ∃ u, u = us[k] := ⟨_, rfl⟩
              rw [← hu] at hd hfx hcx
              obtain ⟨u1, u2, u3⟩ := u
              obtain ⟨f1, f2, f3, f4⟩ := hfx
              simp only at f1 f2 f3 f4
              have HD := Lib.hid hd
              have HCX := Lib.hid (fun i (hi : i < 3) => (HE.out.cell (p := ⟨b, o + k * 3 + i, none⟩) hbw).trans (hcx i hi))
              clear hc hcx hu hd hke
              have c0 := HCX.out 0 (by omega); have c1 := HCX.out 1 (by omega); have c2 := HCX.out 2 (by omega)
              simp only [cS, Nat.add_zero, List.getElem?_cons_zero, List.getElem?_cons_succ] at c0 c1 c2
              have y2 : (k : Int) < (m : Int) := by omega
              have HMA := Lib.hid (HM.out.ext (ext_alloc (Ext.rfl' wi) (.cells #[.int .u8 (u1 : Int), .int .u8 (u2 : Int), .int .i64 u3] 80)))
              have HV1 := Lib.hid (mF_get tk u3)
              have hub := Blk.new wi 80 #[.int .u8 (u1 : Int), .int .u8 (u2 : Int), .int .i64 u3]
              have HU := Lib.hid hub; clear hub
              generalize htw : decide (u3 ∈ tk) = tw at *
              have HTW := Lib.hid htw; clear htw
              go_upto_region 9 with (refine Map64.wpList_look2 rfl (.tmp 47) (.tmp 49) rfl Try.underlying97 Try.underlying3 (zU _) rfl HMA.out u3 rfl (.agg #[]) tw HV1.out.1 HV1.out.2 ?_)
              have HM5 := Lib.hid (HMA.out.ext (ext_alloc (Ext.rfl' _) (.cells #[] 98)))
              have HH5 := Lib.hid ((HH.out.alloc (.cells #[.int .u8 (u1 : Int), .int .u8 (u2 : Int), .int .i64 u3] 80)).alloc (.cells #[] 98))
              have HG5 := Lib.hid ((HG.out.alloc (.cells #[.int .u8 (u1 : Int), .int .u8 (u2 : Int), .int .i64 u3] 80)).alloc (.cells #[] 98))
              have HU5 := Lib.hid (HU.out.alloc (.cells #[] 98))
              have HE5 := Lib.hid (ext_alloc (ext_alloc HE.out (.cells #[.int .u8 (u1 : Int), .int .u8 (u2 : Int), .int .i64 u3] 80)) (.cells #[] 98))
              obtain ⟨w5, hw5⟩ : ∃ W', W' = (wi.alloc (.cells #[.int .u8 (u1 : Int), .int .u8 (u2 : Int), .int .i64 u3] 80)).alloc (.cells #[] 98) := ⟨_, rfl⟩
              rw [← hw5] at HM5 HH5 HG5 HU5 HE5 ⊢
              clear hw5 HM HH HG HE HMA HU HV1 HCX c0 c1 c2
              have h5 := fun i => HH5.out.cell i
              have g5 := fun i => HG5.out.cell i
              have u5 := fun i => HU5.out.cell i
              have HTM : Hid (tw = decide (u3 ∈ tk)) := Lib.hid HTW.out.symm
              clear HTW
              by_cases q1 : (u1 : Int) < xp
              · have q1' : ¬ xp ≤ (u1 : Int) := by omega
                by_cases q2 : 1 ≤ u2
                · have q2' : (1 : Int) ≤ (u2 : Int) := by omega
                  by_cases q3 : u2 ≤ 5
                  · have q3' : (u2 : Int) ≤ 5 := by omega
                    have HW5 := Lib.hid (HWK.out u3 w5)
                    generalize hwb : walkB xt u3 = wb at *
                    have HWB := Lib.hid hwb; clear hwb
                    go_wp2_with fail
                    refine (HW5.out).mono ?_
                    rintro e w6 ⟨rfl, hE6⟩
                    have HE6 := Lib.hid (ext_trans HE5.out hE6)
                    have HH6 := Lib.hid (HH5.out.ext hE6); have HG6 := Lib.hid (HG5.out.ext hE6); have HM6 := Lib.hid (HM5.out.ext hE6); have HU6 := Lib.hid (HU5.out.ext hE6)
                    clear hE6 HW5 h5 g5 u5
                    have u6 := fun i => HU6.out.cell i
                    cases wb with
                    | false =>
                      have HRF : Hid (R = false) := Lib.hid (by rw [HRK.out, HD.out, mayB]; rw [HWB.out]; simp)
                      go_wp2_with fail
                      go_ret
                      exact ⟨by rw [HRF.out]; rfl, HE6.out⟩
                    | true =>
                      cases tw with
                      | true =>
                        have HRF : Hid (R = false) := Lib.hid (by rw [HRK.out, HD.out, mayB]; rw [← HTM.out]; simp)
                        go_wp2_with fail
                        go_ret
                        exact ⟨by rw [HRF.out]; rfl, HE6.out⟩
                      | false =>
                        have HRT : Hid (R = mayB xp xt (u3 :: tk) (us.drop (k + 1))) := Lib.hid (by
                          rw [HRK.out, HD.out, mayB, decide_eq_true q1, decide_eq_true q2, decide_eq_true q3, ← HTM.out]
                          show (true && (true && (true && (walkB xt u3 && (true && mayB xp xt (u3 :: tk) (us.drop (k + 1))))))) = _
                          rw [HWB.out]
                          simp only [Bool.true_and])
                        go_wp2_with (refine Map64.wpList_put rfl (.tmp 79) (.tmp 81) (.tmp 82) rfl Try.underlying97 Try.underlying3 rfl HM6.out u3 (.agg #[]) rfl rfl ?_; intro we hM9 hg9; have HM9 := Lib.hid hM9; have HG9 := Lib.hid hg9; clear hM9 hg9)
                        go_roundg (gh - 1)
                        case measure => omega
                        case rel =>
                          have hmb2 := hmb.out
                          refine ⟨k + 1, u3 :: tk, by rw [HLEN.out]; omega, by go_num, ?_, kept1 HH6.out HG9.out (by omega), kept1 HG6.out HG9.out (by omega), ext_grown HE6.out HG9.out (fun q e => by cases e; omega), HRT.out⟩
                          have hF : (fun x => if x = u3 then some (Value.agg #[]) else mF tk x) = mF (u3 :: tk) := by
                            funext x
                            unfold mF
                            by_cases hx : x = u3 <;> by_cases ht : x ∈ tk <;> simp [hx, ht]
                          rw [← hF]
                          exact HM9.out
                  · have q3' : ¬ (u2 : Int) ≤ 5 := by omega
                    have HRF : Hid (R = false) := Lib.hid (by rw [HRK.out, HD.out, mayB]; rw [decide_eq_false q3]; simp)
                    go_wp2_with fail
                    go_ret
                    exact ⟨by rw [HRF.out]; rfl, HE5.out⟩
                · have q2' : ¬ (1 : Int) ≤ (u2 : Int) := by omega
                  have HRF : Hid (R = false) := Lib.hid (by rw [HRK.out, HD.out, mayB]; rw [decide_eq_false q2]; simp)
                  go_wp2_with fail
                  go_ret
                  exact ⟨by rw [HRF.out]; rfl, HE5.out⟩
              · have q1' : xp ≤ (u1 : Int) := by omega
                have HRF : Hid (R = false) := Lib.hid (by rw [HRK.out, HD.out, mayB]; rw [decide_eq_false q1]; simp)
                go_wp2_with fail
                go_ret
                exact ⟨by rw [HRF.out]; rfl, HE5.out⟩
            · obtain rfl : gh = 0 := by omega
              obtain rfl : k = m := by omega
              have HRF : Hid (R = true) := Lib.hid (by
                rw [HRK.out, List.drop_eq_nil_of_le (by rw [HLEN.out]; omega), mayB])
              have y2 : ¬ (k : Int) < (k : Int) := by omega
              go_wp2_with fail
              go_ret
              exact ⟨by rw [HRF.out]; rfl, HE.out⟩
        · have hm9 : 128 < (m : Int) := by omega
          have HRF : Hid (R = false) := Lib.hid (by rw [← hR.out]; exact decide_eq_false (fun h => by have := h.2.2.2.1; simp only at this; rw [HLEN.out] at this; omega))
          go_wp2_with fail
          go_ret
          exact ⟨by rw [HRF.out]; rfl, HE2.out⟩
      · have hp5 : 4 < xp := by omega
        have HRF : Hid (R = false) := Lib.hid (by rw [← hR.out]; exact decide_eq_false (fun h => by have := h.2.2.1; simp only at this; omega))
        go_wp2_with fail
        go_ret
        exact ⟨by rw [HRF.out]; rfl, HE2.out⟩
    · have hp5 : xp < 1 := by omega
      have HRF : Hid (R = false) := Lib.hid (by rw [← hR.out]; exact decide_eq_false (fun h => by have := h.2.1; simp only at this; omega))
      go_wp2_with fail
      go_ret
      exact ⟨by rw [HRF.out]; rfl, HE2.out⟩
  · have HNR : Hid (newR xw xh xt = .tuple #[mval 0 0 ⟨#[]⟩, .int .i64 2]) := Lib.hid (by unfold newR; rw [if_neg hok])
    have HRF : Hid (R = false) := Lib.hid (by rw [← hR.out]; exact decide_eq_false (fun h => hok h.1))
    clear hok
    have HE0 := Lib.hid (ext_alloc (Ext.rfl' w) (.cells #[.int .i64 xw, .int .i64 xh, .int .i64 xp, .int .u32 (xs : Int), .string xt, .slice A m c] 25))
    go_enter Try.func9, Try.ntmps9
    go_wp2_with fail
    refine (HN.out _).mono ?_
    rintro e w1 ⟨rfl, hE1⟩
    rw [HNR.out]
    unfold mval
    have HE2 := Lib.hid (ext_alloc (ext_trans HE0.out hE1) (.cells #[.int .i64 0, .int .i64 0, .string ⟨#[]⟩] 94))
    clear hE1
    go_wp2_with fail
    go_ret
    exact ⟨by rw [HRF.out]; rfl, HE2.out⟩
end Go.Proofs.Ytlldmpcamdginaa.Log
namespace Go.Proofs.Ytlldmpcamdginaa.Log
open Go.ChangeShapes Go.WideShapes Go.ChangeAt Go.RowKit
open Go.Proofs.Ytlldmpcamdginaa.Wire
open Go.Proofs.Ytlldmpcamdginaa.Rec
open Go.Proofs.Ytlldmpcamdginaa.Grid (okm)
set_option linter.unusedVariables false

theorem put_fixed_nil (d : Nat) (hd : d < 4294967296) (w : World) : Calls Try.prog 33 #[.slice none 0 0, .int .u32 (d : Int)] w fun e w' => ∃ v, e = .returned v ∧ Src Try.prog 1 29 v (fx d).length (c8 (fx d)) w' ∧ Ext w w' := by
  refine (putFixed none 0 0 [] d hd w (Bs.none _ _) (fun _ => ⟨rfl, rfl⟩) (by omega) (by omega) (by omega)).mono ?_
  rintro e w' ⟨g, c, rfl, h1, h2, h3, hO, hE⟩
  rw [List.nil_append] at *
  exact ⟨_, rfl, own_src hO (small_mem (fx_mem hd)), hE⟩
theorem put_text_nil (s : ByteArray) (hs : s.size ≤ 1000000000) (w : World) : Calls Try.prog 34 #[.slice none 0 0, .string s] w fun e w' => ∃ v, e = .returned v ∧ Src Try.prog 1 29 v (vb s.size ++ natsOf s).length (c8 (vb s.size ++ natsOf s)) w' ∧ Ext w w' := by
  refine (putText none 0 0 [] s w (Bs.none _ _) (fun _ => ⟨rfl, rfl⟩) (by omega) (by omega) (by omega) hs).mono ?_
  rintro e w' ⟨g, c, rfl, h1, h2, h3, hO, hE⟩
  rw [List.nil_append] at *
  exact ⟨_, rfl, own_src hO (small_app (vb_byte _) (natsOf_small s)), hE⟩
/-- The header as numbers. -/
def Sv.st (u : Sv) : St := ⟨u.owner, u.kind, u.tile.toNat⟩
def Hv.hd (x : Hv) : Hd := ⟨x.w.toNat, x.h.toNat, x.players.toNat, x.seed, natsOf x.tiles, x.starts.map Sv.st⟩
theorem mayB_tiles (p : Int) (T : ByteArray) : ∀ (us : List Sv) (tk : List Int), mayB p T tk us = true → ∀ u ∈ us, 0 ≤ u.tile ∧ u.tile.toNat < T.size ∧ u.kind ≤ 5
  | [], _, _, u, hu => by cases hu
  | x :: us, tk, h, u, hu => by
    rw [mayB] at h
    simp only [Bool.and_eq_true, decide_eq_true_iff] at h
    obtain ⟨h1, h2, h3, h4, h5, h6⟩ := h
    rcases List.mem_cons.1 hu with rfl | hu
    · unfold walkB at h4
      split at h4
      · rename_i hq; exact ⟨hq.1, hq.2, h3⟩
      · cases h4
    · exact mayB_tiles p T us _ h6 u hu
/-- Where a loop over three numbers stands. -/
def NRel (W : World) (zs : List Nat) (ws : List Nat) (ab : Nat) (ds : Array Value) (gh : Nat) (bv iv : Value) (wr : World) : Prop :=
  ∃ (k : Nat), k + gh = 3 ∧ iv = .int .i64 (k : Int) ∧ OwnB W.heap.size wr bv (zs ++ (ws.take k).flatMap vb) ∧ Blk wr ab 3 ds ∧ Off bv ab ∧ Ext W wr
/-- Where the loop over the units stands. -/
def URel (W : World) (us : List St) (T : List Nat) (gh : Nat) (bv iv : Value) (wr : World) : Prop :=
  ∃ (k : Nat) (zs : List Nat), k + gh = us.length ∧ iv = .int .i64 (k : Int) ∧ OwnB W.heap.size wr bv zs ∧ zs.length ≤ 10000 + 40 * k ∧ Ext W wr ∧ T = zs ++ encS (us.drop k)
theorem ints3 (x3 x4 x5 : Nat) (f3 : x3 < 1000000) (f4 : x4 < 1000000) (f5 : x5 < 1000000) : ∀ k, k < 3 → ∃ y, y < 1000000 ∧ (#[Value.int .i64 (x3 : Int), .int .i64 (x4 : Int), .int .i64 (x5 : Int)])[k]? = some (.int .i64 (y : Int)) ∧ ([x3, x4, x5].take (k + 1)).flatMap vb = ([x3, x4, x5].take k).flatMap vb ++ vb y
  | 0, _ => ⟨x3, f3, rfl, by simp⟩
  | 1, _ => ⟨x4, f4, rfl, by simp⟩
  | 2, _ => ⟨x5, f5, rfl, by simp⟩
  | k + 3, h => absurd h (by omega)
theorem flat3i_len (x3 x4 x5 : Nat) (f3 : x3 < 1000000) (f4 : x4 < 1000000) (f5 : x5 < 1000000) : ∀ k, (([x3, x4, x5].take k).flatMap vb).length ≤ 30 := by
  intro k
  have q1 := vb_ten (n := x3) (by omega)
  have q2 := vb_ten (n := x4) (by omega)
  have q3 := vb_ten (n := x5) (by omega)
  match k with
  | 0 => simp
  | 1 => simp; omega
  | 2 => simp; omega
  | k + 3 => simp; omega
def HdPost (w : World) (x : Hv) (e : Ending) (w' : World) : Prop :=
  Ext w w' ∧ if mayH x then ∃ v, e = .returned (.tuple #[v, .int .i64 0]) ∧ OwnB w.heap.size w' v (encH x.hd) else e = .returned (.tuple #[.slice none 0 0, .int .i64 2])
theorem hd_ok {w w' : World} {x : Hv} {v : Value} {L : List Nat} {b : Nat} (h : mayH x) (hE : Ext w w') (hO : OwnB b w' v L) (hL : encH x.hd = L) (hb : w.heap.size ≤ b) : HdPost w x (.returned (.tuple #[v, .int .i64 0])) w' := by
  refine ⟨hE, ?_⟩; rw [if_pos h, hL]; exact ⟨v, rfl, hO.mono hb⟩
theorem hd_bad {w w' : World} {x : Hv} (h : ¬ mayH x) (hE : Ext w w') : HdPost w x (.returned (.tuple #[.slice none 0 0, .int .i64 2])) w' := by
  refine ⟨hE, ?_⟩; rw [if_neg h]
end Go.Proofs.Ytlldmpcamdginaa.Log
namespace Go.Proofs.Ytlldmpcamdginaa.Log
open Go.ChangeShapes Go.WideShapes Go.ChangeAt Go.RowKit
open Go.Proofs.Ytlldmpcamdginaa.Wire
open Go.Proofs.Ytlldmpcamdginaa.Rec
open Go.Proofs.Ytlldmpcamdginaa.Grid (okm)
set_option linter.unusedVariables false

theorem hE1o {a b c : World} (h : Ext a b) (k : Ext b c) : Ext a c := ext_trans h k
set_option maxHeartbeats 4000000 in
set_option maxRecDepth 100000 in
theorem header_st (x : Hv) (A : Option Addr) (m c : Nat) (w : World) (hB : RowR w A m 3 cS x.starts) (hf : ∀ u ∈ x.starts, u.fits) (hs : x.tiles.size ≤ 5000) (hm : m ≤ 1000000) (hsd : x.seed < 4294967296)
    (hw1 : -9223372036854775808 ≤ x.w) (hw2 : x.w ≤ 9223372036854775807) (hh1 : -9223372036854775808 ≤ x.h) (hh2 : x.h ≤ 9223372036854775807) :
    Calls Try.prog 8 #[.agg (cH x (.slice A m c))] w (HdPost w x) := by
  have HMY := Lib.hid (fun (w' : World) (e : Ext w w') => may_st x A m c w' (hB.ext e) hf hs hm hw1 hw2 hh1 hh2)
  have HB := Lib.hid hB
  have HLEN := Lib.hid hB.1
  have HE0 := Lib.hid (ext_alloc (Ext.rfl' w) (.cells (cH x (.slice A m c)) 25))
  have HFI := Lib.hid (fun u hu => (hf u hu).1)
  clear hB hf hw1 hw2 hh1 hh2
  by_cases hmay : mayH x
  · have HMAY := Lib.hid hmay
    rw [decide_eq_true hmay] at HMY
    obtain ⟨⟨o1, o2, o3, o4, o5, o6⟩, p1, p4, p8, hmb⟩ := hmay
    have HTI := Lib.hid (mayB_tiles _ _ _ _ hmb)
    have HHD : Hid (encH x.hd = vb x.w.toNat ++ (vb x.h.toNat ++ (vb x.players.toNat ++ (fx x.seed ++ (vb (natsOf x.tiles).length ++ (natsOf x.tiles ++ (vb (x.starts.map Sv.st).length ++ encS (x.starts.map Sv.st)))))))) := Lib.hid rfl
    obtain ⟨xw, xh, xp, xs, xt, us⟩ := x
    simp only at *
    obtain ⟨W, rfl⟩ : ∃ W : Nat, xw = (W : Int) := ⟨xw.toNat, by omega⟩
    obtain ⟨H, rfl⟩ : ∃ H : Nat, xh = (H : Int) := ⟨xh.toNat, by omega⟩
    obtain ⟨p, rfl⟩ : ∃ p : Nat, xp = (p : Int) := ⟨xp.toNat, by omega⟩
    simp only [Int.toNat_natCast] at HHD
    rw [natsOf_len, List.length_map, HLEN.out] at HHD
    have g1 : W < 1000000 := by omega
    have g2 : H < 1000000 := by omega
    have g3 : p < 1000000 := by omega
    have g4 : m ≤ 128 := by have := HLEN.out; omega
    clear o1 o2 o3 o4 o5 o6 p1 p4 p8 hmb
    unfold cH at HMY HE0 ⊢
    simp only at HMY HE0 ⊢
    have HH0 := Lib.hid (Blk.new w 25 #[.int .i64 (W : Int), .int .i64 (H : Int), .int .i64 (p : Int), .int .u32 (xs : Int), .string xt, .slice A m c])
    go_enter Try.func8, Try.ntmps8
    go_wp2_with fail
    refine (HMY.out _ HE0.out).mono ?_
    rintro e w1 ⟨rfl, hE1⟩
    have HH1 := Lib.hid (HH0.out.ext hE1)
    have HE1 := Lib.hid (ext_trans HE0.out hE1)
    have h1c := fun i => HH1.out.cell i
    have hl1 : w.heap.size < w1.heap.size := HH1.out.lt
    clear hE1 HMY HE0 HH0
    have HI0 := Lib.hid (Blk.new w1 3 #[.int .i64 (W : Int), .int .i64 (H : Int), .int .i64 (p : Int)])
    have HR0 : Hid (NRel w1 [] [W, H, p] w1.heap.size #[.int .i64 (W : Int), .int .i64 (H : Int), .int .i64 (p : Int)] 3 (.slice none 0 0) (.int .i64 ((0 : Nat) : Int)) (w1.alloc (.cells #[.int .i64 (W : Int), .int .i64 (H : Int), .int .i64 (p : Int)] 3))) :=
      Lib.hid ⟨0, rfl, rfl, OwnB.nil _ _, HI0.out, (by intro h; cases h), ext_alloc (Ext.rfl' _) _⟩
    go_upto_region 5 with fail
    go_loopg [4, 22] 3 (fun gh bv iv wr => NRel w1 [] [W, H, p] w1.heap.size #[.int .i64 (W : Int), .int .i64 (H : Int), .int .i64 (p : Int)] gh bv iv wr)
    case atStart => exact HR0.out
    case round =>
      obtain ⟨k, hk, rfl, hO, hI, hF, hE⟩ := hrel
      obtain ⟨wi, rfl⟩ : ∃ wi : World, wi = wr := ⟨_, rfl⟩
      obtain ⟨vi, rfl⟩ : ∃ vi : Value, vi = u4 := ⟨_, rfl⟩
      obtain ⟨gh, rfl⟩ : ∃ gh : Nat, gh = gk := ⟨_, rfl⟩
      have HO := Lib.hid hO; have HI := Lib.hid hI; have HF := Lib.hid hF; have HE := Lib.hid hE
      clear hO hI hF hE HR0 HI0 h1c
      have i1 : (0 : Int) ≤ (k : Int) := by omega
      by_cases hl3 : k < 3
      · obtain ⟨y, hy1, hy2, hy3⟩ := ints3 W H p g1 g2 g3 k hl3
        have HY3 := Lib.hid hy3
        have cy := HI.out.cell k
        rw [hy2] at cy
        have i2 : (k : Int) < 3 := by omega
        have HPY := Lib.hid (fun w' => put_nil y (by omega) w')
        clear hy2 hy3
        go_wp2_with fail
        refine (HPY.out wi).mono ?_
        rintro e w8 ⟨v8, rfl, hsrc8, hO8', hE8⟩
        have HSRC := Lib.hid hsrc8
        have HO8 := Lib.hid (HO.out.ext hE8)
        have HI8 := Lib.hid (HI.out.ext hE8)
        have HE8 := Lib.hid (ext_trans HE.out hE8)
        clear hsrc8 hO8' hE8 cy
        have HLZ : Hid ((([] : List Nat) ++ ([W, H, p].take k).flatMap vb).length + (vb y).length ≤ 140737488355328) := Lib.hid (by
          have q2 := vb_ten (n := y) (by omega)
          have q3 := flat3i_len W H p g1 g2 g3 k
          simp only [List.length_append, List.length_nil]
          omega)
        go_wp2_with (at_builtin; refine wpList_b rfl (.tmp 26) (.tmp 29) 29 rfl vi v8 ([] ++ ([W, H, p].take k).flatMap vb) (vb y) rfl rfl HO8.out HE8.out.size HSRC.out HLZ.out ?_; intro vC wC hOC hGC; have HOC := Lib.hid hOC; have HGC := Lib.hid hGC; clear hOC hGC)
        go_roundg (gh - 1)
        case measure => omega
        case rel =>
          refine ⟨k + 1, by omega, by go_num, ?_, HGC.out.blk HF.out HI8.out, HGC.out.off HF.out HI8.out.lt, HGC.out.ext HE8.out HO8.out (Nat.le_refl _)⟩
          rw [HY3.out, ← List.append_assoc]
          exact HOC.out
      · obtain rfl : k = 3 := by omega
        have i2 : ¬ ((3 : Nat) : Int) < 3 := by omega
        have hH := HH1.out.ext HE.out
        have hHc := fun i => hH.cell i
        have hZ : ([] : List Nat) ++ ([W, H, p].take 3).flatMap vb = vb W ++ (vb H ++ vb p) := by simp
        rw [hZ] at HO
        clear hZ hH HI HF
        have HPF := Lib.hid (fun w' => put_fixed_nil xs hsd w')
        have HPT := Lib.hid (fun w' => put_text_nil xt (by omega) w')
        have HPM := Lib.hid (fun w' => put_nil m (by omega) w')
        have l1 := vb_ten (n := W) (by omega)
        have l2 := vb_ten (n := H) (by omega)
        have l3 := vb_ten (n := p) (by omega)
        have l4 := vb_ten (n := xt.size) (by omega)
        have l5 := vb_ten (n := m) (by omega)
        have l6 : (fx xs).length = 4 := rfl
        have l7 := natsOf_len xt
        have HL := Lib.hid (And.intro l1 (And.intro l2 (And.intro l3 (And.intro l4 (And.intro l5 (And.intro l6 l7))))))
        clear l1 l2 l3 l4 l5 l6 l7
        go_wp2_with fail
        refine (HPF.out wi).mono ?_
        rintro e w2 ⟨v2, rfl, hsrc, hE2⟩
        have HSRC := Lib.hid hsrc
        have HO2 := Lib.hid (HO.out.ext hE2)
        have HE2 := Lib.hid (ext_trans HE.out hE2)
        have HLZ : Hid ((vb W ++ (vb H ++ vb p)).length + (fx xs).length ≤ 140737488355328) := Lib.hid (by
          obtain ⟨l1, l2, l3, l4, l5, l6, l7⟩ := HL.out
          simp only [List.length_append]; omega)
        clear hsrc hE2 hHc HO HE
        go_upto_region 10 with (at_builtin; refine wpList_b rfl (.tmp 32) (.tmp 35) 29 rfl vi v2 (vb W ++ (vb H ++ vb p)) (fx xs) rfl rfl HO2.out HE2.out.size HSRC.out HLZ.out ?_; intro v3 w3 hO3 hG3; have HO3 := Lib.hid hO3; have HG3 := Lib.hid hG3; clear hO3 hG3)
        have HE3 := Lib.hid (HG3.out.ext HE2.out HO2.out (Nat.le_refl _))
        have hH := HH1.out.ext HE3.out
        have hHc := fun i => hH.cell i
        clear hH HSRC HO2 HE2 HLZ HG3
        go_wp2_with fail
        refine (HPT.out w3).mono ?_
        rintro e w4 ⟨v4, rfl, hsrc, hE4⟩
        have HSRC := Lib.hid hsrc
        have HO4 := Lib.hid (HO3.out.ext hE4)
        have HE4 := Lib.hid (ext_trans HE3.out hE4)
        have HLZ : Hid ((vb W ++ (vb H ++ vb p) ++ fx xs).length + (vb xt.size ++ natsOf xt).length ≤ 140737488355328) := Lib.hid (by
          obtain ⟨l1, l2, l3, l4, l5, l6, l7⟩ := HL.out
          simp only [List.length_append]; omega)
        clear hsrc hE4 hHc HO3 HE3
        go_upto_region 11 with (at_builtin; refine wpList_b rfl (.tmp 37) (.tmp 40) 29 rfl v3 v4 (vb W ++ (vb H ++ vb p) ++ fx xs) (vb xt.size ++ natsOf xt) rfl rfl HO4.out HE4.out.size HSRC.out HLZ.out ?_; intro v5 w5 hO5 hG5; have HO5 := Lib.hid hO5; have HG5 := Lib.hid hG5; clear hO5 hG5)
        have HE5 := Lib.hid (HG5.out.ext HE4.out HO4.out (Nat.le_refl _))
        have hH := HH1.out.ext HE5.out
        have hHc := fun i => hH.cell i
        clear hH HSRC HO4 HE4 HLZ HG5
        go_wp2_with fail
        refine (HPM.out w5).mono ?_
        rintro e w6 ⟨v6, rfl, hsrc, _, hE6⟩
        have HSRC := Lib.hid hsrc
        have HO6 := Lib.hid (HO5.out.ext hE6)
        have HE6 := Lib.hid (ext_trans HE5.out hE6)
        have HLZ : Hid ((vb W ++ (vb H ++ vb p) ++ fx xs ++ (vb xt.size ++ natsOf xt)).length + (vb m).length ≤ 140737488355328) := Lib.hid (by
          obtain ⟨l1, l2, l3, l4, l5, l6, l7⟩ := HL.out
          simp only [List.length_append]; omega)
        clear hsrc hE6 hHc HO5 HE5
        go_upto_region 12 with (at_builtin; refine wpList_b rfl (.tmp 42) (.tmp 47) 29 rfl v5 v6 (vb W ++ (vb H ++ vb p) ++ fx xs ++ (vb xt.size ++ natsOf xt)) (vb m) rfl rfl HO6.out HE6.out.size HSRC.out HLZ.out ?_; intro v7 w7 hO7 hG7; have HO7 := Lib.hid hO7; have HG7 := Lib.hid hG7; clear hO7 hG7)
        have HE7 := Lib.hid (HG7.out.ext HE6.out HO6.out (Nat.le_refl _))
        have hH := HH1.out.ext HE7.out
        have hHc := fun i => hH.cell i
        have HUR : Hid (URel w1 (us.map Sv.st) (encH (Hv.hd ⟨(W : Int), (H : Int), (p : Int), xs, xt, us⟩)) m v7 (.int .i64 ((0 : Nat) : Int)) w7) := Lib.hid <| by
          refine ⟨0, _, by rw [List.length_map, HLEN.out]; omega, rfl, HO7.out, ?_, HE7.out, ?_⟩
          · obtain ⟨l1, l2, l3, l4, l5, l6, l7⟩ := HL.out
            simp only [List.length_append]; omega
          · rw [HHD.out]; simp only [List.append_assoc, List.drop_zero]
        clear hH HSRC HO6 HE6 HLZ HG7
        obtain ⟨T, hT⟩ : ∃ T, T = encH (Hv.hd ⟨(W : Int), (H : Int), (p : Int), xs, xt, us⟩) := ⟨_, rfl⟩
        rw [← hT] at HUR
        have HT := Lib.hid hT; clear hT HHD HL
        go_wp2_with fail
        go_loopg [4, 52] m (fun gh bv iv wr => URel w1 (us.map Sv.st) T gh bv iv wr)
        case atStart => exact HUR.out
        case round =>
          obtain ⟨k, zs, hk, rfl, hO, hzl, hE, hTT⟩ := hrel
          obtain ⟨wo, rfl⟩ : ∃ wo : World, wo = wr := ⟨_, rfl⟩
          obtain ⟨vo, rfl⟩ : ∃ vo : Value, vo = u4 := ⟨_, rfl⟩
          obtain ⟨gh, rfl⟩ : ∃ gh : Nat, gh = gk := ⟨_, rfl⟩
          have hkm : k + gh = m := by rw [hk, List.length_map, HLEN.out]
          have HO := Lib.hid hO; have HE := Lib.hid hE; have HTT := Lib.hid hTT
          clear hO hE hTT HUR HO7 HE7 hHc hk
          have y1 : (0 : Int) ≤ (k : Int) := by omega
          by_cases hlt : k < m
          · have hke : k < us.length := by rw [HLEN.out]; exact hlt
            obtain ⟨b, o, rfl, hbw, hc⟩ := HB.out.2 (by omega)
            have hti := HTI.out us[k] (List.getElem_mem hke)
            have hcx := hc k hke
            have hd : (us.map Sv.st).drop k = Sv.st us[k] :: (us.map Sv.st).drop (k + 1) := by
              rw [List.drop_eq_getElem_cons (by rw [List.length_map]; exact hke), List.getElem_map]
            obtain ⟨u, hu⟩ : ∃ u, u = us[k] := ⟨_, rfl⟩
            rw [← hu] at hd hti hcx
            obtain ⟨u1, u2, u3⟩ := u
            obtain ⟨t1, t2, t3⟩ := hti
            simp only at t1 t2 t3
            obtain ⟨t, rfl⟩ : ∃ t : Nat, u3 = (t : Int) := ⟨u3.toNat, by omega⟩
            rw [Int.toNat_natCast] at t2
            have hu1 := HFI.out us[k] (List.getElem_mem hke)
            rw [← hu] at hu1
            simp only at hu1
            have e1 := hE1o HE1.out HE.out
            have c0 := (e1.cell (p := ⟨b, o + k * 3 + 0, none⟩) hbw).trans (hcx 0 (by omega)); have c1 := (e1.cell (p := ⟨b, o + k * 3 + 1, none⟩) hbw).trans (hcx 1 (by omega)); have c2 := (e1.cell (p := ⟨b, o + k * 3 + 2, none⟩) hbw).trans (hcx 2 (by omega))
            simp only [cS, Nat.add_zero, List.getElem?_cons_zero, List.getElem?_cons_succ] at c0 c1 c2
            have HTT2 : Hid (T = (zs ++ (vb u1 ++ (vb u2 ++ vb t))) ++ encS ((us.map Sv.st).drop (k + 1))) := Lib.hid (by
              rw [HTT.out, hd, encS]
              simp only [Sv.st, Int.toNat_natCast, List.append_assoc])
            clear hc hcx hu hd hke e1 HTT
            have y2 : (k : Int) < (m : Int) := by omega
            have k1 : u1 < 1000000 := by omega
            have k2 : u2 < 1000000 := by omega
            have k3 : t < 1000000 := by omega
            have HEA := Lib.hid (ext_alloc (ext_alloc (Ext.rfl' wo) (.cells #[.int .u8 (u1 : Int), .int .u8 (u2 : Int), .int .i64 (t : Int)] 80)) (.cells #[.int .i64 (u1 : Int), .int .i64 (u2 : Int), .int .i64 (t : Int)] 3))
            have HI0 := Lib.hid (Blk.new1 wo (.cells #[.int .u8 (u1 : Int), .int .u8 (u2 : Int), .int .i64 (t : Int)] 80) 3 #[.int .i64 (u1 : Int), .int .i64 (u2 : Int), .int .i64 (t : Int)])
            have HNR : Hid (NRel w1 zs [u1, u2, t] (wo.heap.size + 1) #[.int .i64 (u1 : Int), .int .i64 (u2 : Int), .int .i64 (t : Int)] 3 vo (.int .i64 ((0 : Nat) : Int)) ((wo.alloc (.cells #[.int .u8 (u1 : Int), .int .u8 (u2 : Int), .int .i64 (t : Int)] 80)).alloc (.cells #[.int .i64 (u1 : Int), .int .i64 (u2 : Int), .int .i64 (t : Int)] 3))) :=
              Lib.hid ⟨0, rfl, rfl, by simpa using HO.out.ext HEA.out, HI0.out, off_new HO.out (.inl (by omega)), ext_trans HE.out HEA.out⟩
            go_wp2_with fail
            go_loopg [4, 66] 3 (fun gh bv iv wr => NRel w1 zs [u1, u2, t] (wo.heap.size + 1) #[.int .i64 (u1 : Int), .int .i64 (u2 : Int), .int .i64 (t : Int)] gh bv iv wr)
            case atStart => exact HNR.out
            case round =>
              obtain ⟨q, hq, rfl, hO, hI, hF, hE⟩ := hrel
              obtain ⟨wj, rfl⟩ : ∃ wj : World, wj = wr := ⟨_, rfl⟩
              obtain ⟨vj, rfl⟩ : ∃ vj : Value, vj = u4 := ⟨_, rfl⟩
              obtain ⟨gh2, rfl⟩ : ∃ gh : Nat, gh = gk := ⟨_, rfl⟩
              have HOJ := Lib.hid hO; have HI := Lib.hid hI; have HF := Lib.hid hF; have HEJ := Lib.hid hE
              clear hO hI hF hE HNR HI0 HEA HO c0 c1 c2
              have i1 : (0 : Int) ≤ (q : Int) := by omega
              by_cases hl3 : q < 3
              · obtain ⟨y, hy1, hy2, hy3⟩ := ints3 u1 u2 t k1 k2 k3 q hl3
                have HY3 := Lib.hid hy3
                have cy := HI.out.cell q
                rw [hy2] at cy
                have i2 : (q : Int) < 3 := by omega
                have HPY := Lib.hid (fun w' => put_nil y (by omega) w')
                clear hy2 hy3
                go_wp2_with fail
                refine (HPY.out wj).mono ?_
                rintro e w8 ⟨v8, rfl, hsrc8, hO8', hE8⟩
                have HSRC := Lib.hid hsrc8
                have HO8 := Lib.hid (HOJ.out.ext hE8)
                have HI8 := Lib.hid (HI.out.ext hE8)
                have HE8 := Lib.hid (ext_trans HEJ.out hE8)
                clear hsrc8 hO8' hE8 cy
                have HLZ : Hid ((zs ++ ([u1, u2, t].take q).flatMap vb).length + (vb y).length ≤ 140737488355328) := Lib.hid (by
                  have q2 := vb_ten (n := y) (by omega)
                  have q3 := flat3i_len u1 u2 t k1 k2 k3 q
                  simp only [List.length_append]
                  omega)
                go_wp2_with (at_builtin; refine wpList_b rfl (.tmp 70) (.tmp 73) 29 rfl vj v8 (zs ++ ([u1, u2, t].take q).flatMap vb) (vb y) rfl rfl HO8.out HE8.out.size HSRC.out HLZ.out ?_; intro vC wC hOC hGC; have HOC := Lib.hid hOC; have HGC := Lib.hid hGC; clear hOC hGC)
                go_roundg (gh2 - 1)
                case measure => omega
                case rel =>
                  refine ⟨q + 1, by omega, by go_num, ?_, HGC.out.blk HF.out HI8.out, HGC.out.off HF.out HI8.out.lt, HGC.out.ext HE8.out HO8.out (Nat.le_refl _)⟩
                  rw [HY3.out, ← List.append_assoc]
                  exact HOC.out
              · obtain rfl : q = 3 := by omega
                have i2 : ¬ ((3 : Nat) : Int) < 3 := by omega
                have hZ : zs ++ ([u1, u2, t].take 3).flatMap vb = zs ++ (vb u1 ++ (vb u2 ++ vb t)) := by simp
                rw [hZ] at HOJ
                clear hZ
                go_wp2_with fail
                go_roundg (gh - 1)
                case measure => omega
                case rel =>
                  have q1 := vb_ten (n := u1) (by omega)
                  have q2 := vb_ten (n := u2) (by omega)
                  have q3 := vb_ten (n := t) (by omega)
                  refine ⟨k + 1, _, by rw [List.length_map, HLEN.out]; omega, by go_num, HOJ.out, ?_, HEJ.out, HTT2.out⟩
                  simp only [List.length_append]; omega
          · obtain rfl : gh = 0 := by omega
            obtain rfl : k = m := by omega
            have HZ : Hid (encH (Hv.hd ⟨(W : Int), (H : Int), (p : Int), xs, xt, us⟩) = zs) := Lib.hid (by
              rw [← HT.out, HTT.out, List.drop_eq_nil_of_le (by rw [List.length_map, HLEN.out]; omega), encS, List.append_nil])
            have y2 : ¬ (k : Int) < (k : Int) := by omega
            go_wp2_with fail
            go_ret2
            exact hd_ok HMAY.out (ext_trans HE1.out HE.out) HO.out HZ.out (by omega)
  · rw [decide_eq_false hmay] at HMY
    have HNM := Lib.hid hmay
    clear hmay
    obtain ⟨xw, xh, xp, xs, xt, us⟩ := x
    unfold cH at HMY HE0 ⊢
    simp only at *
    go_enter Try.func8, Try.ntmps8
    go_wp2_with fail
    refine (HMY.out _ HE0.out).mono ?_
    rintro e w1 ⟨rfl, hE1⟩
    have HE1 := Lib.hid (ext_trans HE0.out hE1)
    clear hE1
    go_wp2_with fail
    go_ret2
    exact hd_bad HNM.out HE1.out
end Go.Proofs.Ytlldmpcamdginaa.Log
