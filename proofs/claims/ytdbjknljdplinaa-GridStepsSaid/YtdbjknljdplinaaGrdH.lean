/- The document's tiles around one, walked. -/
import Derived.Test.YtdbjknljdplinaaGrdG
namespace Go.Proofs.Ytdbjknljdplinaa.Grid
open Go.ChangeShapes Go.WideShapes Go.ChangeAt Go.RowKit
set_option linter.unusedVariables false

def RaRel (w : World) (W P t : Nat) (f : Int) (ov iv : Value) (wr : World) : Prop := ∃ k : Nat, k ≤ P ∧ iv = .int .i64 (k : Int) ∧ Row w wr ov (upto W t f k) ∧ Ext w wr
set_option maxHeartbeats 4000000 in
set_option maxRecDepth 100000 in
theorem raround (W H P t : Nat) (f : Int) (T : ByteArray) (w : World) (hW : 4 ≤ W) (hW2 : W ≤ 64) (hP : P = W * H) (hP2 : P ≤ 5000) (ht : t < P) :
    Calls Try.prog 48 #[.agg #[.int .i64 (W : Int), .int .i64 (H : Int), .string T], .int .i64 (t : Int), .int .i64 f] w (NxPost w (upto W t f P)) := by
  have hP1 : (W : Int) * (H : Int) = (P : Int) := by rw [hP]; exact (Int.natCast_mul W H).symm
  have HF := Lib.hid (fun b w1 (hb : b < P) => rfar_yes W H P t b T w1 hW hP hP2 ht hb)
  have HON := Lib.hid (fun w1 => ron_yes W H P t T w1 hP hP2 ht)
  clear hP
  obtain ⟨i0, hi0, hz0, hz1, hz2⟩ := info_parts infoI
  have HI := Lib.hid (And.intro hi0 (And.intro hz0 (And.intro hz1 hz2))); clear hi0 hz0 hz1 hz2
  have HK := Lib.hid (Blk.new w 60 #[.int .i64 (W : Int), .int .i64 (H : Int), .string T])
  go_enter Try.func48, Try.ntmps48
  go_wp2_with fail
  have hE0 : Ext w (w.alloc (.cells #[.int .i64 (W : Int), .int .i64 (H : Int), .string T] 60)) := ext_alloc (Ext.rfl' w) _
  obtain ⟨wl, hwl⟩ : ∃ W9, W9 = w.alloc (.cells #[.int .i64 (W : Int), .int .i64 (H : Int), .string T] 60) := ⟨_, rfl⟩
  rw [← hwl] at hE0 HK ⊢
  clear hwl
  have HE0 := Lib.hid hE0
  clear hE0
  go_loopw [7, 8] (fun ov iv wr => RaRel wl W P t f ov iv wr) (fun _ iv _ => P - (intOf iv).toNat)
  case atStart => exact ⟨0, Nat.zero_le _, rfl, Row.nil _ _, Ext.rfl' _⟩
  case round =>
    obtain ⟨k, hk, rfl, hR, hE⟩ := hrel
    have HR := Lib.hid hR; have HE := Lib.hid hE
    have K0 := Lib.hid (HK.out.ext hE)
    obtain ⟨d0, d1, d2⟩ := map_cells K0.out
    clear hR hE
    by_cases hkP : k < P
    · have y0 : (k : Int) < (P : Int) := by omega
      have hl := upto_len W t f k
      have HY := Lib.hid (fun h => upto_yes (W := W) (t := t) (f := f) (k := k) h)
      have HN := Lib.hid (fun h => upto_no (W := W) (t := t) (f := f) (k := k) h)
      go_wp2_with fail
      refine (HON.out _).mono ?_
      rintro e w3 ⟨rfl, b3⟩
      have K3 := Lib.hid (K0.out.ext b3)
      have HE3 := Lib.hid (ext_trans HE.out b3)
      have HR3 := Lib.hid (HR.out.ext b3)
      clear d0 d1 d2 b3
      obtain ⟨d0, d1, d2⟩ := map_cells K3.out
      go_wp2_with fail
      refine (HF.out k _ hkP).mono ?_
      rintro e w4 ⟨rfl, b4⟩
      have HE4 := Lib.hid (ext_trans HE3.out b4)
      have HR4 := Lib.hid (HR3.out.ext b4)
      clear b4 d0 d1 d2
      generalize far W t k = F at *
      by_cases hF : (F : Int) ≤ f
      · have HLQ := Lib.hid (HY.out hF)
        have HSR := Lib.hid (src_num w4 k)
        have HG := Lib.hid (ext_alloc (Ext.rfl' w4) (.cells #[.int .i64 (k : Int)] 3))
        have HRA := Lib.hid (HR4.out.ext HG.out)
        have HX := Lib.hid (ext_trans HE4.out HG.out)
        clear HY HN
        go_wp2_with (at_builtin; refine wpList_app_own rfl (.tmp 29) (.tmp 31) 66 66 rfl 3 i0 (.int .i64 0) 1 8 Try.underlying66 HI.out.1 HI.out.2.1 HI.out.2.2.1 HI.out.2.2.2 rfl wl.heap.size _ _ (upto W t f k).length (nums (upto W t f k)) rfl rfl HRA.out [k].length (nums [k]) HSR.out (by unfold maxLen; simp; omega) (by simp; omega) HX.out.size ?_; intro v9 w9 hown9 hgr9; have HR9 : Hid (Row wl w9 v9 (upto W t f (k + 1))) := Lib.hid (by rw [HLQ.out]; unfold Row; rw [List.length_append, nums_app]; exact hown9); have HE9 := Lib.hid (row_ext HRA.out HX.out hgr9); clear hown9 hgr9)
        go_roundw
        case rel => exact ⟨k + 1, by omega, by go_num, HR9.out, HE9.out⟩
        case measure => simp [intOf]; omega
      · have HLQ := Lib.hid (HN.out (by omega))
        have hF2 : f < (F : Int) := by omega
        clear HY HN
        go_wp2_with fail
        go_roundw
        case rel => exact ⟨k + 1, by omega, by go_num, by rw [HLQ.out]; exact HR4.out, HE4.out⟩
        case measure => simp [intOf]; omega
    · have y0 : ¬ (k : Int) < (P : Int) := by omega
      have hk' : k = P := by omega
      have HKP : Hid (upto W t f k = upto W t f P) := Lib.hid (by rw [hk'])
      clear hk'
      go_wp2_with fail
      go_ret
      exact ⟨_, rfl, row_low (HKP.out ▸ HR.out) HE0.out, ext_trans HE0.out HE.out⟩
end Go.Proofs.Ytdbjknljdplinaa.Grid
