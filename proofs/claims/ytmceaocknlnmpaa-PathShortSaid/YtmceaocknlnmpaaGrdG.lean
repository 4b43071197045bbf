/- The document's tiles next to one, walked. -/
import Derived.Test.YtmceaocknlnmpaaGrdF
namespace Go.Proofs.Ytmceaocknlnmpaa.Grid
open Go.ChangeShapes Go.WideShapes Go.ChangeAt Go.RowKit
set_option linter.unusedVariables false

theorem wp_still_tail {P : Program} {id : Nat} {Q : Exit → Act → World → Prop} {a : Act} {w : World} {l : List Oper} (n : Nat) (hm : P.follows .mixedOrders = true) (hB : Region.lexTailB .any l.toArray n = true)
    (h : wpStill P l.toArray w.drew (fun a' => wpList P l.toArray Q (l.drop n) a' w.drew) (l.take n) a) : (Code.region id l.toArray true).wp P Q a w := wp_region_still_tail n hm hB h
/-- How far, of whatever number. -/
def nf (W P t : Nat) (z : Int) : Int := if 0 ≤ z ∧ z < (P : Int) then (far W t z.toNat : Int) else -1
theorem rfar_any (W H P t : Nat) (z : Int) (T : ByteArray) (w : World) (hW : 4 ≤ W) (hP : P = W * H) (hP2 : P ≤ 5000) (ht : t < P) : Calls Try.prog 33 #[.agg #[.int .i64 (W : Int), .int .i64 (H : Int), .string T], .int .i64 (t : Int), .int .i64 z] w fun e w' => e = .returned (.int .i64 (nf W P t z)) ∧ Ext w w' := by
  unfold nf
  by_cases h : 0 ≤ z ∧ z < (P : Int)
  · rw [if_pos h]
    have := rfar_yes W H P t z.toNat T w hW hP hP2 ht (by omega)
    rwa [show ((z.toNat : Nat) : Int) = z from by omega] at this
  · rw [if_neg h]
    exact rfar_no W H P (t : Int) z T w hP hP2 (.inr (by omega))
/-- The four that may be next to one. -/
def el (W t : Nat) : Nat → Int
  | 0 => (t : Int) - (W : Int)
  | 1 => (t : Int) + 1
  | 2 => (t : Int) + (W : Int)
  | _ => (t : Int) - 1
theorem el0 (W t : Nat) : el W t 0 = (t : Int) - (W : Int) := rfl
theorem el1 (W t : Nat) : el W t 1 = (t : Int) + 1 := rfl
theorem el2 (W t : Nat) : el W t 2 = (t : Int) + (W : Int) := rfl
theorem el3 (W t : Nat) : el W t 3 = (t : Int) - 1 := rfl
def rn (W P t : Nat) : Nat → List Nat
  | 0 => []
  | k + 1 => if nf W P t (el W t k) = 1 then rn W P t k ++ [(el W t k).toNat] else rn W P t k
theorem rn_len (W P t k : Nat) : (rn W P t k).length ≤ k := by
  induction k with
  | zero => exact Nat.le_refl _
  | succ k ih => rw [rn]; split
                 · rw [List.length_append]; simp; omega
                 · omega
theorem nf_at {W P t z : Nat} (h : z < P) : nf W P t (z : Int) = 1 ↔ far W t z = 1 := by
  unfold nf; rw [if_pos ⟨by omega, by omega⟩, Int.toNat_natCast]; omega
theorem nf_off {W P t : Nat} {z : Int} (h : z < 0 ∨ (P : Int) ≤ z) : ¬ nf W P t z = 1 := by
  unfold nf; rw [if_neg (by omega)]; omega
theorem rn_nxt {W H P t : Nat} (hW : 4 ≤ W) (hP : P = W * H) (ht : t < P) : rn W P t 4 = nxt W H t := by
  have hW0 : 0 < W := by omega
  have hr := row_pos (t := t) hW0
  have hm := row_more (t := t) (H := H) hW0
  have e0 : nf W P t (el W t 0) = 1 ↔ 0 < t / W := by
    by_cases h : W ≤ t
    · have : el W t 0 = ((t - W : Nat) : Int) := by have a0 := el0 W t; have a1 := el1 W t; have a2 := el2 W t; have a3 := el3 W t; omega
      rw [this, nf_at (by omega)]
      exact ⟨fun _ => hr.2 h, fun _ => far_north hW0 h⟩
    · exact ⟨fun e => absurd e (nf_off (by have a0 := el0 W t; have a1 := el1 W t; have a2 := el2 W t; have a3 := el3 W t; omega)), fun e => absurd (hr.1 e) h⟩
  have e1 : nf W P t (el W t 1) = 1 ↔ t % W + 1 < W := by
    by_cases h : t + 1 < P
    · have : el W t 1 = ((t + 1 : Nat) : Int) := by have a0 := el0 W t; have a1 := el1 W t; have a2 := el2 W t; have a3 := el3 W t; omega
      rw [this, nf_at h]
      exact far_east hW
    · refine ⟨fun e => absurd e (nf_off (by have a0 := el0 W t; have a1 := el1 W t; have a2 := el2 W t; have a3 := el3 W t; omega)), fun e => ?_⟩
      exfalso
      have hPt : P = t + 1 := by omega
      obtain ⟨h1, h2⟩ := right_same hW0 e
      rw [← hPt, hP, Nat.mul_mod_right] at h2
      omega
  have e2 : nf W P t (el W t 2) = 1 ↔ t / W + 1 < H := by
    rw [hm, ← hP]
    by_cases h : t + W < P
    · have : el W t 2 = ((t + W : Nat) : Int) := by have a0 := el0 W t; have a1 := el1 W t; have a2 := el2 W t; have a3 := el3 W t; omega
      rw [this, nf_at h]
      exact ⟨fun _ => h, fun _ => far_south hW0⟩
    · exact ⟨fun e => absurd e (nf_off (by have a0 := el0 W t; have a1 := el1 W t; have a2 := el2 W t; have a3 := el3 W t; omega)), fun e => absurd e h⟩
  have e3 : nf W P t (el W t 3) = 1 ↔ 0 < t % W := by
    by_cases h : 0 < t
    · have : el W t 3 = ((t - 1 : Nat) : Int) := by have a0 := el0 W t; have a1 := el1 W t; have a2 := el2 W t; have a3 := el3 W t; omega
      rw [this, nf_at (by omega)]
      exact far_west hW h
    · refine ⟨fun e => absurd e (nf_off (by have a0 := el0 W t; have a1 := el1 W t; have a2 := el2 W t; have a3 := el3 W t; omega)), fun e => ?_⟩
      have : t = 0 := by omega
      rw [this, Nat.zero_mod] at e; omega
  simp only [rn, e0, e1, e2, e3]
  unfold nxt
  have t0 : (el W t 0).toNat = t - W := by have a0 := el0 W t; have a1 := el1 W t; have a2 := el2 W t; have a3 := el3 W t; omega
  have t1 : (el W t 1).toNat = t + 1 := by have a0 := el0 W t; have a1 := el1 W t; have a2 := el2 W t; have a3 := el3 W t; omega
  have t2 : (el W t 2).toNat = t + W := by have a0 := el0 W t; have a1 := el1 W t; have a2 := el2 W t; have a3 := el3 W t; omega
  have t3 : (el W t 3).toNat = t - 1 := by have a0 := el0 W t; have a1 := el1 W t; have a2 := el2 W t; have a3 := el3 W t; omega
  rw [t0, t1, t2, t3]
  by_cases c0 : 0 < t / W <;> by_cases c1 : t % W + 1 < W <;> by_cases c2 : t / W + 1 < H <;> by_cases c3 : 0 < t % W <;> simp only [c0, c1, c2, c3, if_true, if_false, List.nil_append, List.append_nil]
def RnRel (w : World) (W P t : Nat) (ov iv : Value) (wr : World) : Prop := ∃ k : Nat, k ≤ 4 ∧ iv = .int .i64 (k : Int) ∧ Row w wr ov (rn W P t k) ∧ Ext w wr
theorem row_low {W0 W w : World} {v : Value} {zs : List Nat} (h : Row W w v zs) (e : Ext W0 W) : Row W0 w v zs := by
  have hs := e.size
  rcases h with ⟨hl, hq | ⟨g, cap, cur, hv, hb, r⟩⟩
  · exact ⟨hl, .inl hq⟩
  · exact ⟨hl, .inr ⟨g, cap, cur, hv, Nat.le_trans hs hb, r⟩⟩
theorem el_cell {w : World} {g W t : Nat} (h : Blk w g 3 #[.int .i64 (el W t 0), .int .i64 (el W t 1), .int .i64 (el W t 2), .int .i64 (el W t 3)]) : ∀ k, k < 4 → w.cell? ⟨g, k, none⟩ = some (.int .i64 (el W t k)) := by
  intro k hk
  rw [h.cell k]
  rcases (show k = 0 ∨ k = 1 ∨ k = 2 ∨ k = 3 by omega) with rfl | rfl | rfl | rfl <;> rfl
set_option maxHeartbeats 4000000 in
set_option maxRecDepth 100000 in
theorem rnext (W H P t : Nat) (T : ByteArray) (w : World) (hW : 4 ≤ W) (hW2 : W ≤ 64) (hP : P = W * H) (hP2 : P ≤ 5000) (ht : t < P) :
    Calls Try.prog 23 #[.agg #[.int .i64 (W : Int), .int .i64 (H : Int), .string T], .int .i64 (t : Int)] w (NxPost w (nxt W H t)) := by
  rw [← rn_nxt hW hP ht]
  have HF := Lib.hid (fun z w1 => rfar_any W H P t z T w1 hW hP hP2 ht)
  have HP := Lib.hid hP; clear hP
  have HEL := Lib.hid (show el W t 0 = (t : Int) - (W : Int) ∧ el W t 1 = (t : Int) + 1 ∧ el W t 2 = (t : Int) + (W : Int) ∧ el W t 3 = (t : Int) - 1 from ⟨rfl, rfl, rfl, rfl⟩)
  obtain ⟨i0, hi0, hz0, hz1, hz2⟩ := info_parts infoI
  have HI := Lib.hid (And.intro hi0 (And.intro hz0 (And.intro hz1 hz2))); clear hi0 hz0 hz1 hz2
  have HK := Lib.hid (Blk.new w 36 #[.int .i64 (W : Int), .int .i64 (H : Int), .string T])
  go_enter Try.func23, Try.ntmps23
  go_wp2_with fail
  have hE0 : Ext w ((w.alloc (.cells #[.int .i64 (W : Int), .int .i64 (H : Int), .string T] 36)).alloc (.cells #[.int .i64 ((t : Int) - (W : Int)), .int .i64 ((t : Int) + 1), .int .i64 ((t : Int) + (W : Int)), .int .i64 ((t : Int) - 1)] 3)) := ext_alloc (ext_alloc (Ext.rfl' w) _) _
  have hK0 : Blk ((w.alloc (.cells #[.int .i64 (W : Int), .int .i64 (H : Int), .string T] 36)).alloc (.cells #[.int .i64 ((t : Int) - (W : Int)), .int .i64 ((t : Int) + 1), .int .i64 ((t : Int) + (W : Int)), .int .i64 ((t : Int) - 1)] 3)) w.heap.size 36 #[.int .i64 (W : Int), .int .i64 (H : Int), .string T] := HK.out.alloc _
  have hK1 : Blk ((w.alloc (.cells #[.int .i64 (W : Int), .int .i64 (H : Int), .string T] 36)).alloc (.cells #[.int .i64 ((t : Int) - (W : Int)), .int .i64 ((t : Int) + 1), .int .i64 ((t : Int) + (W : Int)), .int .i64 ((t : Int) - 1)] 3)) (w.heap.size + 1) 3 #[.int .i64 (el W t 0), .int .i64 (el W t 1), .int .i64 (el W t 2), .int .i64 (el W t 3)] := Blk.new1 w _ 3 _
  obtain ⟨wl, hwl⟩ : ∃ W9, W9 = ((w.alloc (.cells #[.int .i64 (W : Int), .int .i64 (H : Int), .string T] 36)).alloc (.cells #[.int .i64 ((t : Int) - (W : Int)), .int .i64 ((t : Int) + 1), .int .i64 ((t : Int) + (W : Int)), .int .i64 ((t : Int) - 1)] 3)) := ⟨_, rfl⟩
  rw [← hwl] at hE0 hK0 hK1 ⊢
  clear hwl HK
  have HE0 := Lib.hid hE0; have HK0 := Lib.hid hK0; have HK1 := Lib.hid hK1
  clear hE0 hK0 hK1
  go_loopw [5, 7] (fun ov iv wr => RnRel wl W P t ov iv wr) (fun _ iv _ => 4 - (intOf iv).toNat)
  case atStart => exact ⟨0, Nat.zero_le _, rfl, Row.nil _ _, Ext.rfl' _⟩
  case round =>
    obtain ⟨k, hk, rfl, hR, hE⟩ := hrel
    have HR := Lib.hid hR; have HE := Lib.hid hE
    have K0 := Lib.hid (HK0.out.ext hE)
    have c1 := el_cell (HK1.out.ext hE)
    have hb0 := HK0.out.ext hE
    clear hR hE
    by_cases hk4 : k < 4
    · have c1k := c1 k hk4
      have hl := rn_len W P t k
      have HRN := Lib.hid (show rn W P t (k + 1) = if nf W P t (el W t k) = 1 then rn W P t k ++ [(el W t k).toNat] else rn W P t k from rfl)
      have HEL2 : Hid (nf W P t (el W t k) = 1 → 0 ≤ el W t k) := Lib.hid (fun h => by
        unfold nf at h
        split at h
        · omega
        · omega)
      have hez : -100 ≤ el W t k ∧ el W t k ≤ 10000 := by
        obtain ⟨e0, e1, e2, e3⟩ := HEL.out
        rcases (show k = 0 ∨ k = 1 ∨ k = 2 ∨ k = 3 by omega) with rfl | rfl | rfl | rfl
        · rw [e0]; omega
        · rw [e1]; omega
        · rw [e2]; omega
        · rw [e3]; omega
      have HFK := Lib.hid (fun w1 => HF.out (el W t k) w1)
      generalize el W t k = z at *
      generalize nf W P t z = F at *
      obtain ⟨hz1, hz2⟩ := hez
      have y0 : (k : Int) < 4 := by omega
      have y1 : (0 : Int) ≤ (k : Int) := by omega
      have hcell0 := HK0.out.ext HE.out
      have d0 := (K0.out.drew).cell 0
      obtain ⟨d0, d1, d2⟩ := map_cells K0.out
      clear c1 hb0 hcell0
      go_wp2_with fail
      refine wp_still_tail 6 (by kernel_rfl) (by kernel_rfl) ?_
      iterate 6 still_step
      refine wpStill_nil ?_
      go_wp2_with fail
      refine (HFK.out _).mono ?_
      rintro e w3 ⟨rfl, b3⟩
      have HE3 := Lib.hid (ext_trans (ext_drew HE.out) b3)
      have HR3 := Lib.hid (HR.out.ext (ext_trans (ext_drew (Ext.rfl' _)) b3))
      have c1k := kc (ext_trans (ext_drew (Ext.rfl' _)) b3) c1k
      clear b3
      by_cases hF : F = 1
      · subst hF
        have hz0 := HEL2.out rfl
        obtain ⟨q, rfl⟩ : ∃ q : Nat, z = (q : Int) := ⟨z.toNat, by omega⟩
        have HLQ : Hid (rn W P t (k + 1) = rn W P t k ++ [q]) := Lib.hid (by rw [HRN.out, if_pos rfl, Int.toNat_natCast])
        have HSR := Lib.hid (src_num w3 q)
        have HG := Lib.hid (ext_alloc (Ext.rfl' w3) (.cells #[.int .i64 (q : Int)] 3))
        have HRA := Lib.hid (HR3.out.ext HG.out)
        have HX := Lib.hid (ext_trans HE3.out HG.out)
        clear HFK HRN HEL2
        go_wp2_with (at_builtin; refine wpList_app_own rfl (.tmp 33) (.tmp 38) 22 22 rfl 3 i0 (.int .i64 0) 1 8 Try.underlying22 HI.out.1 HI.out.2.1 HI.out.2.2.1 HI.out.2.2.2 rfl wl.heap.size _ _ (rn W P t k).length (nums (rn W P t k)) rfl rfl HRA.out [q].length (nums [q]) HSR.out (by unfold maxLen; simp; omega) (by simp; omega) HX.out.size ?_; intro v9 w9 hown9 hgr9; have HR9 : Hid (Row wl w9 v9 (rn W P t (k + 1))) := Lib.hid (by rw [HLQ.out]; unfold Row; rw [List.length_append, nums_app]; exact hown9); have HE9 := Lib.hid (row_ext HRA.out HX.out hgr9); clear hown9 hgr9)
        go_roundw
        case rel => exact ⟨k + 1, by omega, by go_num, HR9.out, HE9.out⟩
        case measure => simp [intOf]; omega
      · have hFb : (F == 1) = false := beq_eq_false_iff_ne.2 hF
        have HLQ : Hid (rn W P t (k + 1) = rn W P t k) := Lib.hid (by rw [HRN.out, if_neg hF])
        clear hF
        go_wp2_with fail
        go_roundw
        case rel => exact ⟨k + 1, by omega, by go_num, by rw [HLQ.out]; exact HR3.out, HE3.out⟩
        case measure => simp [intOf]; omega
    · have y0 : ¬ (k : Int) < 4 := by omega
      have hk' : k = 4 := by omega
      have HK4 : Hid (rn W P t k = rn W P t 4) := Lib.hid (by rw [hk'])
      clear hk' c1 hb0
      go_wp2_with fail
      go_ret
      exact ⟨_, rfl, row_low (HK4.out ▸ HR.out) HE0.out, ext_trans HE0.out HE.out⟩
end Go.Proofs.Ytmceaocknlnmpaa.Grid
