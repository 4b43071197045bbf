/- Path: a way that is known. -/
import Derived.Test.YtmceaocknlnmpaaPthU
import Derived.Test.YtmceaocknlnmpaaGrsB
import Derived.Test.YtmceaocknlnmpaaP3
namespace Go.Proofs.Ytmceaocknlnmpaa.Pth
open Go.ChangeShapes Go.WideShapes Go.ChangeAt Go.RowKit
open Go.Proofs.Ytmceaocknlnmpaa.Rec Go.Proofs.Ytmceaocknlnmpaa.Grid
set_option linter.unusedVariables false
theorem pw1 : pway 4 4 (fun t => decide (t < 16) && !decide (t = 1)) 0 2 0 = some [4, 5, 6, 2] := by kernel_rfl
theorem pw2 : pway 4 4 (fun t => decide (t < 16)) 5 6 1 = some [] := by kernel_rfl
theorem zeros_at (P : Nat) : ∀ i, (hi : i < (strOf (List.replicate P 0)).size) → (strOf (List.replicate P 0))[i].toNat = 0 := by
  intro i hi
  have h := nats_strOf (xs := List.replicate P 0) (fun j => by rw [zero_get]; omega)
  have h2 : (natsOf (strOf (List.replicate P 0))).getD i 0 = 0 := by rw [h, zero_get]
  have hl : i < (natsOf (strOf (List.replicate P 0))).length := by rw [natsOf_len]; exact hi
  have h3 : (natsOf (strOf (List.replicate P 0))).getD i 0 = (strOf (List.replicate P 0))[i].toNat := by
    rw [List.getD_eq_getElem?_getD, List.getElem?_eq_getElem hl]
    simp [natsOf]; rfl
  omega
theorem sfree_zeros (P : Nat) (bz : Nat → Bool) : sfree (strOf (List.replicate P 0)) bz = fun t => decide (t < P) && !bz t := by
  funext t
  unfold sfree
  have hs := (zeros_ok P).1
  by_cases h : t < (strOf (List.replicate P 0)).size
  · rw [dif_pos h, zeros_at P t h, decide_eq_true (by omega)]; rfl
  · rw [dif_neg h, decide_eq_false (by omega)]
set_option maxHeartbeats 1000000 in
theorem one_st (t : Nat) (w : World) : Calls Try.prog 16 #[.int .i64 (t : Int)] w fun e w' => e = .returned (.bool (decide (t = 1))) ∧ Ext w w' := by
  by_cases h : t = 1
  · have y1 : (t : Int) = 1 := by omega
    rw [decide_eq_true h]
    go_enter Try.func16, Try.ntmps16
    go_wp2_with fail
    go_ret
    exact ⟨rfl, Ext.rfl' _⟩
  · have y1 : ¬ (t : Int) = 1 := by omega
    rw [decide_eq_false h]
    go_enter Try.func16, Try.ntmps16
    go_wp2_with fail
    go_ret
    refine ⟨?_, Ext.rfl' _⟩
    show Ending.returned (Value.bool ((t : Int) == 1)) = _
    rw [show ((t : Int) == 1) = false from beq_eq_false_iff_ne.2 (by omega)]
theorem busy_one (w : World) : Busy (.func (.func 16) #[] #[]) (fun t => decide (t = 1)) w :=
  .inr ⟨_, _, rfl, fun w args => by kernel_rfl, fun w' t _ _ => one_st t w'⟩
theorem busy_nil (w : World) : Busy .nilFunc (fun _ => false) w := .inl ⟨rfl, fun _ => rfl⟩
theorem infoB' : (Try.prog.info? 5).map (fun i => (i.zero, i.size, i.bytes)) = some (some (.int .u8 0), 1, 1) := by kernel_rfl
theorem rw_cells {base n : Nat} {w : World} {v : Value} {xs : List Nat} (h : Rw base w v xs) (hn : xs.length = n) (h0 : 0 < n) : ∃ g c, v = .slice (some ⟨g, 0, none⟩) n c ∧ ∀ i, i < n → w.cell? ⟨g, i, none⟩ = some (.int .i64 ((xs.getD i 0 : Nat) : Int)) := by
  subst hn
  rcases h.2 with ⟨_, hz⟩ | ⟨g, cap, cur, rfl, _⟩
  · omega
  · exact ⟨g, cap, rfl, fun i hi => Rw.cell rfl h hi⟩
set_option maxHeartbeats 4000000 in
set_option maxRecDepth 100000 in
theorem wakes10 (w : World) : Calls Try.prog 5 #[] w fun e w' => e = .returned (.bool true) ∧ Ext w w' := by
  obtain ⟨i8, hi8, hz8, hs8, hb8⟩ := info_parts infoB'
  have H8 := Lib.hid (And.intro hi8 (And.intro hz8 (And.intro hs8 hb8))); clear hi8 hz8 hs8 hb8
  have HQ0 : Hid (i8.bytes * 16 ≤ 281474976710656) := Lib.hid (by rw [H8.out.2.2.2]; omega)
  have HQ1 : Hid (16 ≤ maxLen) := Lib.hid (by unfold maxLen; omega)
  have hTs := (zeros_ok 16).1
  have hsf := sfree_zeros 16
  have hok : okm 4 4 (strOf (List.replicate 16 0)) := ⟨by omega, by omega, by omega, by omega, by rw [hTs]; rfl, (zeros_ok 16).2⟩
  have hcvz := fun (w1 : World) (g c : Nat) (hown : w1.ownsRow w.heap.size 5 1 (.slice (some ⟨g, 0, none⟩) 16 c) 16 (madeCells (Value.int .u8 0).cells (16 * 1)).toList) => conv_zeros hown
  obtain ⟨T, hT⟩ : ∃ T, T = strOf (List.replicate 16 0) := ⟨_, rfl⟩
  rw [← hT] at hTs hsf hok hcvz
  have HNEW : Hid (∀ w, Calls Try.prog 6 #[.int .i64 4, .int .i64 4, .string T] w fun e w' => e = .returned (.tuple #[.agg #[.int .i64 4, .int .i64 4, .string T], .int .i64 0]) ∧ Ext w w') := Lib.hid (fun w => (new_any 4 4 T w (by omega) (by omega) (by omega) (by omega) (by omega)).mono (fun e w' h => by
    obtain ⟨rfl, h2⟩ := h
    exact ⟨by unfold newR mval; rw [if_pos hok], h2⟩))
  have HF1 : Hid (∀ w, Calls Try.prog 8 #[.agg #[.int .i64 4, .int .i64 4, .string T], .func (.func 16) #[] #[], .int .i64 0, .int .i64 2, .int .i64 0] w fun e w' => (∃ v, e = .returned (.tuple #[v, .bool true]) ∧ Rw w.heap.size w' v [4, 5, 6, 2]) ∧ Ext w w') := Lib.hid (fun w => (find_st 4 4 0 2 0 T _ _ w (busy_one w) (by omega) (by omega) (by omega) (by omega) (by rw [hTs]) (by omega) (by omega) (by omega) (by omega)).mono (fun e w' h => by
    obtain ⟨h1, h2⟩ := h
    refine ⟨?_, h2⟩
    rw [hsf, pw1] at h1
    exact h1))
  have HF2 : Hid (∀ w, Calls Try.prog 8 #[.agg #[.int .i64 4, .int .i64 4, .string T], .nilFunc, .int .i64 5, .int .i64 6, .int .i64 1] w fun e w' => (∃ v, e = .returned (.tuple #[v, .bool true]) ∧ Rw w.heap.size w' v []) ∧ Ext w w') := Lib.hid (fun w => (find_st 4 4 5 6 1 T _ _ w (busy_nil w) (by omega) (by omega) (by omega) (by omega) (by rw [hTs]) (by omega) (by omega) (by omega) (by omega)).mono (fun e w' h => by
    obtain ⟨h1, h2⟩ := h
    refine ⟨?_, h2⟩
    rw [hsf, show (fun t => decide (t < 16) && !false) = fun t => decide (t < 16) from by funext t; simp, pw2] at h1
    exact h1))
  have HCV := Lib.hid hcvz
  clear hTs hsf hok hcvz hT
  go_enter Try.func5, Try.ntmps5
  go_wp2_with (at_make; refine wpList_make_full w rfl (.const (.int .i64 16)) (.const (.int .i64 16)) 42 rfl w.heap.size 5 i8 (.int .u8 0) 1 Try.underlying42 H8.out.1 H8.out.2.1 H8.out.2.2.1 .i64 .i64 16 16 16 rfl rfl rfl rfl HQ0.out HQ1.out (Nat.le_refl _) ?_; intro w1 hown1 hg1; have hcv := HCV.out _ _ _ hown1; have HE1 := Lib.hid (ext_grown (Ext.rfl' w) hg1 (fun k hk => by cases hk)); clear hown1 hg1)
  clear hcv
  refine (HNEW.out _).mono ?_
  rintro e w2 ⟨rfl, b2⟩
  have HE2 := Lib.hid (ext_trans HE1.out b2)
  clear b2
  have K2 := Lib.hid (Blk.new w2 25 #[.int .i64 4, .int .i64 4, .string T])
  have HE2b := Lib.hid (ext_alloc HE2.out (.cells #[.int .i64 4, .int .i64 4, .string T] 25))
  go_upto_region 2 with fail
  generalize w2.alloc (.cells #[.int .i64 4, .int .i64 4, .string T] 25) = w3 at *
  obtain ⟨D, hD⟩ : ∃ D, D = w2.heap.size := ⟨_, rfl⟩
  rw [← hD] at K2 ⊢
  clear hD
  have k2 : ∀ i, w3.cell? ⟨D, i, none⟩ = _ := K2.out.cell
  go_wp2_with fail
  refine (HF1.out _).mono ?_
  rintro e w4 ⟨⟨v4, rfl, hr4⟩, b4⟩
  have K4 := Lib.hid (K2.out.ext b4)
  have HE4 := Lib.hid (ext_trans HE2b.out b4)
  obtain ⟨g, c, rfl, hc⟩ := rw_cells hr4 rfl (by decide)
  have C0 := Lib.hid (hc 0 (by decide)); have C1 := Lib.hid (hc 1 (by decide)); have C2 := Lib.hid (hc 2 (by decide)); have C3 := Lib.hid (hc 3 (by decide))
  clear b4 hr4 hc k2
  have k4 : ∀ i, w4.cell? ⟨D, i, none⟩ = _ := K4.out.cell
  go_wp2_with fail
  refine (HF2.out _).mono ?_
  rintro e w5 ⟨⟨v5, rfl, hr5⟩, b5⟩
  have HE5 := Lib.hid (ext_trans HE4.out b5)
  obtain ⟨A5, c5, rfl, _⟩ := hr5.shape
  have c0 := kc b5 C0.out; have c1 := kc b5 C1.out; have c2 := kc b5 C2.out; have c3 := kc b5 C3.out
  simp only [List.getD_cons_zero, List.getD_cons_succ] at c0 c1 c2 c3
  clear b5 hr5 k4 C0 C1 C2 C3
  go_wp2_with fail
  go_ret
  exact ⟨rfl, HE5.out⟩
end Go.Proofs.Ytmceaocknlnmpaa.Pth
