/- Path: the law PathFinds, walked. -/
import Derived.Test.YtmceaocknlnmpaaPthA1
namespace Go.Proofs.Ytmceaocknlnmpaa.Pth
open Go.ChangeShapes Go.WideShapes Go.ChangeAt Go.RowKit
open Go.Proofs.Ytmceaocknlnmpaa.Rec Go.Proofs.Ytmceaocknlnmpaa.Grid
set_option linter.unusedVariables false
def Tru (w : World) (e : Ending) (w' : World) : Prop := e = .returned (.bool true) ∧ Ext w w'
/-- What both Finds answer on a map. -/
theorem both_ans (W H P nb cb : Nat) (T : ByteArray) (A : Option Addr) (zs : List Int) (w0 : World) (hR : RowR w0 A nb 1 cZ zs) (hnb : nb ≤ 100000) (hW : 4 ≤ W) (hW2 : W ≤ 64) (hH : 4 ≤ H) (hH2 : H ≤ 64) (hP : P = W * H) (hs : T.size = P) (hs2 : P ≤ 4999) (f tt nr : Int) (hnr : nr ≤ 9223372036854775807) :
    ∃ (ok : Bool) (l : List Nat), (∀ w bu, Busy bu (fun t => decide ((t : Int) ∈ zs)) w → Calls Try.prog 8 #[.agg #[.int .i64 (W : Int), .int .i64 (H : Int), .string T], bu, .int .i64 f, .int .i64 tt, .int .i64 nr] w (Ans ok l w)) ∧
      ∀ w, Ext w0 w → Calls Try.prog 10 #[.agg #[.int .i64 (W : Int), .int .i64 (H : Int), .string T], .slice A nb cb, .int .i64 f, .int .i64 tt, .int .i64 nr] w (Ans ok l w) := by
  by_cases h : (f < 0 ∨ (P : Int) ≤ f) ∨ (tt < 0 ∨ (P : Int) ≤ tt) ∨ nr < 0
  · exact ⟨false, [], fun w bu _ => (find_no W H T bu f tt nr w hW (by omega) (by rw [hs]; exact h)).mono (fun e w' h => h.ans), fun w _ => (rfind_no W H P T _ f tt nr w hP (by omega) h).mono (fun e w' h => h.ans)⟩
  · obtain ⟨fn, rfl⟩ : ∃ n : Nat, f = (n : Int) := ⟨f.toNat, by omega⟩
    obtain ⟨tn, rfl⟩ : ∃ n : Nat, tt = (n : Int) := ⟨tt.toNat, by omega⟩
    obtain ⟨rn, rfl⟩ : ∃ n : Nat, nr = (n : Int) := ⟨nr.toNat, by omega⟩
    exact ⟨_, _, fun w bu hb => (find_st W H fn tn rn T bu _ w hb hW hW2 hH hH2 (by rw [hs, hP]) (by omega) (by omega) (by omega) hnr).mono (fun e w' h => h.ans),
      fun w e => (rfind_st W H P fn tn rn nb cb T A zs w (hR.ext e) hnb hW hW2 hH hH2 hP hs hs2 (by omega) (by omega) hnr).mono (fun e w' h => h.ans)⟩
set_option maxHeartbeats 16000000 in
set_option maxRecDepth 100000 in
theorem finds_st (w h f tt nr : Int) (T : ByteArray) (A : Option Addr) (nb cb : Nat) (zs : List Int) (W0 : World) (hR : RowR W0 A nb 1 cZ zs) (hw1 : -9223372036854775808 ≤ w) (hw2 : w ≤ 9223372036854775807) (hh1 : -9223372036854775808 ≤ h) (hh2 : h ≤ 9223372036854775807) (hnr : nr ≤ 9223372036854775807) :
    Calls Try.prog 3 #[.int .i64 w, .int .i64 h, .string T, .slice A nb cb, .int .i64 f, .int .i64 tt, .int .i64 nr] W0 (Tru W0) := by
  by_cases hT4 : 400 < T.size
  · have y1 : (400 : Int) < (T.size : Int) := by omega
    clear hR
    go_enter Try.func3, Try.ntmps3
    go_wp2_with fail
    refine (wakes10 _).mono ?_
    rintro e w1 ⟨rfl, b1⟩
    have HE := Lib.hid b1
    clear b1
    go_wp2_with fail
    go_ret
    exact ⟨rfl, HE.out⟩
  · have y1 : ¬ (400 : Int) < (T.size : Int) := by omega
    by_cases hnb : 100 < nb
    · have y2 : (100 : Int) < (nb : Int) := by omega
      clear hR
      go_enter Try.func3, Try.ntmps3
      go_wp2_with fail
      refine (wakes10 _).mono ?_
      rintro e w1 ⟨rfl, b1⟩
      have HE := Lib.hid b1
      clear b1
      go_wp2_with fail
      go_ret
      exact ⟨rfl, HE.out⟩
    · have y2 : ¬ (100 : Int) < (nb : Int) := by omega
      by_cases hok : okm w h T
      · obtain ⟨r1, r2, r3, r4, r5, r6⟩ := id hok
        obtain ⟨W, rfl⟩ : ∃ n : Nat, w = (n : Int) := ⟨w.toNat, by omega⟩
        obtain ⟨H, rfl⟩ : ∃ n : Nat, h = (n : Int) := ⟨h.toNat, by omega⟩
        have hs : T.size = W * H := by
          have : ((W * H : Nat) : Int) = (T.size : Int) := by rw [Int.natCast_mul]; exact r5.symm
          omega
        obtain ⟨ok, l, hA, hB⟩ := both_ans W H (W * H) nb cb T A zs W0 hR (by omega) (by omega) (by omega) (by omega) (by omega) rfl hs (by omega) f tt nr hnr
        have HA := Lib.hid hA; have HB := Lib.hid hB; have HR := Lib.hid hR
        have HNEW : Hid (∀ w', Calls Try.prog 6 #[.int .i64 (W : Int), .int .i64 (H : Int), .string T] w' fun e w'' => e = .returned (.tuple #[.agg #[.int .i64 (W : Int), .int .i64 (H : Int), .string T], .int .i64 0]) ∧ Ext w' w'') := Lib.hid (fun w' => (new_any (W : Int) (H : Int) T w' (by omega) (by omega) (by omega) (by omega) (by omega)).mono (fun e w'' h => by
          obtain ⟨rfl, h2⟩ := h
          exact ⟨by unfold newR mval; rw [if_pos hok], h2⟩))
        have HMAY : Hid (∀ w', Calls Try.prog 7 #[.int .i64 (W : Int), .int .i64 (H : Int), .string T] w' fun e w'' => e = .returned (.bool true) ∧ w' = w'') := Lib.hid (fun w' => (may_any (W : Int) (H : Int) T w' (by omega) (by omega) (by omega) (by omega) (by omega)).mono (fun e w'' h => by
          obtain ⟨rfl, h2⟩ := h
          exact ⟨by rw [decide_eq_true hok], h2⟩))
        have HLZ : Hid (zs.length = nb) := Lib.hid hR.1
        clear hok r1 r2 r3 r4 r5 r6 hs hA hB hR hw1 hw2 hh1 hh2 hnr
        have hmm := @run_makeMap Try.prog
        go_enter Try.func3, Try.ntmps3
        go_wp2_with fail
        refine (HNEW.out _).mono ?_
        rintro e w1 ⟨rfl, b1⟩
        have K1 := Lib.hid (Blk.new w1 25 #[.int .i64 (W : Int), .int .i64 (H : Int), .string T])
        have HE1 := Lib.hid (ext_alloc b1 (.cells #[.int .i64 (W : Int), .int .i64 (H : Int), .string T] 25))
        clear b1
        go_upto_region 4 with fail
        generalize w1.alloc (.cells #[.int .i64 (W : Int), .int .i64 (H : Int), .string T] 25) = w2 at *
        obtain ⟨D, hD⟩ : ∃ D, D = w1.heap.size := ⟨_, rfl⟩
        rw [← hD] at K1 ⊢
        clear hD
        go_wp2_with fail
        refine (HMAY.out _).mono ?_
        rintro e w3 ⟨rfl, rfl⟩
        go_upto_region 8 with fail
        have hM4 : Map64.MapR ((w2.alloc (.map #[] 0)).alloc (.cells #[.map (some w2.heap.size)] 32)) w2.heap.size (zF (zs.take 0)) := by
          have : zF (zs.take 0) = fun _ => none := by funext k; simp [zF]
          rw [this]; exact (Map64.MapR.new w2).ext (ext_alloc (Ext.rfl' _) _)
        have hI4 := Blk.new1 w2 (.map #[] 0) 32 #[.map (some w2.heap.size)]
        have hD4 := (K1.out.alloc (.map #[] 0)).alloc (.cells #[.map (some w2.heap.size)] 32)
        have hE4 := ext_alloc (ext_alloc HE1.out (.map #[] 0)) (.cells #[.map (some w2.heap.size)] 32)
        have hMge : W0.heap.size ≤ w2.heap.size := HE1.out.size
        have hDM : D ≠ w2.heap.size := fun e => by have := K1.out.lt; omega
        obtain ⟨w4, hw4⟩ : ∃ W4, W4 = (w2.alloc (.map #[] 0)).alloc (.cells #[.map (some w2.heap.size)] 32) := ⟨_, rfl⟩
        rw [← hw4] at hM4 hI4 hD4 hE4 ⊢
        clear hw4 hmm
        obtain ⟨MB, hMB⟩ : ∃ M, M = w2.heap.size := ⟨_, rfl⟩
        rw [← hMB] at hM4 hI4 hMge hDM ⊢
        obtain ⟨IB, hIB⟩ : ∃ M, M = MB + 1 := ⟨_, rfl⟩
        rw [← hIB] at hI4 ⊢
        have HIM : Hid (IB ≠ MB) := Lib.hid (by omega)
        have HDM := Lib.hid hDM; have HMG := Lib.hid hMge
        have HST : Hid (Map64.MapR w4 MB (zF (zs.take 0)) ∧ Blk w4 IB 32 #[.map (some MB)] ∧ Blk w4 D 25 #[.int .i64 (W : Int), .int .i64 (H : Int), .string T] ∧ Ext W0 w4) := Lib.hid ⟨hM4, hI4, hD4, hE4⟩
        clear hM4 hI4 hD4 hE4 hMge hDM hMB hIB K1 HE1
        go_wp2_with fail
        go_loopw [20] (fun iv wr => ∃ i : Nat, iv = .int .i64 (i : Int) ∧ i ≤ nb ∧ Map64.MapR wr MB (zF (zs.take i)) ∧ Blk wr IB 32 #[.map (some MB)] ∧ Blk wr D 25 #[.int .i64 (W : Int), .int .i64 (H : Int), .string T] ∧ Ext W0 wr) (fun iv _ => nb - (intOf iv).toNat)
        case atStart => exact ⟨0, rfl, by omega, HST.out⟩
        case round =>
          obtain ⟨i, rfl, hi, hM, hI, hD, hE⟩ := hrel
          obtain ⟨wi, rfl⟩ : ∃ wi : World, wi = wr := ⟨_, rfl⟩
          have HM := Lib.hid hM; have HI := Lib.hid hI; have HD := Lib.hid hD; have HE := Lib.hid hE
          clear hM hI hD hE HST
          by_cases hin : i < nb
          · have z1 : (i : Int) < (nb : Int) := by omega
            have z2 : (0 : Int) ≤ (i : Int) := by omega
            have z3 : IntKind.i64.wrap ((i : Int) + 1) = ((i + 1 : Nat) : Int) := by rw [IntWalk.i64_in _ (by omega)]; omega
            obtain ⟨b, o, rfl, hb, hcell⟩ := HR.out.2 (by omega)
            have hiz : i < zs.length := by rw [HLZ.out]; exact hin
            have ci := kc HE.out (hcell i hiz 0 (by omega))
            simp only [cZ, List.getElem?_cons_zero, Nat.add_zero, Nat.mul_one] at ci
            obtain ⟨z, hz⟩ : ∃ z, z = zs[i] := ⟨_, rfl⟩
            rw [← hz] at ci
            have HZ : Hid (zs.take (i + 1) = zs.take i ++ [z]) := Lib.hid (by rw [hz, List.take_append_getElem hiz])
            have i0 : wi.cell? ⟨IB, 0, none⟩ = some (.map (some MB)) := HI.out.cell 0
            clear hz hcell
            obtain ⟨we, hrun, hM9, hg9⟩ := Map64.run_put (P := Try.prog) (w := wi.drew) (t := 32) (HM.out.blk rfl) Try.underlying32 Try.underlying3 z (.bool true)
            have HM9 := Lib.hid hM9
            have HG9 : Hid (wi.grownBy we (some MB)) := Lib.hid (gbt (b := wi.drew) ⟨rfl, rfl, rfl, Nat.le_refl _, fun _ _ _ => rfl⟩ hg9)
            have hbM : b ≠ MB := fun e => by have := HMG.out; omega
            have ie : we.cell? ⟨IB, 0, none⟩ = some (.map (some MB)) := (show Blk we IB 32 #[.map (some MB)] from (HG9.out.block IB HI.out.lt (fun e => HIM.out (Option.some.inj e))).trans HI.out).cell 0
            have ce : we.cell? ⟨b, o + i, none⟩ = some (.int .i64 z) := by
              rw [← ci]
              exact World.cell?_of_block (w := wi) (hg9.block b (Nat.lt_of_lt_of_le hb HE.out.size) (fun e => hbM (Option.some.inj e)))
            clear hM9 hg9 hbM
            go_upto_region 11 with fail
            go_region_held3 (fun w' => w'.cell? ⟨IB, 0, none⟩ = some (.map (some MB)) ∧ w'.cell? ⟨b, o + i, none⟩ = some (.int .i64 z))
              (first | assumption | exact ⟨i0, ci⟩ | exact ⟨ie, ce⟩)
              (fail)
            clear ie ce hrun
            go_wp2_with fail
            go_roundw
            case measure => simp only [intOf]; omega
            case rel =>
              refine ⟨i + 1, rfl, by omega, ?_, (HG9.out.block IB HI.out.lt (fun e => HIM.out (Option.some.inj e))).trans HI.out, (HG9.out.block D HD.out.lt (fun e => HDM.out (Option.some.inj e))).trans HD.out, ext_grown HE.out HG9.out (fun k hk => by cases hk; exact HMG.out)⟩
              rw [HZ.out, ← zF_put]; exact HM9.out
          · have z1 : ¬ (i : Int) < (nb : Int) := by omega
            have hM2 := HM.out
            rw [List.take_of_length_le (by rw [HLZ.out]; omega)] at hM2
            have HBU := Lib.hid (busy_is IB MB zs wi HI.out hM2)
            have HFA := Lib.hid (HA.out wi _ HBU.out)
            have d0 : ∀ i, wi.cell? ⟨D, i, none⟩ = _ := HD.out.cell
            clear hM2
            go_wp2_with fail
            refine HFA.out.mono ?_
            rintro e w5 ⟨v5, rfl, hr5, b5⟩
            have HE5 := Lib.hid (ext_trans HE.out b5)
            have HFB := Lib.hid (HB.out w5 HE5.out)
            have HR5 := Lib.hid hr5
            clear hr5 b5 d0
            go_wp2_with fail
            refine HFB.out.mono ?_
            rintro e w6 ⟨v6, rfl, hr6, b6⟩
            have hr5 := HR5.out.ext b6
            obtain ⟨A5, c5, rfl, hlc5, hcm5, _⟩ := hr5.shape
            obtain ⟨A6, c6, rfl, hlc6, hcm6, _⟩ := hr6.shape
            have HO5 := Lib.hid (OwnR.row cI_len hr5); have HO6 := Lib.hid (OwnR.row cI_len hr6)
            have HE6 := Lib.hid (ext_trans HE5.out b6)
            have hlm : (l.length : Int) ≤ 9223372036854775807 := by unfold maxLen at hcm5; omega
            clear hr5 hr6 b6 hlc5 hcm5 hlc6 hcm6 HR5
            obtain ⟨L, hL⟩ : ∃ L, l.length = L := ⟨_, rfl⟩
            rw [hL] at hlm HO5 HO6 ⊢
            have HL := Lib.hid hL
            clear hL
            cases ok
            all_goals
              go_wp2_with fail
              go_loopw [25] (fun jv wr => ∃ j : Nat, jv = .int .i64 (j : Int) ∧ j ≤ L ∧ Ext w6 wr) (fun jv _ => L - (intOf jv).toNat)
              case atStart => exact ⟨0, rfl, by omega, Ext.rfl' _⟩
              case round =>
                obtain ⟨j, rfl, hj, hEj⟩ := hrel
                obtain ⟨wj, rfl⟩ : ∃ wj : World, wj = wr := ⟨_, rfl⟩
                have HEJ := Lib.hid hEj
                clear hEj
                by_cases hjL : j < L
                · have x1 : (j : Int) < (L : Int) := by omega
                  have x2 : (0 : Int) ≤ (j : Int) := by omega
                  have x3 : IntKind.i64.wrap ((j : Int) + 1) = ((j + 1 : Nat) : Int) := by rw [IntWalk.i64_in _ (by omega)]; omega
                  have hjl : j < l.length := by rw [HL.out]; exact hjL
                  obtain ⟨b5, o5, rfl, hb5, hc5⟩ := HO5.out.2 (by omega)
                  obtain ⟨b6, o6, rfl, hb6, hc6⟩ := HO6.out.2 (by omega)
                  have e5 := kc HEJ.out (hc5 j hjl 0 (by omega)); have e6 := kc HEJ.out (hc6 j hjl 0 (by omega))
                  simp only [cI, List.getElem?_cons_zero, Nat.add_zero, Nat.mul_one] at e5 e6
                  generalize l[j] = x at e5 e6
                  clear hc5 hc6 hjl
                  go_upto_region 19 with fail
                  go_region_held3 (fun w' => w'.cell? ⟨b5, o5 + j, none⟩ = some (.int .i64 (x : Int)) ∧ w'.cell? ⟨b6, o6 + j, none⟩ = some (.int .i64 (x : Int)))
                    (first | assumption | exact ⟨e5, e6⟩)
                    (fail)
                  go_wp2_with fail
                  go_roundw
                  case measure => simp only [intOf]; omega
                  case rel => exact ⟨j + 1, rfl, by omega, ext_drew HEJ.out⟩
                · have x1 : ¬ (j : Int) < (L : Int) := by omega
                  go_wp2_with fail
                  refine (wakes10 _).mono ?_
                  rintro e w9 ⟨rfl, b9⟩
                  have HE9 := Lib.hid (ext_trans (ext_trans HE6.out HEJ.out) b9)
                  clear b9
                  go_wp2_with fail
                  go_ret
                  exact ⟨rfl, HE9.out⟩
      · have HNEW : Hid (∀ w', Calls Try.prog 6 #[.int .i64 w, .int .i64 h, .string T] w' fun e w'' => e = .returned (.tuple #[.agg #[.int .i64 0, .int .i64 0, .string ⟨#[]⟩], .int .i64 2]) ∧ Ext w' w'') := Lib.hid (fun w' => (new_any w h T w' (by omega) (by omega) (by omega) (by omega) (by omega)).mono (fun e w'' h => by
          obtain ⟨rfl, h2⟩ := h
          exact ⟨by unfold newR mval; rw [if_neg hok], h2⟩))
        have HMAY : Hid (∀ w', Calls Try.prog 7 #[.int .i64 w, .int .i64 h, .string T] w' fun e w'' => e = .returned (.bool false) ∧ w' = w'') := Lib.hid (fun w' => (may_any w h T w' (by omega) (by omega) (by omega) (by omega) (by omega)).mono (fun e w'' h => by
          obtain ⟨rfl, h2⟩ := h
          exact ⟨by rw [decide_eq_false hok], h2⟩))
        clear hok hR hw1 hw2 hh1 hh2 hnr
        go_enter Try.func3, Try.ntmps3
        go_wp2_with fail
        refine (HNEW.out _).mono ?_
        rintro e w1 ⟨rfl, b1⟩
        have K1 := Lib.hid (Blk.new w1 25 #[.int .i64 0, .int .i64 0, .string ⟨#[]⟩])
        have HE1 := Lib.hid (ext_alloc b1 (.cells #[.int .i64 0, .int .i64 0, .string ⟨#[]⟩] 25))
        clear b1
        go_upto_region 4 with fail
        generalize w1.alloc (.cells #[.int .i64 0, .int .i64 0, .string ⟨#[]⟩] 25) = w2 at *
        obtain ⟨D, hD⟩ : ∃ D, D = w1.heap.size := ⟨_, rfl⟩
        rw [← hD] at K1 ⊢
        clear hD
        go_wp2_with fail
        refine (HMAY.out _).mono ?_
        rintro e w3 ⟨rfl, rfl⟩
        have d0 : ∀ i, w2.cell? ⟨D, i, none⟩ = _ := K1.out.cell
        go_wp2_with fail
        refine (find_zero _ _ _ _ _).mono ?_
        rintro e w4 ⟨rfl, b4⟩
        have HE4 := Lib.hid (ext_trans HE1.out b4)
        clear b4
        go_wp2_with fail
        refine (wakes10 _).mono ?_
        rintro e w9 ⟨rfl, b9⟩
        have HE9 := Lib.hid (ext_trans HE4.out b9)
        clear b9
        go_wp2_with fail
        go_ret
        exact ⟨rfl, HE9.out⟩
end Go.Proofs.Ytmceaocknlnmpaa.Pth
