/- Path: the law PathShort, walked. -/
import Derived.Test.YtmceaocknlnmpaaPthC1
import Derived.Test.YtmceaocknlnmpaaPthB1
import Derived.Deep.LoopGhost
import Derived.Deep.CutRange
namespace Go.Proofs.Ytmceaocknlnmpaa.Pth
open Go.ChangeShapes Go.WideShapes Go.ChangeAt Go.RowKit
open Go.Proofs.Ytmceaocknlnmpaa.Rec Go.Proofs.Ytmceaocknlnmpaa.Grid
set_option linter.unusedVariables false
set_option maxHeartbeats 1000000 in
theorem is_st2 (IB MB t : Nat) (zs : List Int) (w : World) (hI : Blk w IB 32 #[.map (some MB)]) (hM : Map64.MapR w MB (zF zs)) : Calls Try.prog 12 #[.int .i64 (t : Int), .pointer (some ⟨IB, 0, none⟩)] w fun e w' => e = .returned (.bool (decide ((t : Int) ∈ zs))) ∧ Ext w w' := by
  have HM := Lib.hid hM
  have i0 : w.cell? ⟨IB, 0, none⟩ = some (.map (some MB)) := hI.cell 0
  obtain ⟨r, hr⟩ : ∃ r, r = decide ((t : Int) ∈ zs) := ⟨_, rfl⟩
  have HV : Hid ((zF zs (t : Int)).getD (.bool false) = .bool r) := Lib.hid (by rw [zF_at, hr])
  rw [← hr]
  clear hM hI hr
  go_enter Try.func12, Try.ntmps12
  go_wp2_with (refine Map64.wpList_look rfl (.tmp 4) (.tmp 5) rfl Try.underlying32 Try.underlying3 (zBool _) rfl HM.out t rfl (.bool r) HV.out ?_)
  go_ret
  exact ⟨rfl, Ext.rfl' _⟩
theorem busy_is2 (IB MB : Nat) (zs : List Int) (w : World) (hI : Blk w IB 32 #[.map (some MB)]) (hM : Map64.MapR w MB (zF zs)) : Busy (.func (.func 12) #[] #[.pointer (some ⟨IB, 0, none⟩)]) (fun t => decide ((t : Int) ∈ zs)) w :=
  .inr ⟨_, _, rfl, fun w args => by kernel_rfl, fun w' t e _ => is_st2 IB MB t zs w' (hI.ext e) (hM.ext e)⟩
theorem zInt (w : World) : (zeroValue 3).run Try.prog w = .ok (.int .i64 0) w := by kernel_rfl
/-- What looking up who is busy yields. -/
theorem run_is {MB t : Nat} {zs : List Int} {w : World} (hM : Map64.MapR w MB (zF zs)) : (Instr.lookup 32 (.map (some MB)) (.int .i64 (t : Int)) false).run Try.prog w = .ok (.bool (decide ((t : Int) ∈ zs))) w := by
  rw [Map64.run_look hM Try.underlying32 Try.underlying3 (zBool _) t, zF_at]
theorem run_st {SM t k : Nat} {s : Nat → Option Nat} {w : World} (hM : Map64.MapR w SM (sF s)) (hs : s t = some k) : (Instr.lookup 38 (.map (some SM)) (.int .i64 (t : Int)) false).run Try.prog w = .ok (.int .i64 (k : Int)) w := by
  rw [Map64.run_look hM Try.underlying38 Try.underlying3 (zInt _) t, sF_at, hs]; rfl
/-- What a round's test reads. -/
def S2 (D gl j IB MB W H x : Nat) (T : ByteArray) (zs : List Int) (wi w' : World) : Prop :=
  w'.cell? ⟨D, 0, none⟩ = some (.int .i64 (W : Int)) ∧ w'.cell? ⟨D, 1, none⟩ = some (.int .i64 (H : Int)) ∧ w'.cell? ⟨D, 2, none⟩ = some (.string T) ∧ w'.cell? ⟨gl, j, none⟩ = some (.int .i64 (x : Int)) ∧ w'.cell? ⟨IB, 0, none⟩ = some (.map (some MB)) ∧ Map64.MapR w' MB (zF zs) ∧ Ext wi w'
theorem S2.next {D gl j IB MB W H x : Nat} {T : ByteArray} {zs : List Int} {wi w1 w2 : World} (h : S2 D gl j IB MB W H x T zs wi w1) (e : Ext w1 w2) : S2 D gl j IB MB W H x T zs wi w2 := by
  obtain ⟨a, b, c, d, e1, e2, e3⟩ := h
  exact ⟨kc e a, kc e b, kc e c, kc e d, kc e e1, e2.ext e, ext_trans e3 e⟩
theorem S2.le {D gl j IB MB W H x : Nat} {T : ByteArray} {zs : List Int} {wi w1 : World} (h : S2 D gl j IB MB W H x T zs wi w1) : Ext wi w1 := h.2.2.2.2.2.2
theorem S2.look {D gl j IB MB W H x : Nat} {T : ByteArray} {zs : List Int} {wi w1 : World} {bx : Bool} (h : S2 D gl j IB MB W H x T zs wi w1) (hb : decide ((x : Int) ∈ zs) = bx) : (Instr.lookup 32 (.map (some MB)) (.int .i64 (x : Int)) false).run Try.prog w1 = .ok (.bool bx) w1 := by
  have := run_is (t := x) h.2.2.2.2.2.1
  rwa [hb] at this
set_option maxHeartbeats 16000000 in
set_option maxRecDepth 100000 in
theorem short_st (w h f tt nr : Int) (T : ByteArray) (A : Option Addr) (nb cb : Nat) (zs : List Int) (W0 : World) (hR : RowR W0 A nb 1 cZ zs) (hw1 : -9223372036854775808 ≤ w) (hw2 : w ≤ 9223372036854775807) (hh1 : -9223372036854775808 ≤ h) (hh2 : h ≤ 9223372036854775807) (hnr : nr ≤ 9223372036854775807) :
    Calls Try.prog 4 #[.int .i64 w, .int .i64 h, .string T, .slice A nb cb, .int .i64 f, .int .i64 tt, .int .i64 nr] W0 (Tru W0) := by
  by_cases hT4 : 400 < T.size
  · have y1 : (400 : Int) < (T.size : Int) := by omega
    clear hR
    go_enter Try.func4, Try.ntmps4
    go_wp2_with fail
    refine (wakes10 _).mono ?_
    rintro e w1 ⟨rfl, b1⟩
    have HE := Lib.hid b1
    clear b1
    go_wp2_with fail
    go_ret
    exact ⟨rfl, HE.out⟩
  · have y1 : ¬ (400 : Int) < (T.size : Int) := by omega
    by_cases hnb : 100 < nb
    · have y2 : (100 : Int) < (nb : Int) := by omega
      clear hR
      go_enter Try.func4, Try.ntmps4
      go_wp2_with fail
      refine (wakes10 _).mono ?_
      rintro e w1 ⟨rfl, b1⟩
      have HE := Lib.hid b1
      clear b1
      go_wp2_with fail
      go_ret
      exact ⟨rfl, HE.out⟩
    · have y2 : ¬ (100 : Int) < (nb : Int) := by omega
      by_cases hok : okm w h T
      · obtain ⟨r1, r2, r3, r4, r5, r6⟩ := id hok
        obtain ⟨W, rfl⟩ : ∃ n : Nat, w = (n : Int) := ⟨w.toNat, by omega⟩
        obtain ⟨H, rfl⟩ : ∃ n : Nat, h = (n : Int) := ⟨h.toNat, by omega⟩
        have hs : T.size = W * H := by
          have : ((W * H : Nat) : Int) = (T.size : Int) := by rw [Int.natCast_mul]; exact r5.symm
          omega
        have HNEW : Hid (∀ w', Calls Try.prog 6 #[.int .i64 (W : Int), .int .i64 (H : Int), .string T] w' fun e w'' => e = .returned (.tuple #[.agg #[.int .i64 (W : Int), .int .i64 (H : Int), .string T], .int .i64 0]) ∧ Ext w' w'') := Lib.hid (fun w' => (new_any (W : Int) (H : Int) T w' (by omega) (by omega) (by omega) (by omega) (by omega)).mono (fun e w'' h => by
          obtain ⟨rfl, h2⟩ := h
          exact ⟨by unfold newR mval; rw [if_pos hok], h2⟩))
        have HLZ : Hid (zs.length = nb) := Lib.hid hR.1
        have HSZ := Lib.hid hs
        have hW : 4 ≤ W := by omega
        have hW2 : W ≤ 64 := by omega
        have hH : 4 ≤ H := by omega
        have hH2 : H ≤ 64 := by omega
        clear hok r1 r2 r3 r4 r5 r6 hw1 hw2 hh1 hh2
        by_cases hf : f < 0 ∨ (T.size : Int) ≤ f
        · have HON := Lib.hid (fun w' => on_no W H f T w' hW (by omega) hf)
          clear hR hs
          go_enter Try.func4, Try.ntmps4
          go_wp2_with fail
          refine (HNEW.out _).mono ?_
          rintro e w1 ⟨rfl, b1⟩
          have K1 := Lib.hid (Blk.new w1 25 #[.int .i64 (W : Int), .int .i64 (H : Int), .string T])
          have HE1 := Lib.hid (ext_alloc b1 (.cells #[.int .i64 (W : Int), .int .i64 (H : Int), .string T] 25))
          clear b1
          go_wp2_with fail
          refine (HON.out _).mono ?_
          rintro e w3 ⟨rfl, b3⟩
          have HE3 := Lib.hid (ext_trans HE1.out b3)
          clear b3
          go_wp2_with fail
          refine (wakes10 _).mono ?_
          rintro e w9 ⟨rfl, b9⟩
          have HE9 := Lib.hid (ext_trans HE3.out b9)
          clear b9
          go_wp2_with fail
          go_ret
          exact ⟨rfl, HE9.out⟩
        · obtain ⟨fn, rfl⟩ : ∃ n : Nat, f = (n : Int) := ⟨f.toNat, by omega⟩
          have HON := Lib.hid (fun w' => on_yes W H fn T w' hW (by omega) (by omega))
          by_cases ht : tt < 0 ∨ (T.size : Int) ≤ tt
          · have HOT := Lib.hid (fun w' => on_no W H tt T w' hW (by omega) ht)
            clear hR hs hf ht
            go_enter Try.func4, Try.ntmps4
            go_wp2_with fail
            refine (HNEW.out _).mono ?_
            rintro e w1 ⟨rfl, b1⟩
            have K1 := Lib.hid (Blk.new w1 25 #[.int .i64 (W : Int), .int .i64 (H : Int), .string T])
            have HE1 := Lib.hid (ext_alloc b1 (.cells #[.int .i64 (W : Int), .int .i64 (H : Int), .string T] 25))
            clear b1
            go_wp2_with fail
            refine (HON.out _).mono ?_
            rintro e w3 ⟨rfl, b3⟩
            have HE3 := Lib.hid (ext_trans HE1.out b3)
            have k3 := fun i => (K1.out.ext b3).cell i
            clear b3
            go_wp2_with fail
            refine (HOT.out _).mono ?_
            rintro e w4 ⟨rfl, b4⟩
            have HE4 := Lib.hid (ext_trans HE3.out b4)
            clear b4 k3
            go_wp2_with fail
            refine (wakes10 _).mono ?_
            rintro e w9 ⟨rfl, b9⟩
            have HE9 := Lib.hid (ext_trans HE4.out b9)
            clear b9
            go_wp2_with fail
            go_ret
            exact ⟨rfl, HE9.out⟩
          · obtain ⟨tn, rfl⟩ : ∃ n : Nat, tt = (n : Int) := ⟨tt.toNat, by omega⟩
            have HOT := Lib.hid (fun w' => on_yes W H tn T w' hW (by omega) (by omega))
            by_cases hn : nr < 0
            · have y3 : decide (nr < 0) = true := decide_eq_true hn
              clear hR hs hf ht
              go_enter Try.func4, Try.ntmps4
              go_wp2_with fail
              refine (HNEW.out _).mono ?_
              rintro e w1 ⟨rfl, b1⟩
              have K1 := Lib.hid (Blk.new w1 25 #[.int .i64 (W : Int), .int .i64 (H : Int), .string T])
              have HE1 := Lib.hid (ext_alloc b1 (.cells #[.int .i64 (W : Int), .int .i64 (H : Int), .string T] 25))
              clear b1
              go_wp2_with fail
              refine (HON.out _).mono ?_
              rintro e w3 ⟨rfl, b3⟩
              have HE3 := Lib.hid (ext_trans HE1.out b3)
              have k3 := fun i => (K1.out.ext b3).cell i
              clear b3
              go_wp2_with fail
              refine (HOT.out _).mono ?_
              rintro e w4 ⟨rfl, b4⟩
              have HE4 := Lib.hid (ext_trans HE3.out b4)
              clear b4 k3
              go_wp2_with fail
              refine (wakes10 _).mono ?_
              rintro e w9 ⟨rfl, b9⟩
              have HE9 := Lib.hid (ext_trans HE4.out b9)
              clear b9
              go_wp2_with fail
              go_ret
              exact ⟨rfl, HE9.out⟩
            · obtain ⟨rn, rfl⟩ : ∃ n : Nat, nr = (n : Int) := ⟨nr.toNat, by omega⟩
              have y3 : decide ((rn : Int) < 0) = false := decide_eq_false hn
              have hfP : fn < W * H := by omega
              have htP : tn < W * H := by omega
              have HR := Lib.hid hR
              clear hR hf ht hn hs
              have hmm := @run_makeMap Try.prog
              go_enter Try.func4, Try.ntmps4
              go_wp2_with fail
              refine (HNEW.out _).mono ?_
              rintro e w1 ⟨rfl, b1⟩
              have K1 := Lib.hid (Blk.new w1 25 #[.int .i64 (W : Int), .int .i64 (H : Int), .string T])
              have HE1 := Lib.hid (ext_alloc b1 (.cells #[.int .i64 (W : Int), .int .i64 (H : Int), .string T] 25))
              clear b1
              go_upto_region 4 with fail
              generalize w1.alloc (.cells #[.int .i64 (W : Int), .int .i64 (H : Int), .string T] 25) = w2 at *
              obtain ⟨D, hD⟩ : ∃ D, D = w1.heap.size := ⟨_, rfl⟩
              rw [← hD] at K1 ⊢
              clear hD
              have k2 := fun i => K1.out.cell i
              go_wp2_with fail
              refine (HON.out _).mono ?_
              rintro e w3 ⟨rfl, b3⟩
              have HE3 := Lib.hid (ext_trans HE1.out b3)
              have K3 := Lib.hid (K1.out.ext b3)
              clear b3 k2 K1 HE1
              have k3 := fun i => K3.out.cell i
              go_wp2_with fail
              refine (HOT.out _).mono ?_
              rintro e w4 ⟨rfl, b4⟩
              have HE4 := Lib.hid (ext_trans HE3.out b4)
              have K4 := Lib.hid (K3.out.ext b4)
              clear b4 k3 K3 HE3
              go_upto_region 7 with fail
              have hM4 : Map64.MapR ((w4.alloc (.map #[] 0)).alloc (.cells #[.map (some w4.heap.size)] 32)) w4.heap.size (zF (zs.take 0)) := by
                have : zF (zs.take 0) = fun _ => none := by funext k; simp [zF]
                rw [this]; exact (Map64.MapR.new w4).ext (ext_alloc (Ext.rfl' _) _)
              have hI4 := Blk.new1 w4 (.map #[] 0) 32 #[.map (some w4.heap.size)]
              have hD4 := (K4.out.alloc (.map #[] 0)).alloc (.cells #[.map (some w4.heap.size)] 32)
              have hE4 := ext_alloc (ext_alloc HE4.out (.map #[] 0)) (.cells #[.map (some w4.heap.size)] 32)
              have hMge : W0.heap.size ≤ w4.heap.size := HE4.out.size
              have hDM : D ≠ w4.heap.size := fun e => by have := K4.out.lt; omega
              obtain ⟨w5, hw5⟩ : ∃ W5, W5 = (w4.alloc (.map #[] 0)).alloc (.cells #[.map (some w4.heap.size)] 32) := ⟨_, rfl⟩
              rw [← hw5] at hM4 hI4 hD4 hE4 ⊢
              clear hw5 hmm
              obtain ⟨MB, hMB⟩ : ∃ M, M = w4.heap.size := ⟨_, rfl⟩
              rw [← hMB] at hM4 hI4 hMge hDM ⊢
              obtain ⟨IB, hIB⟩ : ∃ M, M = MB + 1 := ⟨_, rfl⟩
              rw [← hIB] at hI4 ⊢
              have HIM : Hid (IB ≠ MB) := Lib.hid (by omega)
              have HDM := Lib.hid hDM; have HMG := Lib.hid hMge
              have HST : Hid (Map64.MapR w5 MB (zF (zs.take 0)) ∧ Blk w5 IB 32 #[.map (some MB)] ∧ Blk w5 D 25 #[.int .i64 (W : Int), .int .i64 (H : Int), .string T] ∧ Ext W0 w5) := Lib.hid ⟨hM4, hI4, hD4, hE4⟩
              clear hM4 hI4 hD4 hE4 hMge hDM hMB hIB K4 HE4
              go_wp2_with fail
              go_loopw [18] (fun iv wr => ∃ i : Nat, iv = .int .i64 (i : Int) ∧ i ≤ nb ∧ Map64.MapR wr MB (zF (zs.take i)) ∧ Blk wr IB 32 #[.map (some MB)] ∧ Blk wr D 25 #[.int .i64 (W : Int), .int .i64 (H : Int), .string T] ∧ Ext W0 wr) (fun iv _ => nb - (intOf iv).toNat)
              case atStart => exact ⟨0, rfl, by omega, HST.out⟩
              case round =>
                obtain ⟨i, rfl, hi, hM, hI, hD, hE⟩ := hrel
                obtain ⟨wi, rfl⟩ : ∃ wi : World, wi = wr := ⟨_, rfl⟩
                have HM := Lib.hid hM; have HI := Lib.hid hI; have HD := Lib.hid hD; have HE := Lib.hid hE
                clear hM hI hD hE HST
                by_cases hin : i < nb
                · have z1 : (i : Int) < (nb : Int) := by omega
                  have z2 : (0 : Int) ≤ (i : Int) := by omega
                  have z3 : IntKind.i64.wrap ((i : Int) + 1) = ((i + 1 : Nat) : Int) := by rw [IntWalk.i64_in _ (by omega)]; omega
                  obtain ⟨b, o, rfl, hb, hcell⟩ := HR.out.2 (by omega)
                  have hiz : i < zs.length := by rw [HLZ.out]; exact hin
                  have ci := kc HE.out (hcell i hiz 0 (by omega))
                  simp only [cZ, List.getElem?_cons_zero, Nat.add_zero, Nat.mul_one] at ci
                  obtain ⟨z, hz⟩ : ∃ z, z = zs[i] := ⟨_, rfl⟩
                  rw [← hz] at ci
                  have HZ : Hid (zs.take (i + 1) = zs.take i ++ [z]) := Lib.hid (by rw [hz, List.take_append_getElem hiz])
                  have i0 : wi.cell? ⟨IB, 0, none⟩ = some (.map (some MB)) := HI.out.cell 0
                  clear hz hcell
                  obtain ⟨we, hrun, hM9, hg9⟩ := Map64.run_put (P := Try.prog) (w := wi.drew) (t := 32) (HM.out.blk rfl) Try.underlying32 Try.underlying3 z (.bool true)
                  have HM9 := Lib.hid hM9
                  have HG9 : Hid (wi.grownBy we (some MB)) := Lib.hid (gbt (b := wi.drew) ⟨rfl, rfl, rfl, Nat.le_refl _, fun _ _ _ => rfl⟩ hg9)
                  have hbM : b ≠ MB := fun e => by have := HMG.out; omega
                  have ie : we.cell? ⟨IB, 0, none⟩ = some (.map (some MB)) := (show Blk we IB 32 #[.map (some MB)] from (HG9.out.block IB HI.out.lt (fun e => HIM.out (Option.some.inj e))).trans HI.out).cell 0
                  have ce : we.cell? ⟨b, o + i, none⟩ = some (.int .i64 z) := by
                    rw [← ci]
                    exact World.cell?_of_block (w := wi) (hg9.block b (Nat.lt_of_lt_of_le hb HE.out.size) (fun e => hbM (Option.some.inj e)))
                  clear hM9 hg9 hbM
                  go_upto_region 10 with fail
                  go_region_held3 (fun w' => w'.cell? ⟨IB, 0, none⟩ = some (.map (some MB)) ∧ w'.cell? ⟨b, o + i, none⟩ = some (.int .i64 z))
                    (first | assumption | exact ⟨i0, ci⟩ | exact ⟨ie, ce⟩)
                    (fail)
                  clear ie ce hrun
                  go_wp2_with fail
                  go_roundw
                  case measure => simp only [intOf]; omega
                  case rel =>
                    refine ⟨i + 1, rfl, by omega, ?_, (HG9.out.block IB HI.out.lt (fun e => HIM.out (Option.some.inj e))).trans HI.out, (HG9.out.block D HD.out.lt (fun e => HDM.out (Option.some.inj e))).trans HD.out, ext_grown HE.out HG9.out (fun k hk => by cases hk; exact HMG.out)⟩
                    rw [HZ.out, ← zF_put]; exact HM9.out
                · have z1 : ¬ (i : Int) < (nb : Int) := by omega
                  have hM2 := HM.out
                  rw [List.take_of_length_le (by rw [HLZ.out]; omega)] at hM2
                  have HMZ := Lib.hid hM2
                  have HBU := Lib.hid (busy_is2 IB MB zs wi HI.out hM2)
                  have HFA := Lib.hid (find_st W H fn tn rn T _ _ wi HBU.out hW hW2 hH hH2 HSZ.out (by omega) (by have := HSZ.out; omega) (by have := HSZ.out; omega) hnr)
                  have d0 : ∀ i, wi.cell? ⟨D, i, none⟩ = _ := HD.out.cell
                  clear hM2 HM
                  go_wp2_with fail
                  refine HFA.out.mono ?_
                  intro e w6 hpo
                  obtain ⟨v6, rfl, hr6, b6⟩ := hpo.ans
                  clear hpo
                  have HE6 := Lib.hid (ext_trans HE.out b6)
                  have HD6 := Lib.hid (HD.out.ext b6); have HI6 := Lib.hid (HI.out.ext b6); have HZ6 := Lib.hid (HMZ.out.ext b6)
                  obtain ⟨A6, c6, rfl, hlc6, hcm6, _⟩ := hr6.shape
                  have HO6 := Lib.hid (OwnR.row cI_len hr6)
                  have hlm : (((pway W H (sfree T fun t => decide ((t : Int) ∈ zs)) fn tn rn).getD []).length : Int) ≤ 9223372036854775807 := by unfold maxLen at hcm6; omega
                  obtain ⟨FR', hFR'⟩ : ∃ F, F = sfree T fun t => decide ((t : Int) ∈ zs) := ⟨_, rfl⟩
                  rw [← hFR'] at hlm HO6 ⊢
                  replace hFR' := Lib.hid hFR'
                  obtain ⟨ok, hokk⟩ : ∃ ok, ok = (pway W H FR' fn tn rn).isSome := ⟨_, rfl⟩
                  obtain ⟨l, hl⟩ : ∃ l, l = (pway W H FR' fn tn rn).getD [] := ⟨_, rfl⟩
                  rw [← hl] at hlm HO6 ⊢
                  rw [← hokk]
                  have HOK := Lib.hid hokk; have HLW := Lib.hid hl
                  obtain ⟨L, hL⟩ : ∃ L, l.length = L := ⟨_, rfl⟩
                  rw [hL] at hlm HO6 ⊢
                  have HL := Lib.hid hL
                  clear hL hl hokk hr6 b6 hlc6 hcm6 d0 HD HI HMZ HBU HFA HE
                  have hmm := @run_makeMap Try.prog
                  have hSM := Map64.MapR.new w6
                  obtain ⟨w7, hrun, hM7, hg7⟩ := Map64.run_put (P := Try.prog) (t := 38) hSM Try.underlying38 Try.underlying3 (fn : Int) (.int .i64 0)
                  have hE7 := ext_grown (ext_alloc (Ext.rfl' w6) (.map #[] 0)) hg7 (fun k hk => by cases hk; exact Nat.le_refl _)
                  have hSM7 : w6.heap.size < w7.heap.size := hM7.lt
                  go_upto_region 14 with fail
                  have hE8 := ext_alloc hE7 (.cells #[.int .i64 (fn : Int)] 3)
                  have HSO : Hid (SO W H fn tn rn w6.heap.size FR' w6 (W * H + 1) (.slice (some ⟨w7.heap.size, 0, none⟩) 1 1) (.int .i64 (-1)) (w7.alloc (.cells #[.int .i64 (fn : Int)] 3))) := Lib.hid ⟨Nat.le_refl _, .inl ⟨upd (fun _ => none) fn 0, [fn], by have := unseen_start hfP; simp; omega, rfl,
                    ⟨Bf.start hfP, (by have h := hM7.ext (ext_alloc (Ext.rfl' w7) (.cells #[.int .i64 (fn : Int)] 3)); have e := sF_put (fun _ => none) fn 0; rw [sF_none] at e; rw [← e]; exact h), wk_start hSM7, hE8, Nat.le_refl _, bd_start hfP⟩⟩⟩
                  clear hE7 hE8 hrun hM7 hg7 hSM hmm
                  obtain ⟨SM, hSMv⟩ : ∃ S, S = w6.heap.size := ⟨_, rfl⟩
                  rw [← hSMv] at HSO ⊢
                  have HSMV := Lib.hid hSMv
                  clear hSMv hSM7
                  go_wp2_with fail
                  go_loopg [22, 23] (W * H + 1) (fun n wv lv wr => SO W H fn tn rn SM FR' w6 n wv lv wr)
                  case atStart => exact HSO.out
                  case round =>
                    obtain ⟨hn1, hrel⟩ := hrel
                    obtain ⟨wq, rfl⟩ : ∃ wq : World, wq = wr := ⟨_, rfl⟩
                    obtain ⟨n, rfl⟩ : ∃ n : Nat, n = gk := ⟨_, rfl⟩
                    clear HSO
                    rcases hrel with ⟨s, Q, hun, rfl, hQ⟩ | ⟨s, t, Q0, k, hbf, hgg, hst, rfl, hE, A9, m9, c9, rfl⟩
                    · have HQ := Lib.hid hQ; have HUN := Lib.hid hun
                      clear hun
                      cases Q with
                      | nil =>
                        obtain ⟨ag, ac, rfl⟩ := hQ.wk.len
                        have HPW : Hid (pway W H FR' fn tn rn = none) := Lib.hid (short_none hW hfP (by have := HSZ.out; omega) (gg_hh W tn rn) hQ.bf)
                        have hok0 : ok = false := by rw [HOK.out, HPW.out]; rfl
                        have hL0 : L = 0 := by rw [← HL.out, HLW.out, HPW.out]; rfl
                        clear hQ
                        subst hok0 hL0
                        go_wp2_with fail
                        refine (wakes10 _).mono ?_
                        rintro e w9 ⟨rfl, b9⟩
                        have HE9 := Lib.hid (ext_trans (ext_trans HE6.out HQ.out.ext) b9)
                        clear b9
                        go_wp2_with fail
                        go_ret
                        exact ⟨rfl, HE9.out⟩
                      | cons t Q =>
                        obtain ⟨g, o, cap, rfl, hc1, hc2, hcell, hone, hmore⟩ := hQ.wk.head
                        have HONE := Lib.hid hone; have HMORE := Lib.hid hmore
                        have hn0 : 1 ≤ n := by have := HUN.out; simp only [List.length_cons] at this; omega
                        have HCN : Hid (unseen (W * H) s + Q.length ≤ n - 1) := Lib.hid (by have := HUN.out; simp only [List.length_cons] at this; omega)
                        have hlq : Q.length ≤ 500 := by have := HCN.out; have := HSZ.out; omega
                        obtain ⟨st, hst⟩ := Option.isSome_iff_exists.1 (hQ.bf.q t (List.mem_cons_self ..))
                        have HST := Lib.hid hst
                        have htW : t < W * H := hQ.bf.lt t st hst
                        clear hone hmore hQ hst
                        have z1 : (0 : Int) < ((Q.length : Int) + 1) := by omega
                        unfold maxLen at hc2
                        go_upto_region 17 with fail
                        go_cut [22] (fun v wx => Wk wx (SM + 1) SM v Q ∧ wx = wq)
                        case first =>
                          by_cases hcap : cap = 1
                          · subst hcap
                            obtain ⟨rfl, hw1⟩ := HONE.out rfl
                            go_wp2_with fail
                            go_meet
                            exact ⟨hw1, rfl⟩
                          · have z2 : ¬ cap = 1 := hcap
                            go_wp2_with fail
                            go_meet
                            exact ⟨HMORE.out hcap, rfl⟩
                        case rest =>
                        obtain ⟨hwk, hwc⟩ := hcut
                        rw [hwc] at hwk
                        subst hwc
                        obtain ⟨wp, hwp⟩ : ∃ W9 : World, W9 = wc := ⟨_, rfl⟩
                        rw [← hwp] at hwk HQ ⊢
                        clear hwp HONE HMORE hcell z1 hc1 hc2
                        have HWK := Lib.hid hwk
                        clear hwk
                        have HDQ := Lib.hid (HD6.out.ext HQ.out.ext)
                        have HFT := Lib.hid (far_yes W H t tn T wp hW hW2 (by omega) (by rw [HSZ.out]; exact htW) (by rw [HSZ.out]; exact htP))
                        obtain ⟨fv, hfv⟩ : ∃ fv, fv = far W t tn := ⟨_, rfl⟩
                        rw [← hfv] at HFT
                        have HGV : Hid (GG W tn rn t = decide (fv ≤ rn)) := Lib.hid (by rw [hfv]; rfl)
                        clear hfv
                        have d0 : ∀ i, wp.cell? ⟨D, i, none⟩ = _ := HDQ.out.cell
                        go_wp2_with fail
                        refine HFT.out.mono ?_
                        rintro e w8 ⟨rfl, b8⟩
                        have HQ8 := Lib.hid (HQ.out.map.ext b8)
                        have HE8 := Lib.hid (ext_trans HQ.out.ext b8)
                        have HW8 := Lib.hid (HWK.out.ext b8)
                        clear b8 d0
                        go_upto_if 109 with fail
                        go_cut [23] (fun s23 wx => s23 = (if GG W tn rn t = true then .int .i64 (st : Int) else .int .i64 (-1)) ∧ wx = w8)
                        case first =>
                          by_cases hgg : fv ≤ rn
                          · have z1 : (fv : Int) ≤ (rn : Int) := by omega
                            have hgt : GG W tn rn t = true := by rw [HGV.out]; exact decide_eq_true hgg
                            go_wp2_with (refine Map64.wpList_look rfl (.tmp 110) (.tmp 111) rfl Try.underlying38 Try.underlying3 (zInt _) rfl HQ8.out t rfl (.int .i64 (st : Int)) (by rw [sF_at, HST.out]; rfl) ?_)
                            go_meet
                            exact ⟨by rw [if_pos hgt], rfl⟩
                          · have z1 : ¬ (fv : Int) ≤ (rn : Int) := by omega
                            have hgt : ¬ GG W tn rn t = true := by rw [HGV.out, decide_eq_false hgg]; simp
                            go_wp2_with fail
                            go_meet
                            exact ⟨by rw [if_neg hgt], rfl⟩
                        case rest =>
                        obtain ⟨hlv, hwc9⟩ := hcut
                        subst hwc9
                        have HLV := Lib.hid hlv
                        clear hlv
                        obtain ⟨wy, hwy⟩ : ∃ W9 : World, W9 = wc := ⟨_, rfl⟩
                        rw [← hwy] at HQ8 HE8 HW8 ⊢
                        clear hwy
                        have HDY := Lib.hid (HD6.out.ext HE8.out)
                        have d0 : ∀ i, wy.cell? ⟨D, i, none⟩ = _ := HDY.out.cell
                        have HNX := Lib.hid (next_yes W H t T wy hW hW2 hH hH2 (by omega) (by rw [HSZ.out]; exact htW))
                        go_wp2_with fail
                        refine HNX.out.mono ?_
                        rintro e w9 ⟨vr, rfl, hr9, hE9⟩
                        have hrow : Rw wy.heap.size w9 vr (nxt W H t) := Rw.of hr9
                        have hL := nxt_pos' (W := W) (H := H) (t := t) hW
                        have hL4 := nxt_len W H t
                        obtain ⟨gl, c, rfl⟩ : ∃ gl c, vr = .slice (some ⟨gl, 0, none⟩) (nxt W H t).length c := by
                          rcases hrow.2 with ⟨_, hz⟩ | ⟨g', cap, cur, hv', _⟩
                          · omega
                          · exact ⟨g', cap, hv'⟩
                        have hgl := (World.ownsRow.lt hrow gl rfl).1
                        have HGS : Hid (gl ≠ SM) := Lib.hid (fun e => by have := HQ8.out.lt; omega)
                        have hSMy := HQ8.out.lt
                        have HSI : Hid (SI W H fn tn rn SM gl t st c 0 (n - 1) FR' w6 s Q u22 w9) := Lib.hid ⟨⟨HQ.out.bf, HQ8.out.ext hE9, (HW8.out.turn (.inl hgl)).ext hE9, ext_trans HE8.out hE9, HQ.out.low, HQ.out.bd⟩, HST.out, fun k x hk => absurd hk (by omega), HCN.out, rw_mono hrow (by omega)⟩
                        obtain ⟨L4, hLL⟩ : ∃ L, L = (nxt W H t).length := ⟨_, rfl⟩
                        rw [← hLL] at hL hL4 ⊢
                        have HL4 := Lib.hid hLL
                        clear hr9 hE9 hrow hgl hLL hSMy d0 HNX HQ8 HE8 HW8 HDY
                        go_wp2_with fail
                        go_loopw [22, 26] (fun wv jv wr => ∃ (j : Nat) (s2 : Nat → Option Nat) (Q2 : List Nat), jv = .int .i64 (j : Int) ∧ j ≤ L4 ∧ SI W H fn tn rn SM gl t st c j (n - 1) FR' w6 s2 Q2 wv wr) (fun _ jv _ => L4 - (intOf jv).toNat)
                        case atStart => exact ⟨0, s, Q, rfl, by omega, HSI.out⟩
                        case round =>
                          obtain ⟨j, s2, Q2, rfl, hj, hI2⟩ := hrel
                          obtain ⟨wj, rfl⟩ : ∃ wj : World, wj = wr := ⟨_, rfl⟩
                          have HI2 := Lib.hid hI2
                          clear hI2 HSI
                          by_cases hjL : j < L4
                          · have z1 : (j : Int) < (L4 : Int) := by omega
                            have z2 : (0 : Int) ≤ (j : Int) := by omega
                            have z3 : IntKind.i64.wrap ((j : Int) + 1) = ((j + 1 : Nat) : Int) := by rw [IntWalk.i64_in _ (by omega)]; omega
                            obtain ⟨x, hx⟩ : ∃ x, (nxt W H t)[j]? = some x := ⟨(nxt W H t)[j]'(by rw [← HL4.out]; exact hjL), List.getElem?_eq_getElem _⟩
                            have hxP : x < W * H := nxt_lt hW htW (List.mem_of_getElem? hx)
                            have HX := Lib.hid hx
                            have cx : wj.cell? ⟨gl, j, none⟩ = some (.int .i64 (x : Int)) := by
                              have := Rw.cell (i := j) rfl HI2.out.row (by rw [← HL4.out]; exact hjL)
                              rw [List.getD_eq_getElem?_getD, hx] at this; exact this
                            have HDJ := Lib.hid (HD6.out.ext HI2.out.sq.ext)
                            have HZJ := Lib.hid (HZ6.out.ext HI2.out.sq.ext)
                            have d0 : wj.cell? ⟨D, 0, none⟩ = some (.int .i64 (W : Int)) := HDJ.out.cell 0
                            have d1 : wj.cell? ⟨D, 1, none⟩ = some (.int .i64 (H : Int)) := HDJ.out.cell 1
                            have d2 : wj.cell? ⟨D, 2, none⟩ = some (.string T) := HDJ.out.cell 2
                            have i0 : wj.cell? ⟨IB, 0, none⟩ = some (.map (some MB)) := (HI6.out.ext HI2.out.sq.ext).cell 0
                            have hxT : x < T.size := by rw [HSZ.out]; exact hxP
                            obtain ⟨bx, hbx⟩ : ∃ bx, decide ((x : Int) ∈ zs) = bx := ⟨_, rfl⟩
                            obtain ⟨wv, hwv⟩ : ∃ wv, wv = (((T[x].toNat : Nat) : Int) == 0) := ⟨_, rfl⟩
                            have HWK : Hid (∀ W', Calls Try.prog 15 #[.agg #[.int .i64 (W : Int), .int .i64 (H : Int), .string T], .int .i64 (x : Int)] W' fun e w'' => e = .returned (.bool wv) ∧ Ext W' w'') := Lib.hid (fun W' => by
                              rw [hwv]; exact walk_yes W H x T W' hW (by omega) hxT)
                            have HFX : Hid (FR' x = (wv && !bx)) := Lib.hid (by
                              rw [hFR'.out]
                              unfold sfree
                              rw [dif_pos hxT, hwv]
                              show (T[x].toNat == 0 && !decide ((x : Int) ∈ zs)) = _
                              rw [hbx]
                              congr 1
                              rw [Bool.eq_iff_iff]
                              simp)
                            have HBX := Lib.hid hbx
                            obtain ⟨kn, hkn⟩ : ∃ kn, kn = (s2 x).isSome := ⟨_, rfl⟩
                            obtain ⟨nv, hnv⟩ : ∃ nv : Nat, (sF s2 (x : Int)).getD (.int .i64 0) = .int .i64 (nv : Int) := by
                              rw [sF_at]
                              cases s2 x with
                              | none => exact ⟨0, rfl⟩
                              | some k => exact ⟨k, rfl⟩
                            have HKN : Hid ((sF s2 (x : Int)).isSome = kn) := Lib.hid (by rw [sF_at, hkn]; cases s2 x <;> rfl)
                            have HNV := Lib.hid hnv
                            have HKS := Lib.hid hkn
                            clear hx hbx hwv hnv hkn hxT
                            go_upto_region 25 with (refine Map64.wpList_look2 rfl (.tmp 123) (.tmp 127) rfl Try.underlying38 Try.underlying3 (zInt _) rfl HI2.out.sq.map x rfl (.int .i64 (nv : Int)) kn HNV.out HKN.out ?_)
                            have HX0 : Hid (S2 D gl j IB MB W H x T zs wj wj.drew) := Lib.hid ⟨d0, d1, d2, cx, i0, HZJ.out.blk rfl, ext_drew (Ext.rfl' wj)⟩
                            clear d0 d1 d2
                            go_cut [149] (fun s149 wx => s149 = .bool (!kn && (wv && !bx)) ∧ Ext wj wx)
                            case first =>
                              cases kn with
                              | true =>
                                refine wp_region_held_drew (S := S2 D gl j IB MB W H x T zs wj) hmxP HX0.out (fun _ => ?_)
                                have HX := Lib.hid HX0.out
                                generalize wj.drew = WA at *
                                (refine wpAnyH_take (i := 0) (oi := { dst := some 131, op := Go.Op.move (Go.Operand.tmp 28), type := 4, pos := "law.go:73", after := #[], guard := none }) (v := ?_) rfl (by kernel_rfl) (by kernel_rfl) (by kernel_rfl) (fun _ _ _ h => h) (Or.inl ⟨by rfl, ?_⟩) HX.out ?_); rotate_left
                                · (intro w' hSw; have hlk := hSw.look HBX.out; obtain ⟨h0, h1, h2, h3, h4, _, _⟩ := hSw; go_simp; try with_reducible rfl)
                                (try simp only [Act.put, List.setIfInBounds_toArray, List.set_cons_zero, List.set_cons_succ])
                                (refine wpAnyH_take (i := 1) (oi := { dst := some 132, op := Go.Op.unOp Go.UnOp.not 4 (Go.Operand.tmp 131), type := 4, pos := "law.go:73", after := #[{ on := 0, ground := Go.Ground.data }], guard := none }) (v := ?_) rfl (by kernel_rfl) (by kernel_rfl) (by kernel_rfl) (fun _ _ _ h => h) (Or.inl ⟨by rfl, ?_⟩) HX.out ?_); rotate_left
                                · (intro w' hSw; have hlk := hSw.look HBX.out; obtain ⟨h0, h1, h2, h3, h4, _, _⟩ := hSw; go_simp; try with_reducible rfl)
                                (try simp only [Act.put, List.setIfInBounds_toArray, List.set_cons_zero, List.set_cons_succ])
                                (refine wpAnyH_take (i := 2) (oi := { dst := some 133, op := Go.Op.move (Go.Operand.tmp 132), type := 4, pos := "law.go:73", after := #[{ on := 1, ground := Go.Ground.data }], guard := none }) (v := ?_) rfl (by kernel_rfl) (by kernel_rfl) (by kernel_rfl) (fun _ _ _ h => h) (Or.inl ⟨by rfl, ?_⟩) HX.out ?_); rotate_left
                                · (intro w' hSw; have hlk := hSw.look HBX.out; obtain ⟨h0, h1, h2, h3, h4, _, _⟩ := hSw; go_simp; try with_reducible rfl)
                                (try simp only [Act.put, List.setIfInBounds_toArray, List.set_cons_zero, List.set_cons_succ])
                                (refine wpAnyH_take (i := 3) (oi := { dst := some 134, op := Go.Op.load 25 (Go.Operand.tmp 15), type := 25, pos := "law.go:73", after := #[{ on := 2, ground := Go.Ground.guard }], guard := some (2, true) }) (v := Go.undef) rfl (by kernel_rfl) (by kernel_rfl) (by kernel_rfl) (fun _ _ _ h => h) (Or.inr ⟨by rfl, by rfl⟩) HX.out ?_)
                                (try simp only [Act.put, List.setIfInBounds_toArray, List.set_cons_zero, List.set_cons_succ])
                                (refine wpAnyH_take (i := 4) (oi := { dst := some 135, op := Go.Op.move (Go.Operand.tmp 25), type := 22, pos := "law.go:73", after := #[{ on := 2, ground := Go.Ground.guard }], guard := some (2, true) }) (v := Go.undef) rfl (by kernel_rfl) (by kernel_rfl) (by kernel_rfl) (fun _ _ _ h => h) (Or.inr ⟨by rfl, by rfl⟩) HX.out ?_)
                                (try simp only [Act.put, List.setIfInBounds_toArray, List.set_cons_zero, List.set_cons_succ])
                                (refine wpAnyH_take (i := 5) (oi := { dst := some 136, op := Go.Op.move (Go.Operand.tmp 26), type := 3, pos := "law.go:73", after := #[{ on := 2, ground := Go.Ground.guard }], guard := some (2, true) }) (v := Go.undef) rfl (by kernel_rfl) (by kernel_rfl) (by kernel_rfl) (fun _ _ _ h => h) (Or.inr ⟨by rfl, by rfl⟩) HX.out ?_)
                                (try simp only [Act.put, List.setIfInBounds_toArray, List.set_cons_zero, List.set_cons_succ])
                                (refine wpAnyH_take (i := 6) (oi := { dst := some 137, op := Go.Op.indexAddr 22 (Go.Operand.tmp 135) (Go.Operand.tmp 136), type := 0, pos := "law.go:73", after := #[{ on := 4, ground := Go.Ground.data }, { on := 5, ground := Go.Ground.data }, { on := 2, ground := Go.Ground.guard }], guard := some (2, true) }) (v := Go.undef) rfl (by kernel_rfl) (by kernel_rfl) (by kernel_rfl) (fun _ _ _ h => h) (Or.inr ⟨by rfl, by rfl⟩) HX.out ?_)
                                (try simp only [Act.put, List.setIfInBounds_toArray, List.set_cons_zero, List.set_cons_succ])
                                (refine wpAnyH_take (i := 7) (oi := { dst := some 138, op := Go.Op.load 3 (Go.Operand.tmp 137), type := 3, pos := "law.go:73", after := #[{ on := 6, ground := Go.Ground.data }, { on := 2, ground := Go.Ground.guard }], guard := some (2, true) }) (v := Go.undef) rfl (by kernel_rfl) (by kernel_rfl) (by kernel_rfl) (fun _ _ _ h => h) (Or.inr ⟨by rfl, by rfl⟩) HX.out ?_)
                                (try simp only [Act.put, List.setIfInBounds_toArray, List.set_cons_zero, List.set_cons_succ])
                                (refine wpAnyH_take (i := 8) (oi := { dst := some 139, op := Go.Op.call { callee := Go.Callee.value (Go.Operand.func 15), args := #[Go.Operand.tmp 134, Go.Operand.tmp 138], argTypes := #[25, 3] }, type := 4, pos := "law.go:73", after := #[{ on := 3, ground := Go.Ground.data }, { on := 7, ground := Go.Ground.data }, { on := 2, ground := Go.Ground.chain }, { on := 2, ground := Go.Ground.guard }], guard := some (2, true) }) (v := Go.undef) rfl (by kernel_rfl) (by kernel_rfl) (by kernel_rfl) (fun _ _ _ h => h) (Or.inr ⟨by rfl, by rfl⟩) HX.out ?_)
                                (try simp only [Act.put, List.setIfInBounds_toArray, List.set_cons_zero, List.set_cons_succ])
                                (refine wpAnyH_take (i := 9) (oi := { dst := some 140, op := Go.Op.pick (Go.Operand.tmp 133) (Go.Operand.tmp 139) (Go.Operand.const (Go.Value.bool false)), type := 4, pos := "law.go:73", after := #[{ on := 2, ground := Go.Ground.data }, { on := 8, ground := Go.Ground.data }], guard := none }) (v := ?_) rfl (by kernel_rfl) (by kernel_rfl) (by kernel_rfl) (fun _ _ _ h => h) (Or.inl ⟨by rfl, ?_⟩) HX.out ?_); rotate_left
                                · (intro w' hSw; have hlk := hSw.look HBX.out; obtain ⟨h0, h1, h2, h3, h4, _, _⟩ := hSw; go_simp; try with_reducible rfl)
                                (try simp only [Act.put, List.setIfInBounds_toArray, List.set_cons_zero, List.set_cons_succ])
                                (refine wpAnyH_take (i := 10) (oi := { dst := some 141, op := Go.Op.move (Go.Operand.tmp 140), type := 4, pos := "law.go:73", after := #[{ on := 9, ground := Go.Ground.data }, { on := 8, ground := Go.Ground.chain }], guard := none }) (v := ?_) rfl (by kernel_rfl) (by kernel_rfl) (by kernel_rfl) (fun _ _ _ h => h) (Or.inl ⟨by rfl, ?_⟩) HX.out ?_); rotate_left
                                · (intro w' hSw; have hlk := hSw.look HBX.out; obtain ⟨h0, h1, h2, h3, h4, _, _⟩ := hSw; go_simp; try with_reducible rfl)
                                (try simp only [Act.put, List.setIfInBounds_toArray, List.set_cons_zero, List.set_cons_succ])
                                (refine wpAnyH_take (i := 11) (oi := { dst := some 142, op := Go.Op.load 32 (Go.Operand.tmp 17), type := 32, pos := "law.go:73", after := #[{ on := 10, ground := Go.Ground.guard }], guard := some (10, true) }) (v := Go.undef) rfl (by kernel_rfl) (by kernel_rfl) (by kernel_rfl) (fun _ _ _ h => h) (Or.inr ⟨by rfl, by rfl⟩) HX.out ?_)
                                (try simp only [Act.put, List.setIfInBounds_toArray, List.set_cons_zero, List.set_cons_succ])
                                (refine wpAnyH_take (i := 12) (oi := { dst := some 143, op := Go.Op.move (Go.Operand.tmp 25), type := 22, pos := "law.go:73", after := #[{ on := 10, ground := Go.Ground.guard }], guard := some (10, true) }) (v := Go.undef) rfl (by kernel_rfl) (by kernel_rfl) (by kernel_rfl) (fun _ _ _ h => h) (Or.inr ⟨by rfl, by rfl⟩) HX.out ?_)
                                (try simp only [Act.put, List.setIfInBounds_toArray, List.set_cons_zero, List.set_cons_succ])
                                (refine wpAnyH_take (i := 13) (oi := { dst := some 144, op := Go.Op.move (Go.Operand.tmp 26), type := 3, pos := "law.go:73", after := #[{ on := 10, ground := Go.Ground.guard }], guard := some (10, true) }) (v := Go.undef) rfl (by kernel_rfl) (by kernel_rfl) (by kernel_rfl) (fun _ _ _ h => h) (Or.inr ⟨by rfl, by rfl⟩) HX.out ?_)
                                (try simp only [Act.put, List.setIfInBounds_toArray, List.set_cons_zero, List.set_cons_succ])
                                (refine wpAnyH_take (i := 14) (oi := { dst := some 145, op := Go.Op.indexAddr 22 (Go.Operand.tmp 143) (Go.Operand.tmp 144), type := 0, pos := "law.go:73", after := #[{ on := 12, ground := Go.Ground.data }, { on := 13, ground := Go.Ground.data }, { on := 10, ground := Go.Ground.guard }], guard := some (10, true) }) (v := Go.undef) rfl (by kernel_rfl) (by kernel_rfl) (by kernel_rfl) (fun _ _ _ h => h) (Or.inr ⟨by rfl, by rfl⟩) HX.out ?_)
                                (try simp only [Act.put, List.setIfInBounds_toArray, List.set_cons_zero, List.set_cons_succ])
                                (refine wpAnyH_take (i := 15) (oi := { dst := some 146, op := Go.Op.load 3 (Go.Operand.tmp 145), type := 3, pos := "law.go:73", after := #[{ on := 14, ground := Go.Ground.data }, { on := 10, ground := Go.Ground.guard }], guard := some (10, true) }) (v := Go.undef) rfl (by kernel_rfl) (by kernel_rfl) (by kernel_rfl) (fun _ _ _ h => h) (Or.inr ⟨by rfl, by rfl⟩) HX.out ?_)
                                (try simp only [Act.put, List.setIfInBounds_toArray, List.set_cons_zero, List.set_cons_succ])
                                (refine wpAnyH_take (i := 16) (oi := { dst := some 147, op := Go.Op.lookup 32 (Go.Operand.tmp 142) (Go.Operand.tmp 146) false, type := 4, pos := "law.go:73", after := #[{ on := 11, ground := Go.Ground.data }, { on := 15, ground := Go.Ground.data }, { on := 10, ground := Go.Ground.guard }], guard := some (10, true) }) (v := Go.undef) rfl (by kernel_rfl) (by kernel_rfl) (by kernel_rfl) (fun _ _ _ h => h) (Or.inr ⟨by rfl, by rfl⟩) HX.out ?_)
                                (try simp only [Act.put, List.setIfInBounds_toArray, List.set_cons_zero, List.set_cons_succ])
                                (refine wpAnyH_take (i := 17) (oi := { dst := some 148, op := Go.Op.unOp Go.UnOp.not 4 (Go.Operand.tmp 147), type := 4, pos := "law.go:73", after := #[{ on := 16, ground := Go.Ground.data }, { on := 10, ground := Go.Ground.guard }], guard := some (10, true) }) (v := Go.undef) rfl (by kernel_rfl) (by kernel_rfl) (by kernel_rfl) (fun _ _ _ h => h) (Or.inr ⟨by rfl, by rfl⟩) HX.out ?_)
                                (try simp only [Act.put, List.setIfInBounds_toArray, List.set_cons_zero, List.set_cons_succ])
                                (refine wpAnyH_take (i := 18) (oi := { dst := some 149, op := Go.Op.pick (Go.Operand.tmp 141) (Go.Operand.tmp 148) (Go.Operand.const (Go.Value.bool false)), type := 4, pos := "law.go:73", after := #[{ on := 10, ground := Go.Ground.data }, { on := 17, ground := Go.Ground.data }], guard := none }) (v := ?_) rfl (by kernel_rfl) (by kernel_rfl) (by kernel_rfl) (fun _ _ _ h => h) (Or.inl ⟨by rfl, ?_⟩) HX.out ?_); rotate_left
                                · (intro w' hSw; have hlk := hSw.look HBX.out; obtain ⟨h0, h1, h2, h3, h4, _, _⟩ := hSw; go_simp; try with_reducible rfl)
                                (try simp only [Act.put, List.setIfInBounds_toArray, List.set_cons_zero, List.set_cons_succ])
                                refine wpAnyH_done (by kernel_rfl) ?_ _
                                go_wp2_with fail
                                go_meet
                                exact ⟨by first | rfl | simp, HX.out.le⟩
                              | false =>
                                cases wv with
                                | false =>
                                  refine wp_region_held_drew (S := S2 D gl j IB MB W H x T zs wj) hmxP HX0.out (fun _ => ?_)
                                  have HX := Lib.hid HX0.out
                                  generalize wj.drew = WA at *
                                  (refine wpAnyH_take (i := 0) (oi := { dst := some 131, op := Go.Op.move (Go.Operand.tmp 28), type := 4, pos := "law.go:73", after := #[], guard := none }) (v := ?_) rfl (by kernel_rfl) (by kernel_rfl) (by kernel_rfl) (fun _ _ _ h => h) (Or.inl ⟨by rfl, ?_⟩) HX.out ?_); rotate_left
                                  · (intro w' hSw; have hlk := hSw.look HBX.out; obtain ⟨h0, h1, h2, h3, h4, _, _⟩ := hSw; go_simp; try with_reducible rfl)
                                  (try simp only [Act.put, List.setIfInBounds_toArray, List.set_cons_zero, List.set_cons_succ])
                                  (refine wpAnyH_take (i := 1) (oi := { dst := some 132, op := Go.Op.unOp Go.UnOp.not 4 (Go.Operand.tmp 131), type := 4, pos := "law.go:73", after := #[{ on := 0, ground := Go.Ground.data }], guard := none }) (v := ?_) rfl (by kernel_rfl) (by kernel_rfl) (by kernel_rfl) (fun _ _ _ h => h) (Or.inl ⟨by rfl, ?_⟩) HX.out ?_); rotate_left
                                  · (intro w' hSw; have hlk := hSw.look HBX.out; obtain ⟨h0, h1, h2, h3, h4, _, _⟩ := hSw; go_simp; try with_reducible rfl)
                                  (try simp only [Act.put, List.setIfInBounds_toArray, List.set_cons_zero, List.set_cons_succ])
                                  (refine wpAnyH_take (i := 2) (oi := { dst := some 133, op := Go.Op.move (Go.Operand.tmp 132), type := 4, pos := "law.go:73", after := #[{ on := 1, ground := Go.Ground.data }], guard := none }) (v := ?_) rfl (by kernel_rfl) (by kernel_rfl) (by kernel_rfl) (fun _ _ _ h => h) (Or.inl ⟨by rfl, ?_⟩) HX.out ?_); rotate_left
                                  · (intro w' hSw; have hlk := hSw.look HBX.out; obtain ⟨h0, h1, h2, h3, h4, _, _⟩ := hSw; go_simp; try with_reducible rfl)
                                  (try simp only [Act.put, List.setIfInBounds_toArray, List.set_cons_zero, List.set_cons_succ])
                                  (refine wpAnyH_take (i := 3) (oi := { dst := some 134, op := Go.Op.load 25 (Go.Operand.tmp 15), type := 25, pos := "law.go:73", after := #[{ on := 2, ground := Go.Ground.guard }], guard := some (2, true) }) (v := ?_) rfl (by kernel_rfl) (by kernel_rfl) (by kernel_rfl) (fun _ _ _ h => h) (Or.inl ⟨by rfl, ?_⟩) HX.out ?_); rotate_left
                                  · (intro w' hSw; have hlk := hSw.look HBX.out; obtain ⟨h0, h1, h2, h3, h4, _, _⟩ := hSw; go_simp; try with_reducible rfl)
                                  (try simp only [Act.put, List.setIfInBounds_toArray, List.set_cons_zero, List.set_cons_succ])
                                  (refine wpAnyH_take (i := 4) (oi := { dst := some 135, op := Go.Op.move (Go.Operand.tmp 25), type := 22, pos := "law.go:73", after := #[{ on := 2, ground := Go.Ground.guard }], guard := some (2, true) }) (v := ?_) rfl (by kernel_rfl) (by kernel_rfl) (by kernel_rfl) (fun _ _ _ h => h) (Or.inl ⟨by rfl, ?_⟩) HX.out ?_); rotate_left
                                  · (intro w' hSw; have hlk := hSw.look HBX.out; obtain ⟨h0, h1, h2, h3, h4, _, _⟩ := hSw; go_simp; try with_reducible rfl)
                                  (try simp only [Act.put, List.setIfInBounds_toArray, List.set_cons_zero, List.set_cons_succ])
                                  (refine wpAnyH_take (i := 5) (oi := { dst := some 136, op := Go.Op.move (Go.Operand.tmp 26), type := 3, pos := "law.go:73", after := #[{ on := 2, ground := Go.Ground.guard }], guard := some (2, true) }) (v := ?_) rfl (by kernel_rfl) (by kernel_rfl) (by kernel_rfl) (fun _ _ _ h => h) (Or.inl ⟨by rfl, ?_⟩) HX.out ?_); rotate_left
                                  · (intro w' hSw; have hlk := hSw.look HBX.out; obtain ⟨h0, h1, h2, h3, h4, _, _⟩ := hSw; go_simp; try with_reducible rfl)
                                  (try simp only [Act.put, List.setIfInBounds_toArray, List.set_cons_zero, List.set_cons_succ])
                                  (refine wpAnyH_take (i := 6) (oi := { dst := some 137, op := Go.Op.indexAddr 22 (Go.Operand.tmp 135) (Go.Operand.tmp 136), type := 0, pos := "law.go:73", after := #[{ on := 4, ground := Go.Ground.data }, { on := 5, ground := Go.Ground.data }, { on := 2, ground := Go.Ground.guard }], guard := some (2, true) }) (v := ?_) rfl (by kernel_rfl) (by kernel_rfl) (by kernel_rfl) (fun _ _ _ h => h) (Or.inl ⟨by rfl, ?_⟩) HX.out ?_); rotate_left
                                  · (intro w' hSw; have hlk := hSw.look HBX.out; obtain ⟨h0, h1, h2, h3, h4, _, _⟩ := hSw; go_simp; try with_reducible rfl)
                                  (try simp only [Act.put, List.setIfInBounds_toArray, List.set_cons_zero, List.set_cons_succ])
                                  (refine wpAnyH_take (i := 7) (oi := { dst := some 138, op := Go.Op.load 3 (Go.Operand.tmp 137), type := 3, pos := "law.go:73", after := #[{ on := 6, ground := Go.Ground.data }, { on := 2, ground := Go.Ground.guard }], guard := some (2, true) }) (v := ?_) rfl (by kernel_rfl) (by kernel_rfl) (by kernel_rfl) (fun _ _ _ h => h) (Or.inl ⟨by rfl, ?_⟩) HX.out ?_); rotate_left
                                  · (intro w' hSw; have hlk := hSw.look HBX.out; obtain ⟨h0, h1, h2, h3, h4, _, _⟩ := hSw; go_simp; try with_reducible rfl)
                                  (try simp only [Act.put, List.setIfInBounds_toArray, List.set_cons_zero, List.set_cons_succ])
                                  refine wpAnyH_ready (rs := [8]) (by kernel_rfl) (by simp) ?_
                                  refine AllReadyH.cons (o := { dst := some 139, op := Go.Op.call { callee := Go.Callee.value (Go.Operand.func 15), args := #[Go.Operand.tmp 134, Go.Operand.tmp 138], argTypes := #[25, 3] }, type := 4, pos := "law.go:73", after := #[{ on := 3, ground := Go.Ground.data }, { on := 7, ground := Go.Ground.data }, { on := 2, ground := Go.Ground.chain }, { on := 2, ground := Go.Ground.guard }], guard := some (2, true) }) (by kernel_rfl) (fun K hK => ?_) AllReadyH.nil
                                  go_simp
                                  refine (HWK.out _).mono ?_
                                  rintro e WB ⟨rfl, hE⟩
                                  have HX := Lib.hid (HX.out.next hE)
                                  clear hE
                                  (try go_wp2_with fail)
                                  refine hK.out _ _ HX.out (fun _ => ?_)
                                  clear hK K
                                  (try simp only [Act.put, List.setIfInBounds_toArray, List.set_cons_zero, List.set_cons_succ])
                                  (refine wpAnyH_take (i := 9) (oi := { dst := some 140, op := Go.Op.pick (Go.Operand.tmp 133) (Go.Operand.tmp 139) (Go.Operand.const (Go.Value.bool false)), type := 4, pos := "law.go:73", after := #[{ on := 2, ground := Go.Ground.data }, { on := 8, ground := Go.Ground.data }], guard := none }) (v := ?_) rfl (by kernel_rfl) (by kernel_rfl) (by kernel_rfl) (fun _ _ _ h => h) (Or.inl ⟨by rfl, ?_⟩) HX.out ?_); rotate_left
                                  · (intro w' hSw; have hlk := hSw.look HBX.out; obtain ⟨h0, h1, h2, h3, h4, _, _⟩ := hSw; go_simp; try with_reducible rfl)
                                  (try simp only [Act.put, List.setIfInBounds_toArray, List.set_cons_zero, List.set_cons_succ])
                                  (refine wpAnyH_take (i := 10) (oi := { dst := some 141, op := Go.Op.move (Go.Operand.tmp 140), type := 4, pos := "law.go:73", after := #[{ on := 9, ground := Go.Ground.data }, { on := 8, ground := Go.Ground.chain }], guard := none }) (v := ?_) rfl (by kernel_rfl) (by kernel_rfl) (by kernel_rfl) (fun _ _ _ h => h) (Or.inl ⟨by rfl, ?_⟩) HX.out ?_); rotate_left
                                  · (intro w' hSw; have hlk := hSw.look HBX.out; obtain ⟨h0, h1, h2, h3, h4, _, _⟩ := hSw; go_simp; try with_reducible rfl)
                                  (try simp only [Act.put, List.setIfInBounds_toArray, List.set_cons_zero, List.set_cons_succ])
                                  (refine wpAnyH_take (i := 11) (oi := { dst := some 142, op := Go.Op.load 32 (Go.Operand.tmp 17), type := 32, pos := "law.go:73", after := #[{ on := 10, ground := Go.Ground.guard }], guard := some (10, true) }) (v := Go.undef) rfl (by kernel_rfl) (by kernel_rfl) (by kernel_rfl) (fun _ _ _ h => h) (Or.inr ⟨by rfl, by rfl⟩) HX.out ?_)
                                  (try simp only [Act.put, List.setIfInBounds_toArray, List.set_cons_zero, List.set_cons_succ])
                                  (refine wpAnyH_take (i := 12) (oi := { dst := some 143, op := Go.Op.move (Go.Operand.tmp 25), type := 22, pos := "law.go:73", after := #[{ on := 10, ground := Go.Ground.guard }], guard := some (10, true) }) (v := Go.undef) rfl (by kernel_rfl) (by kernel_rfl) (by kernel_rfl) (fun _ _ _ h => h) (Or.inr ⟨by rfl, by rfl⟩) HX.out ?_)
                                  (try simp only [Act.put, List.setIfInBounds_toArray, List.set_cons_zero, List.set_cons_succ])
                                  (refine wpAnyH_take (i := 13) (oi := { dst := some 144, op := Go.Op.move (Go.Operand.tmp 26), type := 3, pos := "law.go:73", after := #[{ on := 10, ground := Go.Ground.guard }], guard := some (10, true) }) (v := Go.undef) rfl (by kernel_rfl) (by kernel_rfl) (by kernel_rfl) (fun _ _ _ h => h) (Or.inr ⟨by rfl, by rfl⟩) HX.out ?_)
                                  (try simp only [Act.put, List.setIfInBounds_toArray, List.set_cons_zero, List.set_cons_succ])
                                  (refine wpAnyH_take (i := 14) (oi := { dst := some 145, op := Go.Op.indexAddr 22 (Go.Operand.tmp 143) (Go.Operand.tmp 144), type := 0, pos := "law.go:73", after := #[{ on := 12, ground := Go.Ground.data }, { on := 13, ground := Go.Ground.data }, { on := 10, ground := Go.Ground.guard }], guard := some (10, true) }) (v := Go.undef) rfl (by kernel_rfl) (by kernel_rfl) (by kernel_rfl) (fun _ _ _ h => h) (Or.inr ⟨by rfl, by rfl⟩) HX.out ?_)
                                  (try simp only [Act.put, List.setIfInBounds_toArray, List.set_cons_zero, List.set_cons_succ])
                                  (refine wpAnyH_take (i := 15) (oi := { dst := some 146, op := Go.Op.load 3 (Go.Operand.tmp 145), type := 3, pos := "law.go:73", after := #[{ on := 14, ground := Go.Ground.data }, { on := 10, ground := Go.Ground.guard }], guard := some (10, true) }) (v := Go.undef) rfl (by kernel_rfl) (by kernel_rfl) (by kernel_rfl) (fun _ _ _ h => h) (Or.inr ⟨by rfl, by rfl⟩) HX.out ?_)
                                  (try simp only [Act.put, List.setIfInBounds_toArray, List.set_cons_zero, List.set_cons_succ])
                                  (refine wpAnyH_take (i := 16) (oi := { dst := some 147, op := Go.Op.lookup 32 (Go.Operand.tmp 142) (Go.Operand.tmp 146) false, type := 4, pos := "law.go:73", after := #[{ on := 11, ground := Go.Ground.data }, { on := 15, ground := Go.Ground.data }, { on := 10, ground := Go.Ground.guard }], guard := some (10, true) }) (v := Go.undef) rfl (by kernel_rfl) (by kernel_rfl) (by kernel_rfl) (fun _ _ _ h => h) (Or.inr ⟨by rfl, by rfl⟩) HX.out ?_)
                                  (try simp only [Act.put, List.setIfInBounds_toArray, List.set_cons_zero, List.set_cons_succ])
                                  (refine wpAnyH_take (i := 17) (oi := { dst := some 148, op := Go.Op.unOp Go.UnOp.not 4 (Go.Operand.tmp 147), type := 4, pos := "law.go:73", after := #[{ on := 16, ground := Go.Ground.data }, { on := 10, ground := Go.Ground.guard }], guard := some (10, true) }) (v := Go.undef) rfl (by kernel_rfl) (by kernel_rfl) (by kernel_rfl) (fun _ _ _ h => h) (Or.inr ⟨by rfl, by rfl⟩) HX.out ?_)
                                  (try simp only [Act.put, List.setIfInBounds_toArray, List.set_cons_zero, List.set_cons_succ])
                                  (refine wpAnyH_take (i := 18) (oi := { dst := some 149, op := Go.Op.pick (Go.Operand.tmp 141) (Go.Operand.tmp 148) (Go.Operand.const (Go.Value.bool false)), type := 4, pos := "law.go:73", after := #[{ on := 10, ground := Go.Ground.data }, { on := 17, ground := Go.Ground.data }], guard := none }) (v := ?_) rfl (by kernel_rfl) (by kernel_rfl) (by kernel_rfl) (fun _ _ _ h => h) (Or.inl ⟨by rfl, ?_⟩) HX.out ?_); rotate_left
                                  · (intro w' hSw; have hlk := hSw.look HBX.out; obtain ⟨h0, h1, h2, h3, h4, _, _⟩ := hSw; go_simp; try with_reducible rfl)
                                  (try simp only [Act.put, List.setIfInBounds_toArray, List.set_cons_zero, List.set_cons_succ])
                                  refine wpAnyH_done (by kernel_rfl) ?_ _
                                  go_wp2_with fail
                                  go_meet
                                  exact ⟨by first | rfl | simp, HX.out.le⟩
                                | true =>
                                  refine wp_region_held_drew (S := S2 D gl j IB MB W H x T zs wj) hmxP HX0.out (fun _ => ?_)
                                  have HX := Lib.hid HX0.out
                                  generalize wj.drew = WA at *
                                  (refine wpAnyH_take (i := 0) (oi := { dst := some 131, op := Go.Op.move (Go.Operand.tmp 28), type := 4, pos := "law.go:73", after := #[], guard := none }) (v := ?_) rfl (by kernel_rfl) (by kernel_rfl) (by kernel_rfl) (fun _ _ _ h => h) (Or.inl ⟨by rfl, ?_⟩) HX.out ?_); rotate_left
                                  · (intro w' hSw; have hlk := hSw.look HBX.out; obtain ⟨h0, h1, h2, h3, h4, _, _⟩ := hSw; go_simp; try with_reducible rfl)
                                  (try simp only [Act.put, List.setIfInBounds_toArray, List.set_cons_zero, List.set_cons_succ])
                                  (refine wpAnyH_take (i := 1) (oi := { dst := some 132, op := Go.Op.unOp Go.UnOp.not 4 (Go.Operand.tmp 131), type := 4, pos := "law.go:73", after := #[{ on := 0, ground := Go.Ground.data }], guard := none }) (v := ?_) rfl (by kernel_rfl) (by kernel_rfl) (by kernel_rfl) (fun _ _ _ h => h) (Or.inl ⟨by rfl, ?_⟩) HX.out ?_); rotate_left
                                  · (intro w' hSw; have hlk := hSw.look HBX.out; obtain ⟨h0, h1, h2, h3, h4, _, _⟩ := hSw; go_simp; try with_reducible rfl)
                                  (try simp only [Act.put, List.setIfInBounds_toArray, List.set_cons_zero, List.set_cons_succ])
                                  (refine wpAnyH_take (i := 2) (oi := { dst := some 133, op := Go.Op.move (Go.Operand.tmp 132), type := 4, pos := "law.go:73", after := #[{ on := 1, ground := Go.Ground.data }], guard := none }) (v := ?_) rfl (by kernel_rfl) (by kernel_rfl) (by kernel_rfl) (fun _ _ _ h => h) (Or.inl ⟨by rfl, ?_⟩) HX.out ?_); rotate_left
                                  · (intro w' hSw; have hlk := hSw.look HBX.out; obtain ⟨h0, h1, h2, h3, h4, _, _⟩ := hSw; go_simp; try with_reducible rfl)
                                  (try simp only [Act.put, List.setIfInBounds_toArray, List.set_cons_zero, List.set_cons_succ])
                                  (refine wpAnyH_take (i := 3) (oi := { dst := some 134, op := Go.Op.load 25 (Go.Operand.tmp 15), type := 25, pos := "law.go:73", after := #[{ on := 2, ground := Go.Ground.guard }], guard := some (2, true) }) (v := ?_) rfl (by kernel_rfl) (by kernel_rfl) (by kernel_rfl) (fun _ _ _ h => h) (Or.inl ⟨by rfl, ?_⟩) HX.out ?_); rotate_left
                                  · (intro w' hSw; have hlk := hSw.look HBX.out; obtain ⟨h0, h1, h2, h3, h4, _, _⟩ := hSw; go_simp; try with_reducible rfl)
                                  (try simp only [Act.put, List.setIfInBounds_toArray, List.set_cons_zero, List.set_cons_succ])
                                  (refine wpAnyH_take (i := 4) (oi := { dst := some 135, op := Go.Op.move (Go.Operand.tmp 25), type := 22, pos := "law.go:73", after := #[{ on := 2, ground := Go.Ground.guard }], guard := some (2, true) }) (v := ?_) rfl (by kernel_rfl) (by kernel_rfl) (by kernel_rfl) (fun _ _ _ h => h) (Or.inl ⟨by rfl, ?_⟩) HX.out ?_); rotate_left
                                  · (intro w' hSw; have hlk := hSw.look HBX.out; obtain ⟨h0, h1, h2, h3, h4, _, _⟩ := hSw; go_simp; try with_reducible rfl)
                                  (try simp only [Act.put, List.setIfInBounds_toArray, List.set_cons_zero, List.set_cons_succ])
                                  (refine wpAnyH_take (i := 5) (oi := { dst := some 136, op := Go.Op.move (Go.Operand.tmp 26), type := 3, pos := "law.go:73", after := #[{ on := 2, ground := Go.Ground.guard }], guard := some (2, true) }) (v := ?_) rfl (by kernel_rfl) (by kernel_rfl) (by kernel_rfl) (fun _ _ _ h => h) (Or.inl ⟨by rfl, ?_⟩) HX.out ?_); rotate_left
                                  · (intro w' hSw; have hlk := hSw.look HBX.out; obtain ⟨h0, h1, h2, h3, h4, _, _⟩ := hSw; go_simp; try with_reducible rfl)
                                  (try simp only [Act.put, List.setIfInBounds_toArray, List.set_cons_zero, List.set_cons_succ])
                                  (refine wpAnyH_take (i := 6) (oi := { dst := some 137, op := Go.Op.indexAddr 22 (Go.Operand.tmp 135) (Go.Operand.tmp 136), type := 0, pos := "law.go:73", after := #[{ on := 4, ground := Go.Ground.data }, { on := 5, ground := Go.Ground.data }, { on := 2, ground := Go.Ground.guard }], guard := some (2, true) }) (v := ?_) rfl (by kernel_rfl) (by kernel_rfl) (by kernel_rfl) (fun _ _ _ h => h) (Or.inl ⟨by rfl, ?_⟩) HX.out ?_); rotate_left
                                  · (intro w' hSw; have hlk := hSw.look HBX.out; obtain ⟨h0, h1, h2, h3, h4, _, _⟩ := hSw; go_simp; try with_reducible rfl)
                                  (try simp only [Act.put, List.setIfInBounds_toArray, List.set_cons_zero, List.set_cons_succ])
                                  (refine wpAnyH_take (i := 7) (oi := { dst := some 138, op := Go.Op.load 3 (Go.Operand.tmp 137), type := 3, pos := "law.go:73", after := #[{ on := 6, ground := Go.Ground.data }, { on := 2, ground := Go.Ground.guard }], guard := some (2, true) }) (v := ?_) rfl (by kernel_rfl) (by kernel_rfl) (by kernel_rfl) (fun _ _ _ h => h) (Or.inl ⟨by rfl, ?_⟩) HX.out ?_); rotate_left
                                  · (intro w' hSw; have hlk := hSw.look HBX.out; obtain ⟨h0, h1, h2, h3, h4, _, _⟩ := hSw; go_simp; try with_reducible rfl)
                                  (try simp only [Act.put, List.setIfInBounds_toArray, List.set_cons_zero, List.set_cons_succ])
                                  refine wpAnyH_ready (rs := [8]) (by kernel_rfl) (by simp) ?_
                                  refine AllReadyH.cons (o := { dst := some 139, op := Go.Op.call { callee := Go.Callee.value (Go.Operand.func 15), args := #[Go.Operand.tmp 134, Go.Operand.tmp 138], argTypes := #[25, 3] }, type := 4, pos := "law.go:73", after := #[{ on := 3, ground := Go.Ground.data }, { on := 7, ground := Go.Ground.data }, { on := 2, ground := Go.Ground.chain }, { on := 2, ground := Go.Ground.guard }], guard := some (2, true) }) (by kernel_rfl) (fun K hK => ?_) AllReadyH.nil
                                  go_simp
                                  refine (HWK.out _).mono ?_
                                  rintro e WB ⟨rfl, hE⟩
                                  have HX := Lib.hid (HX.out.next hE)
                                  clear hE
                                  (try go_wp2_with fail)
                                  refine hK.out _ _ HX.out (fun _ => ?_)
                                  clear hK K
                                  (try simp only [Act.put, List.setIfInBounds_toArray, List.set_cons_zero, List.set_cons_succ])
                                  (refine wpAnyH_take (i := 9) (oi := { dst := some 140, op := Go.Op.pick (Go.Operand.tmp 133) (Go.Operand.tmp 139) (Go.Operand.const (Go.Value.bool false)), type := 4, pos := "law.go:73", after := #[{ on := 2, ground := Go.Ground.data }, { on := 8, ground := Go.Ground.data }], guard := none }) (v := ?_) rfl (by kernel_rfl) (by kernel_rfl) (by kernel_rfl) (fun _ _ _ h => h) (Or.inl ⟨by rfl, ?_⟩) HX.out ?_); rotate_left
                                  · (intro w' hSw; have hlk := hSw.look HBX.out; obtain ⟨h0, h1, h2, h3, h4, _, _⟩ := hSw; go_simp; try with_reducible rfl)
                                  (try simp only [Act.put, List.setIfInBounds_toArray, List.set_cons_zero, List.set_cons_succ])
                                  (refine wpAnyH_take (i := 10) (oi := { dst := some 141, op := Go.Op.move (Go.Operand.tmp 140), type := 4, pos := "law.go:73", after := #[{ on := 9, ground := Go.Ground.data }, { on := 8, ground := Go.Ground.chain }], guard := none }) (v := ?_) rfl (by kernel_rfl) (by kernel_rfl) (by kernel_rfl) (fun _ _ _ h => h) (Or.inl ⟨by rfl, ?_⟩) HX.out ?_); rotate_left
                                  · (intro w' hSw; have hlk := hSw.look HBX.out; obtain ⟨h0, h1, h2, h3, h4, _, _⟩ := hSw; go_simp; try with_reducible rfl)
                                  (try simp only [Act.put, List.setIfInBounds_toArray, List.set_cons_zero, List.set_cons_succ])
                                  (refine wpAnyH_take (i := 11) (oi := { dst := some 142, op := Go.Op.load 32 (Go.Operand.tmp 17), type := 32, pos := "law.go:73", after := #[{ on := 10, ground := Go.Ground.guard }], guard := some (10, true) }) (v := ?_) rfl (by kernel_rfl) (by kernel_rfl) (by kernel_rfl) (fun _ _ _ h => h) (Or.inl ⟨by rfl, ?_⟩) HX.out ?_); rotate_left
                                  · (intro w' hSw; have hlk := hSw.look HBX.out; obtain ⟨h0, h1, h2, h3, h4, _, _⟩ := hSw; go_simp; try with_reducible rfl)
                                  (try simp only [Act.put, List.setIfInBounds_toArray, List.set_cons_zero, List.set_cons_succ])
                                  (refine wpAnyH_take (i := 12) (oi := { dst := some 143, op := Go.Op.move (Go.Operand.tmp 25), type := 22, pos := "law.go:73", after := #[{ on := 10, ground := Go.Ground.guard }], guard := some (10, true) }) (v := ?_) rfl (by kernel_rfl) (by kernel_rfl) (by kernel_rfl) (fun _ _ _ h => h) (Or.inl ⟨by rfl, ?_⟩) HX.out ?_); rotate_left
                                  · (intro w' hSw; have hlk := hSw.look HBX.out; obtain ⟨h0, h1, h2, h3, h4, _, _⟩ := hSw; go_simp; try with_reducible rfl)
                                  (try simp only [Act.put, List.setIfInBounds_toArray, List.set_cons_zero, List.set_cons_succ])
                                  (refine wpAnyH_take (i := 13) (oi := { dst := some 144, op := Go.Op.move (Go.Operand.tmp 26), type := 3, pos := "law.go:73", after := #[{ on := 10, ground := Go.Ground.guard }], guard := some (10, true) }) (v := ?_) rfl (by kernel_rfl) (by kernel_rfl) (by kernel_rfl) (fun _ _ _ h => h) (Or.inl ⟨by rfl, ?_⟩) HX.out ?_); rotate_left
                                  · (intro w' hSw; have hlk := hSw.look HBX.out; obtain ⟨h0, h1, h2, h3, h4, _, _⟩ := hSw; go_simp; try with_reducible rfl)
                                  (try simp only [Act.put, List.setIfInBounds_toArray, List.set_cons_zero, List.set_cons_succ])
                                  (refine wpAnyH_take (i := 14) (oi := { dst := some 145, op := Go.Op.indexAddr 22 (Go.Operand.tmp 143) (Go.Operand.tmp 144), type := 0, pos := "law.go:73", after := #[{ on := 12, ground := Go.Ground.data }, { on := 13, ground := Go.Ground.data }, { on := 10, ground := Go.Ground.guard }], guard := some (10, true) }) (v := ?_) rfl (by kernel_rfl) (by kernel_rfl) (by kernel_rfl) (fun _ _ _ h => h) (Or.inl ⟨by rfl, ?_⟩) HX.out ?_); rotate_left
                                  · (intro w' hSw; have hlk := hSw.look HBX.out; obtain ⟨h0, h1, h2, h3, h4, _, _⟩ := hSw; go_simp; try with_reducible rfl)
                                  (try simp only [Act.put, List.setIfInBounds_toArray, List.set_cons_zero, List.set_cons_succ])
                                  (refine wpAnyH_take (i := 15) (oi := { dst := some 146, op := Go.Op.load 3 (Go.Operand.tmp 145), type := 3, pos := "law.go:73", after := #[{ on := 14, ground := Go.Ground.data }, { on := 10, ground := Go.Ground.guard }], guard := some (10, true) }) (v := ?_) rfl (by kernel_rfl) (by kernel_rfl) (by kernel_rfl) (fun _ _ _ h => h) (Or.inl ⟨by rfl, ?_⟩) HX.out ?_); rotate_left
                                  · (intro w' hSw; have hlk := hSw.look HBX.out; obtain ⟨h0, h1, h2, h3, h4, _, _⟩ := hSw; go_simp; try with_reducible rfl)
                                  (try simp only [Act.put, List.setIfInBounds_toArray, List.set_cons_zero, List.set_cons_succ])
                                  (refine wpAnyH_take (i := 16) (oi := { dst := some 147, op := Go.Op.lookup 32 (Go.Operand.tmp 142) (Go.Operand.tmp 146) false, type := 4, pos := "law.go:73", after := #[{ on := 11, ground := Go.Ground.data }, { on := 15, ground := Go.Ground.data }, { on := 10, ground := Go.Ground.guard }], guard := some (10, true) }) (v := ?_) rfl (by kernel_rfl) (by kernel_rfl) (by kernel_rfl) (fun _ _ _ h => h) (Or.inl ⟨by rfl, ?_⟩) HX.out ?_); rotate_left
                                  · (intro w' hSw; have hlk := hSw.look HBX.out; obtain ⟨h0, h1, h2, h3, h4, _, _⟩ := hSw; go_simp; try with_reducible rfl)
                                  (try simp only [Act.put, List.setIfInBounds_toArray, List.set_cons_zero, List.set_cons_succ])
                                  (refine wpAnyH_take (i := 17) (oi := { dst := some 148, op := Go.Op.unOp Go.UnOp.not 4 (Go.Operand.tmp 147), type := 4, pos := "law.go:73", after := #[{ on := 16, ground := Go.Ground.data }, { on := 10, ground := Go.Ground.guard }], guard := some (10, true) }) (v := ?_) rfl (by kernel_rfl) (by kernel_rfl) (by kernel_rfl) (fun _ _ _ h => h) (Or.inl ⟨by rfl, ?_⟩) HX.out ?_); rotate_left
                                  · (intro w' hSw; have hlk := hSw.look HBX.out; obtain ⟨h0, h1, h2, h3, h4, _, _⟩ := hSw; go_simp; try with_reducible rfl)
                                  (try simp only [Act.put, List.setIfInBounds_toArray, List.set_cons_zero, List.set_cons_succ])
                                  (refine wpAnyH_take (i := 18) (oi := { dst := some 149, op := Go.Op.pick (Go.Operand.tmp 141) (Go.Operand.tmp 148) (Go.Operand.const (Go.Value.bool false)), type := 4, pos := "law.go:73", after := #[{ on := 10, ground := Go.Ground.data }, { on := 17, ground := Go.Ground.data }], guard := none }) (v := ?_) rfl (by kernel_rfl) (by kernel_rfl) (by kernel_rfl) (fun _ _ _ h => h) (Or.inl ⟨by rfl, ?_⟩) HX.out ?_); rotate_left
                                  · (intro w' hSw; have hlk := hSw.look HBX.out; obtain ⟨h0, h1, h2, h3, h4, _, _⟩ := hSw; go_simp; try with_reducible rfl)
                                  (try simp only [Act.put, List.setIfInBounds_toArray, List.set_cons_zero, List.set_cons_succ])
                                  refine wpAnyH_done (by kernel_rfl) ?_ _
                                  go_wp2_with fail
                                  go_meet
                                  exact ⟨by first | rfl | simp, HX.out.le⟩
                            case rest =>
                              obtain ⟨rfl, ex⟩ := hcut
                              have HI3 := Lib.hid (HI2.out.ext' ex)
                              have cx3 := kc ex cx
                              obtain ⟨r, hr⟩ : ∃ r, r = (!kn && FR' x) := ⟨_, rfl⟩
                              rw [← HFX.out, ← hr]
                              have HR2 := Lib.hid hr
                              clear hr ex cx HX0 HFX HWK HDJ HZJ i0
                              cases r with
                              | false =>
                                have HEND := Lib.hid (HI3.out.skip HX.out (fun hf => by
                                  have h := HR2.out
                                  rw [hf, Bool.and_true] at h
                                  rw [← HKS.out]; simpa using h.symm))
                                go_wp2_with fail
                                go_roundw
                                case measure => simp only [intOf]; omega
                                case rel => exact ⟨j + 1, s2, Q2, rfl, by omega, HEND.out⟩
                              | true =>
                                have h2 := HR2.out.symm
                                rw [Bool.and_eq_true, Bool.not_eq_true'] at h2
                                have HSN : Hid (s2 x = none) := Lib.hid (by have := HKS.out; rw [h2.1] at this; simpa using this.symm)
                                have HFF := Lib.hid h2.2
                                have hxt : x ≠ t := fun e => by have h3 := HI3.out.st; rw [← e, HSN.out] at h3; cases h3
                                clear h2
                                have hst4 : st ≤ 10000 := by have := HI3.out.sq.bd t st HI3.out.st; have := HSZ.out; omega
                                obtain ⟨s1, hs1⟩ : ∃ s1, s1 = st + 1 := ⟨_, rfl⟩
                                have z4 : IntKind.i64.wrap ((st : Int) + 1) = (s1 : Int) := by rw [IntWalk.i64_in _ (by omega)]; omega
                                obtain ⟨wm, hrun, hMm, hgm⟩ := Map64.run_put (P := Try.prog) (w := wc.drew) (t := 38) (HI3.out.sq.map.blk (w' := wc.drew) rfl) Try.underlying38 Try.underlying3 (x : Int) (.int .i64 (s1 : Int))
                                rw [sF_put] at hMm
                                have hlk := run_st (t := t) (HI3.out.sq.map.blk (w' := wc.drew) rfl) HI3.out.st
                                have hlke := run_st (t := t) (k := st) hMm (by unfold upd; rw [if_neg (fun e => hxt e.symm)]; exact HI3.out.st)
                                rw [hs1] at hMm
                                have HS1 := Lib.hid hs1
                                clear hs1
                                have HGm : Hid (wc.grownBy wm (some SM)) := Lib.hid (gbt (b := wc.drew) ⟨rfl, rfl, rfl, Nat.le_refl _, fun _ _ _ => rfl⟩ hgm)
                                obtain ⟨hb5, hw5, he5, hr5⟩ := HI3.out.put HX.out HFF.out HSN.out hxP HGS.out hMm HGm.out
                                have cxe : wm.cell? ⟨gl, j, none⟩ = some (.int .i64 (x : Int)) := by
                                  have := Rw.cell (i := j) rfl hr5 (by rw [← HL4.out]; exact hjL)
                                  rw [List.getD_eq_getElem?_getD, HX.out] at this; exact this
                                have HB5 := Lib.hid hb5; have HE5 := Lib.hid he5; have HR5 := Lib.hid hr5; have HMm := Lib.hid hMm; have HW5 := Lib.hid hw5
                                clear hb5 he5 hr5 hMm hw5 hgm
                                go_upto_region 26 with fail
                                go_region_held3 (fun w' => w'.cell? ⟨gl, j, none⟩ = some (.int .i64 (x : Int)) ∧ (Instr.lookup 38 (.map (some SM)) (.int .i64 (t : Int)) false).run Try.prog w' = .ok (.int .i64 (st : Int)) w')
                                  (first | assumption | exact ⟨cx3, hlk⟩ | exact ⟨cxe, hlke⟩)
                                  (fail)
                                clear hrun hlk hlke cx3
                                obtain ⟨iI, hiI, hzI, hsI, hbI⟩ := info_parts infoI
                                have hown5 := HW5.out.1
                                have hgl5 := (World.ownsRow.lt HR5.out gl rfl).2
                                have hSM5 := HMm.out.lt
                                have hq5 : Q2.length ≤ 1000 := by have := HI3.out.cnt; have := HSZ.out; omega
                                obtain ⟨v9, w9', hr9, hw9, hg9⟩ := wk_more iI hiI hzI hsI hbI 22 (HW5.out.ext (ext_alloc (Ext.rfl' wm) (.cells #[.int .i64 (x : Int)] 3))) ⟨wm.heap.size, 0, none⟩ x ((Blk.new wm 3 #[.int .i64 (x : Int)]).cell 0) hq5 (by simp; omega) (by simp; omega)
                                have HEND := Lib.hid (HI3.out.more HX.out HSN.out hxP HB5.out ((HMm.out.ext (ext_alloc (Ext.rfl' wm) (.cells #[.int .i64 (x : Int)] 3))).kept hg9 (fun e => by have := hown5 _ e.symm; omega)) hw9
                                  (ext_grown (ext_alloc HE5.out (.cells #[.int .i64 (x : Int)] 3)) hg9 (fun k hk => by have := hown5 _ hk; have := HI3.out.sq.low; omega))
                                  (own_keep (Rw.ext HR5.out (ext_alloc (Ext.rfl' wm) (.cells #[.int .i64 (x : Int)] 3))) (fun k hk => by cases hk; exact hg9.block gl (by rw [World.size_alloc]; omega) (fun e => by have := hown5 _ e.symm; omega))))
                                have HR9 := Lib.hid hr9
                                obtain ⟨A9, c9, hv9⟩ := HI3.out.sq.wk.len
                                clear hr9 hw9 hg9 hown5 hiI hzI hsI hbI
                                go_wp2_with (at_builtin; refine wpList_of_append rfl (.tmp 159) (.tmp 164) 22 22 rfl _ _ rfl rfl HR9.out ?_)
                                go_roundw
                                case measure => simp only [intOf]; omega
                                case rel => exact ⟨j + 1, _, _, rfl, by omega, HEND.out⟩
                          · have z1 : ¬ (j : Int) < (L4 : Int) := by omega
                            have hseen : ∀ x ∈ nxt W H t, FR' x = true → (s2 x).isSome = true := fun x hx hf => by
                              obtain ⟨k, hk, e⟩ := List.getElem_of_mem hx
                              exact HI2.out.seen k x (by have := HL4.out; omega) (by rw [List.getElem?_eq_getElem hk, e]) hf
                            have HEND : Hid (SO W H fn tn rn SM FR' w6 (n - 1) u22 u23 wj) := Lib.hid (by
                              refine ⟨by omega, ?_⟩
                              by_cases hgt : GG W tn rn t = true
                              · have e := HLV.out
                                rw [if_pos hgt] at e
                                obtain ⟨A9, c9, hv9⟩ := HI2.out.sq.wk.len
                                exact .inr ⟨s2, t, Q2, st, HI2.out.sq.bf, hgt, HI2.out.st, e, HI2.out.sq.ext, _, _, _, hv9⟩
                              · have e := HLV.out
                                rw [if_neg hgt] at e
                                have hgt' : GG W tn rn t = false := by simpa using hgt
                                have hSMj := HI2.out.sq.map.lt
                                exact .inl ⟨s2, Q2, HI2.out.cnt, e, ⟨HI2.out.sq.bf.pop hgt' hseen, HI2.out.sq.map, HI2.out.sq.wk.turn (.inr (by omega)), HI2.out.sq.ext, HI2.out.sq.low, HI2.out.sq.bd⟩⟩)
                            clear hseen
                            go_wp2_with fail
                            go_roundg (n - 1)
                            case measure => omega
                            case rel => exact HEND.out
                    · obtain ⟨l', e', hp, hlen, hsteps, hge⟩ := short_some hW hfP (by have := HSZ.out; omega) (gg_hh W tn rn) hbf hgg
                      rw [hst, Option.getD_some] at hlen
                      have hok1 : ok = true := by rw [HOK.out, hp]; rfl
                      have hll : l = l' := by rw [HLW.out, hp]; rfl
                      have hLk : L = k := by rw [← HL.out, hll]; exact hlen
                      rw [← hll] at hsteps
                      have HE := Lib.hid hE; have HGE := Lib.hid hge; have HST := Lib.hid hsteps
                      clear hbf hgg hst hE hp hlen hsteps hge hll HOK HLW
                      subst hok1 hLk
                      have y4 : ¬ (L : Int) < 0 := by omega
                      by_cases hm9 : 0 < m9
                      all_goals
                        go_wp2_with fail
                        go_loopw [29, 30] (fun av jv wr => ∃ a j : Nat, av = .int .i64 (a : Int) ∧ jv = .int .i64 (j : Int) ∧ j ≤ L ∧ a < W * H ∧ Steps (nxt W H) FR' a (l.drop j) e' ∧ Ext w6 wr) (fun _ jv _ => L - (intOf jv).toNat)
                        case atStart => exact ⟨fn, 0, rfl, rfl, by omega, hfP, HST.out, HE.out⟩
                        case round =>
                          obtain ⟨a, j, rfl, rfl, hj, haP, hst, hEj⟩ := hrel
                          obtain ⟨wj, rfl⟩ : ∃ wj : World, wj = wr := ⟨_, rfl⟩
                          have HEJ := Lib.hid hEj; have HSJ := Lib.hid hst
                          have HDJ := Lib.hid (HD6.out.ext hEj)
                          clear hEj hst
                          by_cases hjL : j < L
                          · have z1 : (j : Int) < (L : Int) := by omega
                            have z2 : (0 : Int) ≤ (j : Int) := by omega
                            have z3 : IntKind.i64.wrap ((j : Int) + 1) = ((j + 1 : Nat) : Int) := by rw [IntWalk.i64_in _ (by omega)]; omega
                            have hjl : j < l.length := by rw [HL.out]; exact hjL
                            obtain ⟨x, hx⟩ : ∃ x, x = l[j] := ⟨_, rfl⟩
                            have hdr : l.drop j = x :: l.drop (j + 1) := by rw [hx]; exact List.drop_eq_getElem_cons hjl
                            have hsx := HSJ.out
                            rw [hdr] at hsx
                            obtain ⟨hxn, hxf, hxs⟩ := hsx
                            have HXS := Lib.hid hxs
                            have hxP := nxt_lt hW haP hxn
                            have h1 := nxt_one hW hxn
                            have hxT : x < T.size := by rw [HSZ.out]; exact hxP
                            rw [hFR'.out] at hxf
                            unfold sfree at hxf
                            rw [dif_pos hxT, Bool.and_eq_true, Bool.not_eq_true'] at hxf
                            have HFAR : Hid (∀ W', Calls Try.prog 13 #[.agg #[.int .i64 (W : Int), .int .i64 (H : Int), .string T], .int .i64 (a : Int), .int .i64 (x : Int)] W' fun e w'' => e = .returned (.int .i64 1) ∧ Ext W' w'') := Lib.hid (fun W' => by
                              have := far_yes W H a x T W' hW hW2 (by omega) (by rw [HSZ.out]; exact haP) hxT
                              rwa [h1] at this)
                            have HWK : Hid (∀ W', Calls Try.prog 15 #[.agg #[.int .i64 (W : Int), .int .i64 (H : Int), .string T], .int .i64 (x : Int)] W' fun e w'' => e = .returned (.bool true) ∧ Ext W' w'') := Lib.hid (fun W' => by
                              have := walk_yes W H x T W' hW (by omega) hxT
                              have e0 : T[x].toNat = 0 := by simpa using hxf.1
                              rw [e0] at this; exact this)
                            obtain ⟨b5, o5, rfl, hb5, hc5⟩ := HO6.out.2 (by omega)
                            have e5 := kc HEJ.out (hc5 j hjl 0 (by omega))
                            simp only [cI, List.getElem?_cons_zero, Nat.add_zero, Nat.mul_one] at e5
                            rw [← hx] at e5
                            have d0 : wj.cell? ⟨D, 0, none⟩ = some (.int .i64 (W : Int)) := HDJ.out.cell 0
                            have d1 : wj.cell? ⟨D, 1, none⟩ = some (.int .i64 (H : Int)) := HDJ.out.cell 1
                            have d2 : wj.cell? ⟨D, 2, none⟩ = some (.string T) := HDJ.out.cell 2
                            have i0 : wj.cell? ⟨IB, 0, none⟩ = some (.map (some MB)) := (HI6.out.ext HEJ.out).cell 0
                            have HZJ := Lib.hid (HZ6.out.ext HEJ.out)
                            have hxz : decide ((x : Int) ∈ zs) = false := hxf.2
                            have MKS := Lib.hid (fun (w' : World) (e : Ext wj w') => (⟨kc e d0, kc e d1, kc e d2, kc e e5, kc e i0, (by have := run_is (t := x) (HZJ.out.ext e); rwa [hxz] at this), Lib.hid e⟩ : w'.cell? ⟨D, 0, none⟩ = some (.int .i64 (W : Int)) ∧ w'.cell? ⟨D, 1, none⟩ = some (.int .i64 (H : Int)) ∧ w'.cell? ⟨D, 2, none⟩ = some (.string T) ∧ w'.cell? ⟨b5, o5 + j, none⟩ = some (.int .i64 (x : Int)) ∧ w'.cell? ⟨IB, 0, none⟩ = some (.map (some MB)) ∧ (Instr.lookup 32 (.map (some MB)) (.int .i64 (x : Int)) false).run Try.prog w' = .ok (.bool false) w' ∧ Hid (Ext wj w')))
                            have zT := Lib.hid (Ext.rfl' wj)
                            clear hc5 hjl hx hdr hxn hxs h1 hxf hxz
                            go_upto_region 36 with fail
                            go_cut [217] (fun s217 wx => s217 = .bool false ∧ Ext wj wx)
                            case first =>
                              go_region_held3 (fun w' => w'.cell? ⟨D, 0, none⟩ = some (.int .i64 (W : Int)) ∧ w'.cell? ⟨D, 1, none⟩ = some (.int .i64 (H : Int)) ∧ w'.cell? ⟨D, 2, none⟩ = some (.string T) ∧ w'.cell? ⟨b5, o5 + j, none⟩ = some (.int .i64 (x : Int)) ∧ w'.cell? ⟨IB, 0, none⟩ = some (.map (some MB)) ∧ (Instr.lookup 32 (.map (some MB)) (.int .i64 (x : Int)) false).run Try.prog w' = .ok (.bool false) w' ∧ Hid (Ext wj w'))
                                ((refine MKS.out _ ?_; repeat (first | exact zT.out | refine ext_drew ?_)))
                                (first | (go_at_call 13; ((with_reducible refine (HFAR.out _).mono ?_); rintro e w8' ⟨rfl, b8⟩; go_split_ands; have zT : Hid (Ext wj w8') := Lib.hid (ext_trans (Hid.out (by assumption)) b8); clear b8)) | (go_at_call 15; ((with_reducible refine (HWK.out _).mono ?_); rintro e w9' ⟨rfl, b9⟩; go_split_ands; have zT : Hid (Ext wj w9') := Lib.hid (ext_trans (Hid.out (by assumption)) b9); clear b9)))
                              all_goals
                                go_wp2_with fail
                                go_meet
                                go_split_ands
                                exact ⟨rfl, zT.out⟩
                            case rest =>
                              obtain ⟨rfl, ex⟩ := hcut
                              have HEC := Lib.hid (ext_trans HEJ.out ex)
                              have e5' := kc ex e5
                              clear ex d0 d1 d2 i0 e5 MKS zT
                              go_wp2_with fail
                              go_roundw
                              case measure => simp only [intOf]; omega
                              case rel => exact ⟨x, j + 1, rfl, rfl, by omega, hxP, HXS.out, HEC.out⟩
                          · have z1 : ¬ (j : Int) < (L : Int) := by omega
                            have hae : a = e' := by
                              have h := HSJ.out
                              rw [List.drop_eq_nil_of_le (by rw [HL.out]; omega)] at h; exact h
                            subst hae
                            have hgl : far W a tn ≤ rn := by have := HGE.out; unfold GG at this; exact of_decide_eq_true this
                            have HFA2 := Lib.hid (far_yes W H a tn T wj hW hW2 (by omega) (by rw [HSZ.out]; exact haP) (by rw [HSZ.out]; exact htP))
                            generalize far W a tn = fv at HFA2 hgl
                            have x1 : (fv : Int) ≤ (rn : Int) := by omega
                            have d0 : ∀ i, wj.cell? ⟨D, i, none⟩ = _ := HDJ.out.cell
                            go_wp2_with fail
                            refine HFA2.out.mono ?_
                            rintro e w8 ⟨rfl, b8⟩
                            have HE8 := Lib.hid (ext_trans (ext_trans HE6.out HEJ.out) b8)
                            clear b8
                            go_wp2_with fail
                            refine (wakes10 _).mono ?_
                            rintro e w9 ⟨rfl, b9⟩
                            have HE9 := Lib.hid (ext_trans HE8.out b9)
                            clear b9
                            go_wp2_with fail
                            go_ret
                            exact ⟨rfl, HE9.out⟩
      · have HNEW : Hid (∀ w', Calls Try.prog 6 #[.int .i64 w, .int .i64 h, .string T] w' fun e w'' => e = .returned (.tuple #[.agg #[.int .i64 0, .int .i64 0, .string ⟨#[]⟩], .int .i64 2]) ∧ Ext w' w'') := Lib.hid (fun w' => (new_any w h T w' (by omega) (by omega) (by omega) (by omega) (by omega)).mono (fun e w'' h => by
          obtain ⟨rfl, h2⟩ := h
          exact ⟨by unfold newR mval; rw [if_neg hok], h2⟩))
        clear hok hR hw1 hw2 hh1 hh2 hnr
        go_enter Try.func4, Try.ntmps4
        go_wp2_with fail
        refine (HNEW.out _).mono ?_
        rintro e w1 ⟨rfl, b1⟩
        have HE1 := Lib.hid (ext_alloc b1 (.cells #[.int .i64 0, .int .i64 0, .string ⟨#[]⟩] 25))
        clear b1
        go_wp2_with fail
        refine (wakes10 _).mono ?_
        rintro e w9 ⟨rfl, b9⟩
        have HE9 := Lib.hid (ext_trans HE1.out b9)
        clear b9
        go_wp2_with fail
        go_ret
        exact ⟨rfl, HE9.out⟩
end Go.Proofs.Ytmceaocknlnmpaa.Pth
