/- Path: the document's best. -/
import Derived.Test.YtmceaocknlnmpaaPthV
import Derived.Deep.RegionHeld3
import Derived.Deep.Cut
namespace Go.Proofs.Ytmceaocknlnmpaa.Pth
open Go.ChangeShapes Go.WideShapes Go.ChangeAt Go.RowKit
open Go.Proofs.Ytmceaocknlnmpaa.Rec Go.Proofs.Ytmceaocknlnmpaa.Grid
set_option linter.unusedVariables false
theorem ti_at {all : List Ti} {k : Nat} (h : k < all.length) : ti all k = all[k] := by
  unfold ti; rw [List.getD_eq_getElem?_getD, List.getElem?_eq_getElem h]; rfl
theorem best_no {h : Nat → Nat} {all : List Ti} {k : Nat} (ho : (ti all k).opn = false) : best h all (k + 1) = best h all k := by rw [best, if_pos ho]
theorem best_new {h : Nat → Nat} {all : List Ti} {k : Nat} (ho : (ti all k).opn = true) (hb : best h all k = none) : best h all (k + 1) = some k := by
  rw [best, if_neg (by rw [ho]; simp), hb]
theorem best_two {h : Nat → Nat} {all : List Ti} {k o : Nat} (ho : (ti all k).opn = true) (hb : best h all k = some o) :
    best h all (k + 1) = if (ti all k).g + h k < (ti all o).g + h o ∨ (ti all k).g + h k = (ti all o).g + h o ∧ h k < h o then some k else some o := by
  rw [best, if_neg (by rw [ho]; simp), hb]
set_option maxHeartbeats 8000000 in
set_option maxRecDepth 100000 in
theorem best_ref (W H P tt nr c : Nat) (A : Option Addr) (T : ByteArray) (all : List Ti) (w : World) (hR : RowR w A P 4 cT all) (hW : 4 ≤ W) (hW2 : W ≤ 64) (hP : P = W * H) (hP2 : P ≤ 5000) (htt : tt < P) (hnr : (nr : Int) ≤ 9223372036854775807) (hg : ∀ t, (ti all t).g ≤ 10000) :
    Calls Try.prog 21 #[.agg #[.int .i64 (W : Int), .int .i64 (H : Int), .string T], .slice A P c, .int .i64 (tt : Int), .int .i64 (nr : Int)] w fun e w' => e = .returned (.int .i64 (oV (best (hh W tt nr) all P))) ∧ Ext w w' := by
  obtain ⟨hl, hc⟩ := hR
  have HL := Lib.hid hl; have HC := Lib.hid hc; have HG := Lib.hid hg
  have HFAR : Hid (∀ t w', t < P → Calls Try.prog 22 #[.agg #[.int .i64 (W : Int), .int .i64 (H : Int), .string T], .int .i64 (t : Int), .int .i64 (tt : Int), .int .i64 (nr : Int)] w' fun e w'' => e = .returned (.int .i64 ((hh W tt nr t : Nat) : Int)) ∧ Ext w' w'') :=
    Lib.hid (fun t w' ht => far_ref W H P t tt nr T w' hW hW2 hP hP2 ht htt hnr)
  have HHS : Hid (∀ t, t < P → hh W tt nr t ≤ 20000) := Lib.hid (fun t ht => hh_small (by omega) hW2 (by omega) (by omega))
  have K0 := Lib.hid (Blk.new w 36 #[.int .i64 (W : Int), .int .i64 (H : Int), .string T])
  have E0 := Lib.hid (ext_alloc (Ext.rfl' w) (.cells #[.int .i64 (W : Int), .int .i64 (H : Int), .string T] 36))
  clear hl hc hg hP htt hnr
  go_enter Try.func21, Try.ntmps21
  go_wp2_with fail
  generalize w.alloc (.cells #[.int .i64 (W : Int), .int .i64 (H : Int), .string T] 36) = w1 at *
  obtain ⟨GB, hGB⟩ : ∃ G, G = w.heap.size := ⟨_, rfl⟩
  rw [← hGB] at K0 ⊢
  replace hGB := Lib.hid hGB
  go_loopw [9, 10] (fun ov kv wr => ∃ k : Nat, kv = .int .i64 (k : Int) ∧ k ≤ P ∧ ov = .int .i64 (oV (best (hh W tt nr) all k)) ∧ Ext w wr ∧ Blk wr GB 36 #[.int .i64 (W : Int), .int .i64 (H : Int), .string T]) (fun _ kv _ => P - (intOf kv).toNat)
  case atStart => exact ⟨0, rfl, by omega, rfl, E0.out, K0.out⟩
  case round =>
    obtain ⟨k, rfl, hk, rfl, hE, hK⟩ := hrel
    obtain ⟨wi, rfl⟩ : ∃ wi : World, wi = wr := ⟨_, rfl⟩
    have HE := Lib.hid hE; have HK := Lib.hid hK
    clear hE hK K0 E0
    by_cases hkP : k < P
    · obtain ⟨b, o, rfl, hb, hcell⟩ := HC.out (by omega)
      have HCC : Hid (∀ j, j < P → wi.cell? ⟨b, o + j * 4 + 1, none⟩ = some (.bool (ti all j).opn) ∧ wi.cell? ⟨b, o + j * 4 + 2, none⟩ = some (.int .i64 ((ti all j).g : Int))) := Lib.hid (fun j hj => by
        have hjl : j < all.length := by rw [HL.out]; exact hj
        rw [ti_at hjl]
        exact ⟨kc HE.out (hcell j hjl 1 (by omega)), kc HE.out (hcell j hjl 2 (by omega))⟩)
      clear hcell
      obtain ⟨ck1, ck2⟩ := HCC.out k hkP
      have y1 : (k : Int) < (P : Int) := by omega
      have y2 : (0 : Int) ≤ (k : Int) := by omega
      have y3 : IntKind.i64.wrap ((k : Int) + 1) = ((k + 1 : Nat) : Int) := by rw [IntWalk.i64_in _ (by omega)]; omega
      obtain ⟨op, hop⟩ : ∃ op, op = (ti all k).opn := ⟨_, rfl⟩
      rw [← hop] at ck1
      replace hop := Lib.hid hop
      cases op with
      | false =>
        have HBN := Lib.hid (best_no (h := hh W tt nr) hop.out.symm)
        go_wp2_with fail
        go_roundw
        case measure => simp only [intOf]; omega
        case rel => exact ⟨k + 1, rfl, by omega, by rw [HBN.out], HE.out, HK.out⟩
      | true =>
        cases hbk : best (hh W tt nr) all k with
        | none =>
          have HBN := Lib.hid (best_new hop.out.symm hbk)
          clear hbk
          simp only [oV]
          go_wp2_with fail
          go_roundw
          case measure => simp only [intOf]; omega
          case rel => exact ⟨k + 1, rfl, by omega, by rw [HBN.out], HE.out, HK.out⟩
        | some u =>
          obtain ⟨hu, _, _⟩ := best_some _ _ hbk
          have huP : u < P := by omega
          have HBT := Lib.hid (best_two hop.out.symm hbk)
          obtain ⟨cu1, cu2⟩ := HCC.out u huP
          have hgk := HG.out k; have hgu := HG.out u
          have hhk := HHS.out k hkP; have hhu := HHS.out u huP
          have HFK := Lib.hid (fun w' => HFAR.out k w' hkP)
          have HFU := Lib.hid (fun w' => HFAR.out u w' huP)
          generalize hh W tt nr k = hk' at *
          generalize hh W tt nr u = hu' at *
          generalize (ti all k).g = gk' at *
          generalize (ti all u).g = gu' at *
          clear hbk
          simp only [oV]
          have y4 : ¬ (u : Int) < 0 := by omega
          have b0 : wi.cell? ⟨GB, 0, none⟩ = some (.int .i64 (W : Int)) := HK.out.cell 0
          have b1 : wi.cell? ⟨GB, 1, none⟩ = some (.int .i64 (H : Int)) := HK.out.cell 1
          have b2 : wi.cell? ⟨GB, 2, none⟩ = some (.string T) := HK.out.cell 2
          go_upto_region 8 with fail
          have MKS := Lib.hid (fun (w' : World) (e : Ext wi w') => (⟨kc e b0, kc e b1, kc e b2, Lib.hid e⟩ : w'.cell? ⟨GB, 0, none⟩ = some (.int .i64 (W : Int)) ∧ w'.cell? ⟨GB, 1, none⟩ = some (.int .i64 (H : Int)) ∧ w'.cell? ⟨GB, 2, none⟩ = some (.string T) ∧ Hid (Ext wi w')))
          have zT := Lib.hid (Ext.rfl' wi)
          go_cut [11, 12] (fun s11 s12 wx => s11 = .int .i64 (hk' : Int) ∧ s12 = .int .i64 (hu' : Int) ∧ Ext wi wx)
          case first =>
            go_region_held3 (fun w' => w'.cell? ⟨GB, 0, none⟩ = some (.int .i64 (W : Int)) ∧ w'.cell? ⟨GB, 1, none⟩ = some (.int .i64 (H : Int)) ∧ w'.cell? ⟨GB, 2, none⟩ = some (.string T) ∧ Hid (Ext wi w'))
              ((refine MKS.out _ ?_; repeat (first | exact zT.out | refine ext_drew ?_)))
              (first | (go_at_call 22; ((with_reducible refine (HFK.out _).mono ?_); rintro e w8 ⟨rfl, b8⟩; go_split_ands; have zT : Hid (Ext wi w8) := Lib.hid (ext_trans (Hid.out (by assumption)) b8); clear b8)) | (go_at_call 22; ((with_reducible refine (HFU.out _).mono ?_); rintro e w9 ⟨rfl, b9⟩; go_split_ands; have zT : Hid (Ext wi w9) := Lib.hid (ext_trans (Hid.out (by assumption)) b9); clear b9)))
            all_goals
              go_wp2_with fail
              go_meet
              go_split_ands
              exact ⟨rfl, rfl, zT.out⟩
          case rest =>
            obtain ⟨rfl, rfl, ex⟩ := hcut
            have HE2 := Lib.hid (ext_trans HE.out ex)
            have HK2 := Lib.hid (HK.out.ext ex)
            have ck := kc ex ck2; have cu := kc ex cu2
            clear ex ck1 ck2 cu1 cu2 b0 b1 b2 MKS zT HE HK
            have z1 : IntKind.i64.wrap ((gk' : Int) + (hk' : Int)) = (gk' : Int) + (hk' : Int) := IntWalk.i64_in _ (by omega)
            have z2 : IntKind.i64.wrap ((gu' : Int) + (hu' : Int)) = (gu' : Int) + (hu' : Int) := IntWalk.i64_in _ (by omega)
            have z3 : (0 : Int) ≤ (u : Int) := by omega
            have z4 : (u : Int) < (P : Int) := by omega
            go_upto_region 9 with fail
            have ckd : wc.drew.cell? ⟨b, o + k * 4 + 2, none⟩ = some (.int .i64 (gk' : Int)) := ck
            go_region_held3 (fun w' => w'.cell? ⟨b, o + k * 4 + 2, none⟩ = some (.int .i64 (gk' : Int)) ∧ w'.cell? ⟨b, o + u * 4 + 2, none⟩ = some (.int .i64 (gu' : Int)))
              (first | assumption | exact ⟨ck, cu⟩)
              (fail)
            clear ckd
            have HE3 := Lib.hid (ext_drew HE2.out)
            have HK3 := Lib.hid HK2.out.drew
            obtain ⟨w3, hw3⟩ : ∃ W3, W3 = wc.drew := ⟨_, rfl⟩
            rw [← hw3] at HE3 HK3 ⊢
            clear hw3 ck cu
            by_cases h1 : (gk' : Int) + (hk' : Int) < (gu' : Int) + (hu' : Int)
            · have HC1 : Hid (gk' + hk' < gu' + hu' ∨ gk' + hk' = gu' + hu' ∧ hk' < hu') := Lib.hid (.inl (by omega))
              go_wp2_with fail
              go_roundw
              case measure => simp only [intOf]; omega
              case rel => exact ⟨k + 1, rfl, by omega, by rw [HBT.out, if_pos HC1.out], HE3.out, HK3.out⟩
            · by_cases h2 : (gk' : Int) + (hk' : Int) = (gu' : Int) + (hu' : Int)
              · by_cases h3 : (hk' : Int) < (hu' : Int)
                · have HC1 : Hid (gk' + hk' < gu' + hu' ∨ gk' + hk' = gu' + hu' ∧ hk' < hu') := Lib.hid (.inr (by omega))
                  go_wp2_with fail
                  go_roundw
                  case measure => simp only [intOf]; omega
                  case rel => exact ⟨k + 1, rfl, by omega, by rw [HBT.out, if_pos HC1.out], HE3.out, HK3.out⟩
                · have HC1 : Hid (¬ (gk' + hk' < gu' + hu' ∨ gk' + hk' = gu' + hu' ∧ hk' < hu')) := Lib.hid (by omega)
                  go_wp2_with fail
                  go_roundw
                  case measure => simp only [intOf]; omega
                  case rel => exact ⟨k + 1, rfl, by omega, by rw [HBT.out, if_neg HC1.out], HE3.out, HK3.out⟩
              · have HC1 : Hid (¬ (gk' + hk' < gu' + hu' ∨ gk' + hk' = gu' + hu' ∧ hk' < hu')) := Lib.hid (by omega)
                go_wp2_with fail
                go_roundw
                case measure => simp only [intOf]; omega
                case rel => exact ⟨k + 1, rfl, by omega, by rw [HBT.out, if_neg HC1.out], HE3.out, HK3.out⟩
    · have y1 : ¬ (k : Int) < (P : Int) := by omega
      have hkk : k = P := by omega
      subst hkk
      go_wp2_with fail
      go_ret
      exact ⟨rfl, HE.out⟩
end Go.Proofs.Ytmceaocknlnmpaa.Pth
