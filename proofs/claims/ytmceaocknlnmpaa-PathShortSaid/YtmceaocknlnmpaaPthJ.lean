/- Path: heap.down over the heap of open tiles. -/
import Derived.Test.YtmceaocknlnmpaaPthI
namespace Go.Proofs.Ytmceaocknlnmpaa.Pth
open Go.ChangeShapes Go.WideShapes Go.ChangeAt Go.RowKit
open Go.Proofs.Ytmceaocknlnmpaa.Rec
set_option linter.unusedVariables false
def IsB (e : Ending) : Prop := ∃ b : Bool, e = .returned (.bool b)
set_option maxHeartbeats 8000000 in
set_option maxRecDepth 100000 in
theorem down_st (base B g L c nn : Nat) (m0 m1 m2 bu tv nv mp : Value) (q0 : List Nd) (w : World) (hB : Blk w B 48 (sC m0 m1 m2 bu tv nv mp (.slice (some ⟨g, 0, none⟩) L c))) (hO : OwnR base w 51 3 cNd (.slice (some ⟨g, 0, none⟩) L c) q0) (hq : q0.length = L) (hnn : nn < L) (hL : L ≤ 100000) (hS : Sm q0) (hD : Dn q0 nn 0) :
    Calls Try.prog 35 #[.iface 68 (.pointer (some ⟨B, 6, none⟩)), .int .i64 0, .int .i64 (nn : Int)] w fun e w' => IsB e ∧ ∃ q, Heap q nn ∧ URel base B g L c m0 m1 m2 bu tv nv mp q0 w q w' ∧ ∀ k, nn ≤ k → at' q k = at' q0 k := by
  have HR0 : Hid (URel base B g L c m0 m1 m2 bu tv nv mp q0 w q0 w) := Lib.hid ⟨List.Perm.refl _, hB, hO, ⟨rfl, rfl, rfl, Nat.le_refl _, fun _ _ _ => rfl⟩⟩
  have HD0 := Lib.hid hD
  clear hB hO hD
  go_enter Try.func35, Try.ntmps35
  go_wp2_with fail
  go_loopw [7] (fun iv wr => ∃ (i : Nat) (q : List Nd), iv = .int .i64 (i : Int) ∧ i ≤ nn ∧ Dn q nn i ∧ URel base B g L c m0 m1 m2 bu tv nv mp q0 w q wr ∧ ∀ k, nn ≤ k → at' q k = at' q0 k) (fun iv _ => nn - (intOf iv).toNat)
  case atStart => exact ⟨0, q0, rfl, Nat.zero_le _, HD0.out, HR0.out, fun _ _ => rfl⟩
  case round =>
    obtain ⟨i, q, rfl, hin, hDn, hR, hT⟩ := hrel
    obtain ⟨wi, rfl⟩ : ∃ wi : World, wi = wr := ⟨_, rfl⟩
    have HD := Lib.hid hDn; have HR := Lib.hid hR; have HT := Lib.hid hT
    have hql : q.length = L := hR.1.length_eq.trans hq
    clear hDn hR hT
    obtain ⟨J1, hJ1⟩ : ∃ p, p = 2 * i + 1 := ⟨_, rfl⟩
    obtain ⟨J2, hJ2⟩ : ∃ p, p = 2 * i + 2 := ⟨_, rfl⟩
    have s0 := Lib.hid hJ1; have s4 := Lib.hid hJ2
    have y1 : IntKind.i64.wrap (2 * (i : Int)) = 2 * (i : Int) := IntWalk.i64_in _ (by omega)
    have y2 : 2 * (i : Int) + 1 = (J1 : Int) := by omega
    have y3 : IntKind.i64.wrap (J1 : Int) = (J1 : Int) := IntWalk.i64_in _ (by omega)
    have y4 : (J1 : Int) + 1 = (J2 : Int) := by omega
    have y5 : IntKind.i64.wrap (J2 : Int) = (J2 : Int) := IntWalk.i64_in _ (by omega)
    have y6 : ¬ (J1 : Int) < 0 := by omega
    have e1 : J1 ≤ 2 * i + 1 := by omega
    have e2 : 2 * i + 1 ≤ J1 := by omega
    have e3 : J2 ≤ 2 * i + 2 := by omega
    have e4 : 2 * i + 2 ≤ J2 := by omega
    clear hJ1 hJ2
    have hmL := m_less ⟨B, 6, none⟩ _ wi (c6 HR.out.2.1)
    by_cases h1 : nn ≤ J1
    · have y7 : (nn : Int) ≤ (J1 : Int) := by omega
      have HFIN := Lib.hid (dn_leaf HD.out (by omega))
      go_wp2_with fail
      go_ret
      exact ⟨⟨_, rfl⟩, q, HFIN.out, HR.out, HT.out⟩
    · have y7 : ¬ (nn : Int) ≤ (J1 : Int) := by omega
      by_cases h2 : J2 < nn
      · have y8 : (J2 : Int) < (nn : Int) := by omega
        have HL := Lib.hid (less_st (some ⟨g, 0, none⟩) L c J2 J1 q wi (HR.out.2.2.1.row cNd_len) (by omega) (by omega) hL (perm_sm HR.out.1 hS))
        by_cases hb : lt (at' q J2) (at' q J1)
        · rw [decide_eq_true hb] at HL
          go_wp2_with fail
          refine HL.out.mono ?_
          rintro e w2 ⟨rfl, b2⟩
          have HR2 := Lib.hid (HR.out.ext b2)
          clear hmL
          have HLW : Hid (low q nn i = J2) := Lib.hid (by unfold low; rw [if_pos ⟨by omega, by rw [← s0.out, ← s4.out]; exact hb⟩]; omega)
          have hjn : J2 < L := by omega
          have HL2 := Lib.hid (less_st (some ⟨g, 0, none⟩) L c J2 i q w2 (HR2.out.2.2.1.row cNd_len) hjn (by omega) hL (perm_sm HR2.out.1 hS))
          have hmL := m_less ⟨B, 6, none⟩ _ w2 (c6 HR2.out.2.1)
          by_cases hl : lt (at' q J2) (at' q i)
          · rw [decide_eq_true hl] at HL2
            go_wp2_with fail
            refine HL2.out.mono ?_
            rintro e wl ⟨rfl, bl⟩
            have HRl := Lib.hid (HR2.out.ext bl)
            have hmS := m_swap ⟨B, 6, none⟩ _ wl (c6 HRl.out.2.1)
            have HST := Lib.hid (swap_st base g L c i J2 q wl HRl.out.2.2.1 (by omega) hjn (by omega) hL)
            clear hmL
            go_wp2_with fail
            refine HST.out.mono ?_
            rintro e w3 ⟨rfl, hO3, hg3⟩
            go_wp2_with fail
            go_roundw
            case measure => simp only [intOf]; omega
            case rel =>
              refine ⟨J2, _, rfl, by omega, ?_, HRl.out.swap (by omega) (by omega) hO3 hg3, fun k hk => ?_⟩
              · have h := dn_step (xs := q) HD.out (by omega) (by omega) (by rw [HLW.out]; exact hl)
                rw [HLW.out] at h; exact h
              · rw [swap_far (n := nn) (by omega) (by omega) (by omega) k hk]; exact HT.out k hk
          · rw [decide_eq_false hl] at HL2
            go_wp2_with fail
            refine HL2.out.mono ?_
            rintro e wl ⟨rfl, bl⟩
            have HRl := Lib.hid (HR2.out.ext bl)
            have HFIN := Lib.hid (dn_stop HD.out (by omega) (by rw [HLW.out]; exact hl))
            go_wp2_with fail
            go_ret
            exact ⟨⟨_, rfl⟩, q, HFIN.out, HRl.out, HT.out⟩
        · rw [decide_eq_false hb] at HL
          go_wp2_with fail
          refine HL.out.mono ?_
          rintro e w2 ⟨rfl, b2⟩
          have HR2 := Lib.hid (HR.out.ext b2)
          clear hmL
          have HLW : Hid (low q nn i = J1) := Lib.hid (by unfold low; rw [if_neg (fun h => hb (by have := h.2; rw [← s0.out, ← s4.out] at this; exact this))]; omega)
          have hjn : J1 < L := by omega
          have HL2 := Lib.hid (less_st (some ⟨g, 0, none⟩) L c J1 i q w2 (HR2.out.2.2.1.row cNd_len) hjn (by omega) hL (perm_sm HR2.out.1 hS))
          have hmL := m_less ⟨B, 6, none⟩ _ w2 (c6 HR2.out.2.1)
          by_cases hl : lt (at' q J1) (at' q i)
          · rw [decide_eq_true hl] at HL2
            go_wp2_with fail
            refine HL2.out.mono ?_
            rintro e wl ⟨rfl, bl⟩
            have HRl := Lib.hid (HR2.out.ext bl)
            have hmS := m_swap ⟨B, 6, none⟩ _ wl (c6 HRl.out.2.1)
            have HST := Lib.hid (swap_st base g L c i J1 q wl HRl.out.2.2.1 (by omega) hjn (by omega) hL)
            clear hmL
            go_wp2_with fail
            refine HST.out.mono ?_
            rintro e w3 ⟨rfl, hO3, hg3⟩
            go_wp2_with fail
            go_roundw
            case measure => simp only [intOf]; omega
            case rel =>
              refine ⟨J1, _, rfl, by omega, ?_, HRl.out.swap (by omega) (by omega) hO3 hg3, fun k hk => ?_⟩
              · have h := dn_step (xs := q) HD.out (by omega) (by omega) (by rw [HLW.out]; exact hl)
                rw [HLW.out] at h; exact h
              · rw [swap_far (n := nn) (by omega) (by omega) (by omega) k hk]; exact HT.out k hk
          · rw [decide_eq_false hl] at HL2
            go_wp2_with fail
            refine HL2.out.mono ?_
            rintro e wl ⟨rfl, bl⟩
            have HRl := Lib.hid (HR2.out.ext bl)
            have HFIN := Lib.hid (dn_stop HD.out (by omega) (by rw [HLW.out]; exact hl))
            go_wp2_with fail
            go_ret
            exact ⟨⟨_, rfl⟩, q, HFIN.out, HRl.out, HT.out⟩
      · have y8 : ¬ (J2 : Int) < (nn : Int) := by omega
        clear hmL
        have HLW : Hid (low q nn i = J1) := Lib.hid (by unfold low; rw [if_neg (fun h => by have := h.1; omega)]; omega)
        have hjn : J1 < L := by omega
        have HL2 := Lib.hid (less_st (some ⟨g, 0, none⟩) L c J1 i q wi (HR.out.2.2.1.row cNd_len) hjn (by omega) hL (perm_sm HR.out.1 hS))
        have hmL := m_less ⟨B, 6, none⟩ _ wi (c6 HR.out.2.1)
        by_cases hl : lt (at' q J1) (at' q i)
        · rw [decide_eq_true hl] at HL2
          go_wp2_with fail
          refine HL2.out.mono ?_
          rintro e wl ⟨rfl, bl⟩
          have HRl := Lib.hid (HR.out.ext bl)
          have hmS := m_swap ⟨B, 6, none⟩ _ wl (c6 HRl.out.2.1)
          have HST := Lib.hid (swap_st base g L c i J1 q wl HRl.out.2.2.1 (by omega) hjn (by omega) hL)
          clear hmL
          go_wp2_with fail
          refine HST.out.mono ?_
          rintro e w3 ⟨rfl, hO3, hg3⟩
          go_wp2_with fail
          go_roundw
          case measure => simp only [intOf]; omega
          case rel =>
            refine ⟨J1, _, rfl, by omega, ?_, HRl.out.swap (by omega) (by omega) hO3 hg3, fun k hk => ?_⟩
            · have h := dn_step (xs := q) HD.out (by omega) (by omega) (by rw [HLW.out]; exact hl)
              rw [HLW.out] at h; exact h
            · rw [swap_far (n := nn) (by omega) (by omega) (by omega) k hk]; exact HT.out k hk
        · rw [decide_eq_false hl] at HL2
          go_wp2_with fail
          refine HL2.out.mono ?_
          rintro e wl ⟨rfl, bl⟩
          have HRl := Lib.hid (HR.out.ext bl)
          have HFIN := Lib.hid (dn_stop HD.out (by omega) (by rw [HLW.out]; exact hl))
          go_wp2_with fail
          go_ret
          exact ⟨⟨_, rfl⟩, q, HFIN.out, HRl.out, HT.out⟩
end Go.Proofs.Ytmceaocknlnmpaa.Pth
