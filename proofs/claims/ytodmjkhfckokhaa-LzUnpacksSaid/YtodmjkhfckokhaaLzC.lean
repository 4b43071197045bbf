/- Contracts of package lz: what tokens tell. -/
import Derived.Test.YtodmjkhfckokhaaLzB
namespace Go.Proofs.Ytodmjkhfckokhaa.Lz
open Go.ChangeShapes Go.WideShapes Go.ChangeAt Go.RowKit
open Go.Proofs.Ytodmjkhfckokhaa.Wire
set_option linter.unusedVariables false

theorem unp_nil (M : Nat) (out : List Nat) : unp M out [] = .ok out := by rw [unp]
theorem unp_high {M : Nat} {out cs : List Nat} {k : Nat} (h : 128 ≤ k) : unp M out (k :: cs) = .bad 4 := by rw [unp, if_pos h]
theorem unp_run6 {M : Nat} {out cs : List Nat} {k : Nat} (h : k < 128) (h2 : k % 2 = 0) (h3 : M < out.length + (k / 2 + 1)) : unp M out (k :: cs) = .bad 6 := by rw [unp, if_neg (by omega), if_pos h2, if_pos h3]
theorem unp_run3 {M : Nat} {out cs : List Nat} {k : Nat} (h : k < 128) (h2 : k % 2 = 0) (h3 : ¬ M < out.length + (k / 2 + 1)) (h4 : cs.length < k / 2 + 1) : unp M out (k :: cs) = .bad 3 := by rw [unp, if_neg (by omega), if_pos h2, if_neg h3, if_pos h4]
theorem unp_run {M : Nat} {out cs : List Nat} {k : Nat} (h : k < 128) (h2 : k % 2 = 0) (h3 : ¬ M < out.length + (k / 2 + 1)) (h4 : ¬ cs.length < k / 2 + 1) : unp M out (k :: cs) = unp M (out ++ cs.take (k / 2 + 1)) (cs.drop (k / 2 + 1)) := by rw [unp, if_neg (by omega), if_pos h2, if_neg h3, if_neg h4]
theorem unp_short {M : Nat} {out cs : List Nat} {k : Nat} (h : k < 128) (h2 : ¬ k % 2 = 0) (hv : vr 0 0 cs = .short) : unp M out (k :: cs) = .bad 3 := by rw [unp, if_neg (by omega), if_neg h2, hv]
theorem unp_form {M : Nat} {out cs : List Nat} {k : Nat} (h : k < 128) (h2 : ¬ k % 2 = 0) (hv : vr 0 0 cs = .form) : unp M out (k :: cs) = .bad 4 := by rw [unp, if_neg (by omega), if_neg h2, hv]
theorem unp_far {M : Nat} {out cs : List Nat} {k v j : Nat} (h : k < 128) (h2 : ¬ k % 2 = 0) (hv : vr 0 0 cs = .ok v j) (h3 : 4096 ≤ v ∨ out.length ≤ v) : unp M out (k :: cs) = .bad 4 := by rw [unp, if_neg (by omega), if_neg h2, hv]; simp only [if_pos h3]
theorem unp_match6 {M : Nat} {out cs : List Nat} {k v j : Nat} (h : k < 128) (h2 : ¬ k % 2 = 0) (hv : vr 0 0 cs = .ok v j) (h3 : ¬ (4096 ≤ v ∨ out.length ≤ v)) (h4 : M < out.length + (k / 2 + 3)) : unp M out (k :: cs) = .bad 6 := by rw [unp, if_neg (by omega), if_neg h2, hv]; simp only [if_neg h3, if_pos h4]
theorem unp_match {M : Nat} {out cs : List Nat} {k v j : Nat} (h : k < 128) (h2 : ¬ k % 2 = 0) (hv : vr 0 0 cs = .ok v j) (h3 : ¬ (4096 ≤ v ∨ out.length ≤ v)) (h4 : ¬ M < out.length + (k / 2 + 3)) : unp M out (k :: cs) = unp M (rep out (v + 1) (k / 2 + 3)) (cs.drop j) := by
  conv => lhs; rw [unp]
  rw [if_neg (by omega), if_neg h2, hv]; simp only [if_neg h3, if_neg h4]
theorem eff_old' {a W w' : World} {g i : Nat} {s : Value} {e : Int} (h : Ext a W) (k : Eff W w' g s i e) (hg : a.heap.size ≤ g) : Ext a w' := ext_grown h k.2 (fun j hj => by obtain rfl := Option.some.inj hj; exact hg)
/-- What Unpack comes to. -/
def UPost (w : World) (R : UR) (e : Ending) (w' : World) : Prop :=
  Ext w w' ∧ match R with
  | .bad f => e = .returned (.tuple #[.slice none 0 0, .int .i64 f]) ∧ f ≠ 0
  | .ok zs => (∃ v, e = .returned (.tuple #[v, .int .i64 0]) ∧ Wire.Own w w' v zs) ∧ ∀ c ∈ zs, c < 256
def URel (W : World) (g N c M : Nat) (A : Option Addr) (xs : List Nat) (R : UR) (ov : Value) (wr : World) : Prop :=
  ∃ (i : Nat) (out : List Nat), i ≤ N ∧ Wire.Own W wr ov out ∧ Eff W wr g (.slice A N c) i 0 ∧ unp M out (xs.drop i) = R ∧ out.length ≤ M ∧ ∀ c ∈ out, c < 256
set_option maxHeartbeats 16000000 in
set_option maxRecDepth 100000 in
theorem unpack (B : Option Addr) (N cd : Nat) (xs : List Nat) (most : Int) (w : World) (hB : Bs w B N xs) (hnil : B = none → N = 0 ∧ cd = 0) (hN : N ≤ 1000000) (hm1 : -9223372036854775808 ≤ most) (hm2 : most ≤ 1000000) :
    Calls Try.prog 37 #[.slice B N cd, .int .i64 most] w (UPost w (unp most.toNat [] xs)) := by
  have HB := Lib.hid hB; have HNIL := Lib.hid hnil
  have hxl : xs.length = N := hB.1
  have hxs := mem_small hB.2.1
  have HXL := Lib.hid hxl; have HXS := Lib.hid hxs
  clear hB hnil hxl hxs
  obtain ⟨R, hR⟩ : ∃ R, R = unp most.toNat [] xs := ⟨_, rfl⟩
  rw [← hR]
  have HR := Lib.hid hR; clear hR
  obtain ⟨M, hM⟩ : ∃ M, M = most.toNat := ⟨_, rfl⟩
  rw [← hM] at HR
  have hM1 : M ≤ 1000000 := by omega
  have hM2 : max most 0 = (M : Int) := by omega
  have HM := Lib.hid hM; have HM2 := Lib.hid hM2; clear hM hM2
  go_enter Try.func37, Try.ntmps37
  go_wp2_with fail
  refine (of B N cd xs w HB.out HNIL.out (by omega)).mono ?_
  rintro e w1 ⟨g, A1, c1, rfl, hg, hr, hrb, hE1⟩
  have hgl : g < w1.heap.size := Blk.lt hr
  have HRD := Lib.hid hr; have HRB := Lib.hid hrb; have HE1 := Lib.hid hE1
  clear hr hrb hE1
  go_wp2_with fail
  go_loopw [7] (fun ov wr => URel w1 g N c1 M A1 xs R ov wr) (fun _ wr => N - (intOf ((wr.cell? ⟨g, 1, none⟩).getD undef)).toNat)
  case atStart => exact ⟨0, [], Nat.zero_le _, World.ownsRow_nil _ _ _ _, ⟨HRD.out, gb_refl _ _⟩, by rw [List.drop_zero, HR.out], Nat.zero_le _, fun c hc => by cases hc⟩
  case round =>
    obtain ⟨i, out, hi, hO, hE, hU, hol, hos⟩ := hrel
    have hm : N - (intOf ((wr.cell? ⟨g, 1, none⟩).getD undef)).toNat = N - i := by rw [hE.1.cells.2.1]; simp [intOf]
    rw [hm]
    obtain ⟨OA, oc, rfl, hoc1, hoc2, hOA⟩ := own_shape hO
    have HO := Lib.hid hO; have HE := Lib.hid hE; have HU := Lib.hid hU; have HOS := Lib.hid hos
    clear hO hE hU hos hm hOA hoc1 hoc2
    go_wp2_with fail
    refine (left_any g N c1 A1 i 0 wr HE.out.1 hi (by omega)).mono ?_
    rintro e w2 ⟨rfl, b2⟩
    have HE2 := Lib.hid (HE.out.ext b2)
    have HO2 := Lib.hid (own_ext HO.out b2)
    clear b2
    obtain ⟨L, hL⟩ : ∃ L : Nat, L = N - i := ⟨_, rfl⟩
    rw [← hL]
    have HL := Lib.hid hL; clear hL
    by_cases hiN : i = N
    · obtain rfl : L = 0 := by rw [HL.out]; omega
      have HRR : Hid (R = .ok out) := Lib.hid (by rw [← HU.out, hiN, List.drop_of_length_le (by rw [HXL.out]; exact Nat.le_refl _), unp_nil])
      clear hiN
      go_wp2_with fail
      go_ret2
      exact ⟨eff_old' HE1.out HE2.out hg, by rw [HRR.out]; exact ⟨⟨_, rfl, Com.own_low HO2.out HE1.out.size⟩, HOS.out⟩⟩
    · have hgt : 0 < L := by rw [HL.out]; omega
      have hil : i < N := by omega
      clear hiN
      have hxd : xs.drop i = xs.getD i 0 :: xs.drop (i + 1) := by
        rw [List.drop_eq_getElem_cons (by rw [HXL.out]; exact hil), List.getD_eq_getElem?_getD, List.getElem?_eq_getElem (by rw [HXL.out]; exact hil)]; rfl
      have hkb := small_mem HXS.out i
      have HXD := Lib.hid hxd; clear hxd
      by_cases hneg : most < 0
      · have hnm : ¬ 0 ≤ most := by omega
        go_wp2_with fail
        refine (Wire.bytes g N c1 i 1 (by omega) (by omega) A1 xs w2 HE2.out.1 (HRB.out.eff HE2.out.2) hi (by omega)).mono ?_
        rintro e w3 (⟨h0, _, _⟩ | ⟨h1, h2, rfl, hE3⟩ | ⟨h1, h2, ⟨v1, rfl, A3, c3, rfl, q1, q2, q3, hB3⟩, hE3⟩)
        · omega
        · rw [List.length_drop, HXL.out] at h2; omega
        · generalize hrm : (-(out.length : Int)) = room at *
          have hr1 : (room : Int) = (M : Int) - (out.length : Int) := by have := HM.out; omega
          have hr2 : -1000000 ≤ room := by have := hol; omega
          have hr3 : room ≤ 1000000 := by omega
          have hrmM : room < 0 ∨ 0 ≤ room := by omega
          have HR1 := Lib.hid hr1; clear hr1 hrm hrmM
          have e1 : (xs.drop i).take (Int.toNat 1) = [xs.getD i 0] := by rw [HXD.out]; rfl
          rw [e1] at hB3 ⊢
          obtain ⟨b3, o3, rfl, _, hcell⟩ := hB3.2.2 (by simp)
          have cc := hcell 0 (by simp)
          have HO3 := Lib.hid (own_eff HO2.out hE3 hgl)
          have HE3 : Hid (Eff w1 w3 g (.slice A1 N c1) (i + 1) 0) := Lib.hid (HE2.out.trans hE3)
          have hcl : (xs.drop (i + 1)).length = N - (i + 1) := by rw [List.length_drop, HXL.out]
          have HCL := Lib.hid hcl
          have hU2 := HU.out
          rw [HXD.out] at hU2
          have HU2 := Lib.hid hU2
          have HRB3 := Lib.hid (HRB.out.eff HE3.out.2)
          rw [List.getD_cons_zero, Nat.add_zero] at cc
          clear hE3 hB3 q1 q2 q3 hcell h1 h2 e1 hcl hU2
          generalize xs.getD i 0 = k at *
          obtain ⟨cs, hcs⟩ : ∃ cs, cs = xs.drop (i + 1) := ⟨_, rfl⟩
          rw [← hcs] at HU2 HCL HXD
          have HCS := Lib.hid hcs; clear hcs
          by_cases hk : 128 ≤ k
          · have hk1 : (128 : Int) ≤ (k : Int) := by omega
            have HRR : Hid (R = .bad 4) := Lib.hid (by rw [← HU2.out, unp_high hk])
            go_wp2_with fail
            go_ret2
            exact ⟨eff_old' HE1.out HE3.out hg, by rw [HRR.out]; exact ⟨rfl, by decide⟩⟩
          · have hk1 : ¬ (128 : Int) ≤ (k : Int) := by omega
            by_cases hev : k % 2 = 0
            · have hk2 : (((k : Int) % 2) == 0) = true := beq_iff_eq.2 (by omega)
              go_wp2_with fail
              rw [show ((k : Int) / 2 + 1) = ((k / 2 + 1 : Nat) : Int) from by omega]
              refine (run w1 w3 g N c1 (i + 1) (k / 2 + 1) room A1 xs out _ HE3.out HRB3.out (by omega) hN hgl HO3.out (by omega) (by omega) hr2 hr3).mono ?_
              rintro e w4 (⟨h1, rfl, rfl⟩ | ⟨h1, h2, ⟨u, rfl⟩, hE4⟩ | ⟨h1, h2, ⟨u, rfl, hO4⟩, hE4⟩)
              · have hlt : M < out.length + (k / 2 + 1) := by have := HR1.out; omega
                have HRR : Hid (R = .bad 6) := Lib.hid (by rw [← HU2.out]; exact unp_run6 (by omega) hev hlt)
                clear h1 hlt
                go_wp2_with fail
                go_ret2
                exact ⟨eff_old' HE1.out HE3.out hg, by rw [HRR.out]; exact ⟨rfl, by decide⟩⟩
              · have hlt : ¬ M < out.length + (k / 2 + 1) := by have := HR1.out; omega
                rw [← HCS.out] at h2
                have HRR : Hid (R = .bad 3) := Lib.hid (by rw [← HU2.out]; exact unp_run3 (by omega) hev hlt h2)
                have HE4 := Lib.hid hE4
                clear h1 hlt h2 hE4
                go_wp2_with fail
                go_ret2
                exact ⟨eff_old' HE1.out HE4.out hg, by rw [HRR.out]; exact ⟨rfl, by decide⟩⟩
              · have hlt : ¬ M < out.length + (k / 2 + 1) := by have := HR1.out; omega
                have hin : i + 1 + (k / 2 + 1) ≤ N := by rw [← HCS.out, HCL.out] at h2; omega
                rw [← HCS.out] at h2 hO4
                have hol2 : (out ++ cs.take (k / 2 + 1)).length ≤ M := by rw [List.length_append, List.length_take]; omega
                have HOS2 : Hid (∀ c ∈ out ++ cs.take (k / 2 + 1), c < 256) := Lib.hid (fun c hc => by
                  rcases List.mem_append.1 hc with hc | hc
                  · exact HOS.out c hc
                  · exact HXS.out c (List.mem_of_mem_drop (i := i + 1) (by rw [← HCS.out]; exact List.mem_of_mem_take hc)))
                have HRR : Hid (unp M (out ++ cs.take (k / 2 + 1)) (xs.drop (i + 1 + (k / 2 + 1))) = R) := Lib.hid (by rw [← HU2.out, unp_run (by omega) hev hlt (by omega), HCS.out, List.drop_drop])
                have hmm : N - (intOf ((w4.cell? ⟨g, 1, none⟩).getD undef)).toNat = N - (i + 1 + (k / 2 + 1)) := by rw [hE4.1.cells.2.1]; simp [intOf]; omega
                have HE4 := Lib.hid hE4; have HO4 := Lib.hid hO4
                have HMM := Lib.hid hmm
                clear hE4 hO4 hmm h1 h2 hlt
                go_wp2_with fail
                go_roundw
                case rel => exact ⟨i + 1 + (k / 2 + 1), out ++ cs.take (k / 2 + 1), by omega, HO4.out, HE4.out, HRR.out, hol2, HOS2.out⟩
                case measure => rw [HMM.out]; omega
            · have hk2 : (((k : Int) % 2) == 0) = false := beq_eq_false_iff_ne.2 (by omega)
              go_wp2_with fail
              rw [show (((k : Int) - 1) / 2 + 3) = ((k / 2 + 3 : Nat) : Int) from by omega]
              refine (match_ w1 w3 g N c1 (i + 1) (k / 2 + 3) room A1 xs out _ HE3.out HRB3.out (by omega) hN hgl HO3.out (by omega) HOS.out (by omega) hr2 hr3).mono ?_
              intro e w4 hm
              rw [← HCS.out] at hm
              cases hv : vr 0 0 cs with
              | short =>
                rw [hv] at hm
                obtain ⟨rfl, hE4⟩ := hm
                have HRR : Hid (R = .bad 3) := Lib.hid (by rw [← HU2.out]; exact unp_short (by omega) hev hv)
                have HE4 := Lib.hid hE4
                clear hv hE4
                go_wp2_with fail
                go_ret2
                exact ⟨eff_old' HE1.out HE4.out hg, by rw [HRR.out]; exact ⟨rfl, by decide⟩⟩
              | form =>
                rw [hv] at hm
                obtain ⟨rfl, hE4⟩ := hm
                have HRR : Hid (R = .bad 4) := Lib.hid (by rw [← HU2.out]; exact unp_form (by omega) hev hv)
                have HE4 := Lib.hid hE4
                clear hv hE4
                go_wp2_with fail
                go_ret2
                exact ⟨eff_old' HE1.out HE4.out hg, by rw [HRR.out]; exact ⟨rfl, by decide⟩⟩
              | ok v j =>
                rw [hv] at hm
                simp only [MatchPost] at hm
                have hvk := vr_ok (fun c hc => HXS.out c (List.mem_of_mem_drop (i := i + 1) (by rw [← HCS.out]; exact hc))) hv
                have hj1 := hvk.2.2.2
                rw [HCL.out] at hj1
                by_cases hfar : 4096 ≤ v ∨ out.length ≤ v
                · rw [if_pos hfar] at hm
                  obtain ⟨rfl, hE4⟩ := hm
                  have HRR : Hid (R = .bad 4) := Lib.hid (by rw [← HU2.out]; exact unp_far (by omega) hev hv hfar)
                  have HE4 := Lib.hid hE4
                  clear hv hvk hE4 hfar
                  go_wp2_with fail
                  go_ret2
                  exact ⟨eff_old' HE1.out HE4.out hg, by rw [HRR.out]; exact ⟨rfl, by decide⟩⟩
                · rw [if_neg hfar] at hm
                  by_cases hroom : room < ((k / 2 + 3 : Nat) : Int)
                  · rw [if_pos hroom] at hm
                    obtain ⟨rfl, hE4⟩ := hm
                    have hlt : M < out.length + (k / 2 + 3) := by have := HR1.out; omega
                    have HRR : Hid (R = .bad 6) := Lib.hid (by rw [← HU2.out]; exact unp_match6 (by omega) hev hv hfar hlt)
                    have HE4 := Lib.hid hE4
                    clear hv hvk hE4 hfar hlt hroom
                    go_wp2_with fail
                    go_ret2
                    exact ⟨eff_old' HE1.out HE4.out hg, by rw [HRR.out]; exact ⟨rfl, by decide⟩⟩
                  · rw [if_neg hroom] at hm
                    obtain ⟨⟨u, rfl, hO4⟩, hE4⟩ := hm
                    have hlt : ¬ M < out.length + (k / 2 + 3) := by have := HR1.out; omega
                    have hin : i + 1 + j ≤ N := by omega
                    have hol2 : (rep out (v + 1) (k / 2 + 3)).length ≤ M := by rw [rep_len]; omega
                    have HOS2 := Lib.hid (rep_small HOS.out (v + 1) (k / 2 + 3))
                    have HRR : Hid (unp M (rep out (v + 1) (k / 2 + 3)) (xs.drop (i + 1 + j)) = R) := Lib.hid (by rw [← HU2.out, unp_match (by omega) hev hv hfar hlt, HCS.out, List.drop_drop])
                    have hmm : N - (intOf ((w4.cell? ⟨g, 1, none⟩).getD undef)).toNat = N - (i + 1 + j) := by rw [hE4.1.cells.2.1]; simp [intOf]; omega
                    have HE4 := Lib.hid hE4; have HO4 := Lib.hid hO4
                    have HMM := Lib.hid hmm
                    clear hE4 hO4 hmm hv hvk hfar hlt hroom
                    go_wp2_with fail
                    go_roundw
                    case rel => exact ⟨i + 1 + j, rep out (v + 1) (k / 2 + 3), by omega, HO4.out, HE4.out, HRR.out, hol2, HOS2.out⟩
                    case measure => rw [HMM.out]; omega
      · have hnm : 0 ≤ most := by omega
        go_wp2_with fail
        refine (Wire.bytes g N c1 i 1 (by omega) (by omega) A1 xs w2 HE2.out.1 (HRB.out.eff HE2.out.2) hi (by omega)).mono ?_
        rintro e w3 (⟨h0, _, _⟩ | ⟨h1, h2, rfl, hE3⟩ | ⟨h1, h2, ⟨v1, rfl, A3, c3, rfl, q1, q2, q3, hB3⟩, hE3⟩)
        · omega
        · rw [List.length_drop, HXL.out] at h2; omega
        · generalize hrm : (most - (out.length : Int)) = room at *
          have hr1 : (room : Int) = (M : Int) - (out.length : Int) := by have := HM.out; omega
          have hr2 : -1000000 ≤ room := by have := hol; omega
          have hr3 : room ≤ 1000000 := by omega
          have hrmM : room < 0 ∨ 0 ≤ room := by omega
          have HR1 := Lib.hid hr1; clear hr1 hrm hrmM
          have e1 : (xs.drop i).take (Int.toNat 1) = [xs.getD i 0] := by rw [HXD.out]; rfl
          rw [e1] at hB3 ⊢
          obtain ⟨b3, o3, rfl, _, hcell⟩ := hB3.2.2 (by simp)
          have cc := hcell 0 (by simp)
          have HO3 := Lib.hid (own_eff HO2.out hE3 hgl)
          have HE3 : Hid (Eff w1 w3 g (.slice A1 N c1) (i + 1) 0) := Lib.hid (HE2.out.trans hE3)
          have hcl : (xs.drop (i + 1)).length = N - (i + 1) := by rw [List.length_drop, HXL.out]
          have HCL := Lib.hid hcl
          have hU2 := HU.out
          rw [HXD.out] at hU2
          have HU2 := Lib.hid hU2
          have HRB3 := Lib.hid (HRB.out.eff HE3.out.2)
          rw [List.getD_cons_zero, Nat.add_zero] at cc
          clear hE3 hB3 q1 q2 q3 hcell h1 h2 e1 hcl hU2
          generalize xs.getD i 0 = k at *
          obtain ⟨cs, hcs⟩ : ∃ cs, cs = xs.drop (i + 1) := ⟨_, rfl⟩
          rw [← hcs] at HU2 HCL HXD
          have HCS := Lib.hid hcs; clear hcs
          by_cases hk : 128 ≤ k
          · have hk1 : (128 : Int) ≤ (k : Int) := by omega
            have HRR : Hid (R = .bad 4) := Lib.hid (by rw [← HU2.out, unp_high hk])
            go_wp2_with fail
            go_ret2
            exact ⟨eff_old' HE1.out HE3.out hg, by rw [HRR.out]; exact ⟨rfl, by decide⟩⟩
          · have hk1 : ¬ (128 : Int) ≤ (k : Int) := by omega
            by_cases hev : k % 2 = 0
            · have hk2 : (((k : Int) % 2) == 0) = true := beq_iff_eq.2 (by omega)
              go_wp2_with fail
              rw [show ((k : Int) / 2 + 1) = ((k / 2 + 1 : Nat) : Int) from by omega]
              refine (run w1 w3 g N c1 (i + 1) (k / 2 + 1) room A1 xs out _ HE3.out HRB3.out (by omega) hN hgl HO3.out (by omega) (by omega) hr2 hr3).mono ?_
              rintro e w4 (⟨h1, rfl, rfl⟩ | ⟨h1, h2, ⟨u, rfl⟩, hE4⟩ | ⟨h1, h2, ⟨u, rfl, hO4⟩, hE4⟩)
              · have hlt : M < out.length + (k / 2 + 1) := by have := HR1.out; omega
                have HRR : Hid (R = .bad 6) := Lib.hid (by rw [← HU2.out]; exact unp_run6 (by omega) hev hlt)
                clear h1 hlt
                go_wp2_with fail
                go_ret2
                exact ⟨eff_old' HE1.out HE3.out hg, by rw [HRR.out]; exact ⟨rfl, by decide⟩⟩
              · have hlt : ¬ M < out.length + (k / 2 + 1) := by have := HR1.out; omega
                rw [← HCS.out] at h2
                have HRR : Hid (R = .bad 3) := Lib.hid (by rw [← HU2.out]; exact unp_run3 (by omega) hev hlt h2)
                have HE4 := Lib.hid hE4
                clear h1 hlt h2 hE4
                go_wp2_with fail
                go_ret2
                exact ⟨eff_old' HE1.out HE4.out hg, by rw [HRR.out]; exact ⟨rfl, by decide⟩⟩
              · have hlt : ¬ M < out.length + (k / 2 + 1) := by have := HR1.out; omega
                have hin : i + 1 + (k / 2 + 1) ≤ N := by rw [← HCS.out, HCL.out] at h2; omega
                rw [← HCS.out] at h2 hO4
                have hol2 : (out ++ cs.take (k / 2 + 1)).length ≤ M := by rw [List.length_append, List.length_take]; omega
                have HOS2 : Hid (∀ c ∈ out ++ cs.take (k / 2 + 1), c < 256) := Lib.hid (fun c hc => by
                  rcases List.mem_append.1 hc with hc | hc
                  · exact HOS.out c hc
                  · exact HXS.out c (List.mem_of_mem_drop (i := i + 1) (by rw [← HCS.out]; exact List.mem_of_mem_take hc)))
                have HRR : Hid (unp M (out ++ cs.take (k / 2 + 1)) (xs.drop (i + 1 + (k / 2 + 1))) = R) := Lib.hid (by rw [← HU2.out, unp_run (by omega) hev hlt (by omega), HCS.out, List.drop_drop])
                have hmm : N - (intOf ((w4.cell? ⟨g, 1, none⟩).getD undef)).toNat = N - (i + 1 + (k / 2 + 1)) := by rw [hE4.1.cells.2.1]; simp [intOf]; omega
                have HE4 := Lib.hid hE4; have HO4 := Lib.hid hO4
                have HMM := Lib.hid hmm
                clear hE4 hO4 hmm h1 h2 hlt
                go_wp2_with fail
                go_roundw
                case rel => exact ⟨i + 1 + (k / 2 + 1), out ++ cs.take (k / 2 + 1), by omega, HO4.out, HE4.out, HRR.out, hol2, HOS2.out⟩
                case measure => rw [HMM.out]; omega
            · have hk2 : (((k : Int) % 2) == 0) = false := beq_eq_false_iff_ne.2 (by omega)
              go_wp2_with fail
              rw [show (((k : Int) - 1) / 2 + 3) = ((k / 2 + 3 : Nat) : Int) from by omega]
              refine (match_ w1 w3 g N c1 (i + 1) (k / 2 + 3) room A1 xs out _ HE3.out HRB3.out (by omega) hN hgl HO3.out (by omega) HOS.out (by omega) hr2 hr3).mono ?_
              intro e w4 hm
              rw [← HCS.out] at hm
              cases hv : vr 0 0 cs with
              | short =>
                rw [hv] at hm
                obtain ⟨rfl, hE4⟩ := hm
                have HRR : Hid (R = .bad 3) := Lib.hid (by rw [← HU2.out]; exact unp_short (by omega) hev hv)
                have HE4 := Lib.hid hE4
                clear hv hE4
                go_wp2_with fail
                go_ret2
                exact ⟨eff_old' HE1.out HE4.out hg, by rw [HRR.out]; exact ⟨rfl, by decide⟩⟩
              | form =>
                rw [hv] at hm
                obtain ⟨rfl, hE4⟩ := hm
                have HRR : Hid (R = .bad 4) := Lib.hid (by rw [← HU2.out]; exact unp_form (by omega) hev hv)
                have HE4 := Lib.hid hE4
                clear hv hE4
                go_wp2_with fail
                go_ret2
                exact ⟨eff_old' HE1.out HE4.out hg, by rw [HRR.out]; exact ⟨rfl, by decide⟩⟩
              | ok v j =>
                rw [hv] at hm
                simp only [MatchPost] at hm
                have hvk := vr_ok (fun c hc => HXS.out c (List.mem_of_mem_drop (i := i + 1) (by rw [← HCS.out]; exact hc))) hv
                have hj1 := hvk.2.2.2
                rw [HCL.out] at hj1
                by_cases hfar : 4096 ≤ v ∨ out.length ≤ v
                · rw [if_pos hfar] at hm
                  obtain ⟨rfl, hE4⟩ := hm
                  have HRR : Hid (R = .bad 4) := Lib.hid (by rw [← HU2.out]; exact unp_far (by omega) hev hv hfar)
                  have HE4 := Lib.hid hE4
                  clear hv hvk hE4 hfar
                  go_wp2_with fail
                  go_ret2
                  exact ⟨eff_old' HE1.out HE4.out hg, by rw [HRR.out]; exact ⟨rfl, by decide⟩⟩
                · rw [if_neg hfar] at hm
                  by_cases hroom : room < ((k / 2 + 3 : Nat) : Int)
                  · rw [if_pos hroom] at hm
                    obtain ⟨rfl, hE4⟩ := hm
                    have hlt : M < out.length + (k / 2 + 3) := by have := HR1.out; omega
                    have HRR : Hid (R = .bad 6) := Lib.hid (by rw [← HU2.out]; exact unp_match6 (by omega) hev hv hfar hlt)
                    have HE4 := Lib.hid hE4
                    clear hv hvk hE4 hfar hlt hroom
                    go_wp2_with fail
                    go_ret2
                    exact ⟨eff_old' HE1.out HE4.out hg, by rw [HRR.out]; exact ⟨rfl, by decide⟩⟩
                  · rw [if_neg hroom] at hm
                    obtain ⟨⟨u, rfl, hO4⟩, hE4⟩ := hm
                    have hlt : ¬ M < out.length + (k / 2 + 3) := by have := HR1.out; omega
                    have hin : i + 1 + j ≤ N := by omega
                    have hol2 : (rep out (v + 1) (k / 2 + 3)).length ≤ M := by rw [rep_len]; omega
                    have HOS2 := Lib.hid (rep_small HOS.out (v + 1) (k / 2 + 3))
                    have HRR : Hid (unp M (rep out (v + 1) (k / 2 + 3)) (xs.drop (i + 1 + j)) = R) := Lib.hid (by rw [← HU2.out, unp_match (by omega) hev hv hfar hlt, HCS.out, List.drop_drop])
                    have hmm : N - (intOf ((w4.cell? ⟨g, 1, none⟩).getD undef)).toNat = N - (i + 1 + j) := by rw [hE4.1.cells.2.1]; simp [intOf]; omega
                    have HE4 := Lib.hid hE4; have HO4 := Lib.hid hO4
                    have HMM := Lib.hid hmm
                    clear hE4 hO4 hmm hv hvk hfar hlt hroom
                    go_wp2_with fail
                    go_roundw
                    case rel => exact ⟨i + 1 + j, rep out (v + 1) (k / 2 + 3), by omega, HO4.out, HE4.out, HRR.out, hol2, HOS2.out⟩
                    case measure => rw [HMM.out]; omega
end Go.Proofs.Ytodmjkhfckokhaa.Lz
