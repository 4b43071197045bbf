/- Contracts of package lz: the best match, walked. -/
import Derived.Test.YtodmjkhfckokhaaLzH
import Derived.WalkMore
import Derived.BigQuiet
import Derived.Deep.DeepCutAuto
namespace Go.Proofs.Ytodmjkhfckokhaa.Lz
open Go.ChangeShapes Go.WideShapes Go.ChangeAt Go.RowKit
open Go.Proofs.Ytodmjkhfckokhaa.Wire Go.Proofs.Ytodmjkhfckokhaa.Map32
set_option linter.unusedVariables false

theorem bs_cell {w : World} {b o n j : Nat} {xs : List Nat} (h : Bs w (some ⟨b, o, none⟩) n xs) (hj : j < n) : w.cell? ⟨b, o + j, none⟩ = some (.int .u8 (xs.getD j 0 : Nat)) := by
  obtain ⟨b', o', e, _, hc⟩ := h.2.2 (by omega)
  obtain ⟨rfl, rfl, _⟩ := Addr.mk.inj (Option.some.inj e)
  exact hc j hj
theorem still_skip {P : Program} {ops : Array Oper} {w : World} {Q : Act → Prop} {o : Oper} {rest : List Oper} {a : Act} (h : Region.wanted o (yielded ops a.tmps) = false) (k : wpStill P ops w Q rest (a.put o.dst undef)) : wpStill P ops w Q (o :: rest) a := by
  unfold wpStill
  rw [h]
  exact k
def BPost2 (w : World) (s : Nat × Nat) (e : Ending) (w' : World) : Prop := e = .returned (.tuple #[.int .i64 (s.1 : Int), .int .i64 (s.2 : Int)]) ∧ Ext w w'
def BRel (w : World) (xs : List Nat) (p : Nat) (zs : List Nat) (bv lv iv : Value) (wr : World) : Prop :=
  ∃ k : Nat, k ≤ zs.length ∧ iv = .int .i64 ((k : Int) - 1) ∧ bv = .int .i64 ((scan xs p (zs.drop k).reverse).1 : Nat) ∧ lv = .int .i64 ((scan xs p (zs.drop k).reverse).2 : Nat) ∧ Ext w wr
def NRel2 (w : World) (xs : List Nat) (p f most : Nat) (nv : Value) (wr : World) : Prop :=
  ∃ n : Nat, n ≤ most ∧ nv = .int .i64 (n : Int) ∧ (∀ j, j < n → xs.getD (f + j) 0 = xs.getD (p + j) 0) ∧ Ext w wr
set_option maxHeartbeats 16000000 in
set_option maxRecDepth 100000 in
theorem best (A : Option Addr) (N c p base b : Nat) (xs : List Nat) (M : Nat → Option Value) (w : World) (hB : Bs w A N xs) (hG : Groups w base 3 b M (seen xs p)) (hp : p < N) (hN : N ≤ 1000000) :
    Calls Try.prog 59 #[.slice A N c, .int .i64 (p : Int), .map (some b)] w (BPost2 w (bst xs p)) := by
  have hxl : xs.length = N := hB.1
  obtain ⟨bb, oo, rfl, _, _⟩ := hB.2.2 (by omega)
  obtain ⟨R, hR⟩ : ∃ R, R = bst xs p := ⟨_, rfl⟩
  rw [← hR]
  have HR := Lib.hid hR; clear hR
  have HB := Lib.hid hB; have HG := Lib.hid hG; have HXL := Lib.hid hxl
  clear hB hG hxl
  go_enter Try.func59, Try.ntmps59
  go_wp2_with fail
  go_step3
  go_wp2_with fail
  by_cases h3 : p + 3 ≤ N
  · refine (three_yes _ N c p xs _ HB.out hN h3).mono ?_
    rintro e w1 ⟨rfl, b1⟩
    have HG1 := Lib.hid (HG.out.ext b1)
    have HE1 := Lib.hid b1
    have HB1 := Lib.hid (HB.out.ext b1)
    have HRB : Hid (R = mask (scan xs p (seen xs p (key xs p)).reverse)) := Lib.hid (by rw [HR.out]; exact if_pos (by rw [HXL.out]; exact h3))
    have HSM := Lib.hid (fun f (h : f ∈ seen xs p (key xs p)) => seen_mem h)
    have HKI := Lib.hid (fun f => (key_inj HB.out.2.1 (p := f) (q := p)).1)
    have hn16 := seen_len xs p (key xs p)
    clear b1
    rcases HG1.out.look (key xs p) with ⟨hv, hs0⟩ | ⟨hv, hs0, hsl⟩
    · have hrun := run_look (P := Try.prog) HG1.out.map Try.underlying82 Try.underlying28 (zeroRow w1) (key xs p)
      rw [hv] at hrun
      rw [hs0] at HRB
      clear hv hs0 HSM hn16
      generalize key xs p = k1 at *
      obtain ⟨mo, hmo⟩ : ∃ mo, mo = min 66 (N - p) := ⟨_, rfl⟩
      have hmo1 : mo ≤ 66 := by omega
      have hmo2 : 3 ≤ mo := by omega
      have hmo3 : p + mo ≤ N := by omega
      go_upto_region 5 with fail
      go_cut [11] (fun mv wx => mv = .int .i64 (mo : Int) ∧ w1 = wx)
      case first =>
        by_cases hm : 66 ≤ N - p
        · have hm1 : (66 : Int) ≤ (N : Int) - (p : Int) := by omega
          go_wp2_with fail
          go_meet
          exact ⟨int_eq (by omega), rfl⟩
        · have hm1 : (N : Int) - (p : Int) < 66 := by omega
          go_wp2_with fail
          go_meet
          exact ⟨int_eq (by omega), rfl⟩
      case rest =>
      obtain ⟨rfl, rfl⟩ := hcut
      have HMO := Lib.hid hmo; clear hmo hrun
      go_wp2_with fail
      go_step3
      go_wp2_with fail
      go_loopw [12, 13, 14] (fun bv lv iv wr => bv = .int .i64 0 ∧ lv = .int .i64 0 ∧ iv = .int .i64 (-1) ∧ Ext w wr) (fun _ _ iv wr => (intOf iv + 1).toNat)
      case atStart => exact ⟨rfl, rfl, rfl, HE1.out⟩
      case round =>
        obtain ⟨rfl, rfl, rfl, hE⟩ := hrel
        have HE := Lib.hid hE; clear hE
        go_wp2_with fail
        rw [Exit.noGoto_ret]
        go_ret2
        exact ⟨by rw [HRB.out]; rfl, HE.out⟩
    · obtain ⟨g, o, cap, hve, hc1, hc2, hgb⟩ := hsl.shape
      have hrun := run_look (P := Try.prog) HG1.out.map Try.underlying82 Try.underlying28 (zeroRow w1) (key xs p)
      rw [hve] at hrun hsl
      clear hv hve hs0
      generalize hzs : seen xs p (key xs p) = zs at *
      generalize hk1 : key xs p = k1 at *
      have HK1 := Lib.hid hk1; have HSL := Lib.hid hsl
      clear hk1 hzs hsl
      obtain ⟨mo, hmo⟩ : ∃ mo, mo = min 66 (N - p) := ⟨_, rfl⟩
      have hmo1 : mo ≤ 66 := by omega
      have hmo2 : 3 ≤ mo := by omega
      have hmo3 : p + mo ≤ N := by omega
      go_upto_region 5 with fail
      go_cut [11] (fun mv wx => mv = .int .i64 (mo : Int) ∧ w1 = wx)
      case first =>
        by_cases hm : 66 ≤ N - p
        · have hm1 : (66 : Int) ≤ (N : Int) - (p : Int) := by omega
          go_wp2_with fail
          go_meet
          exact ⟨int_eq (by omega), rfl⟩
        · have hm1 : (N : Int) - (p : Int) < 66 := by omega
          go_wp2_with fail
          go_meet
          exact ⟨int_eq (by omega), rfl⟩
      case rest =>
      obtain ⟨rfl, rfl⟩ := hcut
      have HMO := Lib.hid hmo; clear hmo hrun
      go_wp2_with fail
      go_step3
      go_wp2_with fail
      go_loopw [12, 13, 14] (fun bv lv iv wr => BRel w1 xs p zs bv lv iv wr) (fun _ _ iv wr => (intOf iv + 1).toNat)
      case atStart => exact ⟨zs.length, Nat.le_refl _, rfl, by rw [List.drop_length]; rfl, by rw [List.drop_length]; rfl, Ext.rfl' _⟩
      case round =>
        obtain ⟨k, hk, rfl, rfl, rfl, hE⟩ := hrel
        have HE := Lib.hid hE; clear hE
        have hsl2 := scan_le (xs := xs) (a := p) (zs.drop k).reverse (fun f hf => (HSM.out f (List.mem_of_mem_drop (List.mem_reverse.1 hf))).2.1)
        obtain ⟨B, L, hBL⟩ : ∃ B L, scan xs p (zs.drop k).reverse = (B, L) := ⟨_, _, rfl⟩
        rw [hBL] at hsl2 ⊢
        simp only at hsl2 ⊢
        obtain ⟨hB4, hL6⟩ := hsl2
        have HSC := Lib.hid hBL; clear hBL
        cases k with
        | zero =>
          have HRF : Hid (R = mask (B, L)) := Lib.hid (by rw [HRB.out, ← HSC.out, List.drop_zero])
          simp only [Int.ofNat_zero, Int.zero_sub]
          by_cases hL : L = 3
          · have z1 : ((L : Int) == 3) = true := beq_iff_eq.2 (by omega)
            by_cases hBk : 128 < B
            · have z2 : (128 : Int) < (B : Int) := by omega
              have HRZ : Hid (R = (0, 0)) := Lib.hid (by rw [HRF.out]; exact if_pos ⟨hL, hBk⟩)
              clear hL
              go_wp2_with fail
              try rw [Exit.noGoto_ret]
              go_ret2
              exact ⟨by rw [HRZ.out]; rfl, ext_trans HE1.out HE.out⟩
            · have z2 : ¬ (128 : Int) < (B : Int) := by omega
              have HRZ : Hid (R = (B, L)) := Lib.hid (by rw [HRF.out]; exact if_neg (fun h => hBk h.2))
              clear hL
              go_wp2_with fail
              try rw [Exit.noGoto_ret]
              go_ret2
              exact ⟨by rw [HRZ.out]; rfl, ext_trans HE1.out HE.out⟩
          · have z1 : ((L : Int) == 3) = false := beq_eq_false_iff_ne.2 (by omega)
            have HRZ : Hid (R = (B, L)) := Lib.hid (by rw [HRF.out]; exact if_neg (fun h => hL h.1))
            clear hL
            go_wp2_with fail
            try rw [Exit.noGoto_ret]
            go_ret2
            exact ⟨by rw [HRZ.out]; rfl, ext_trans HE1.out HE.out⟩
        | succ k =>
          have hkl : k < zs.length := hk
          have hfm : zs.getD k 0 ∈ zs := by rw [List.getD_eq_getElem?_getD, List.getElem?_eq_getElem hkl]; exact List.getElem_mem _
          obtain ⟨f1, f2, f3, f4⟩ := HSM.out _ hfm
          have c0 := (HSL.out.ext HE.out).cells k hkl
          have f0 := (HSL.out.ext HE.out).frozen k hkl
          have k0 : (0 : Int) ≤ ((k + 1 : Nat) : Int) - 1 := by omega
          have k1' : ((k + 1 : Nat) : Int) - 1 < (zs.length : Int) := by omega
          have k2 : (((k + 1 : Nat) : Int) - 1).toNat = k := by omega
          have hki := HKI.out (zs.getD k 0) f4
          obtain ⟨f, hf⟩ : ∃ f, f = zs.getD k 0 := ⟨_, rfl⟩
          rw [← hf] at f1 f2 f3 f4 c0 hki
          have HF := Lib.hid hf; have HKE := Lib.hid hki
          clear hf hfm hki f4
          have k3 : ¬ (4096 : Int) < (p : Int) - (f : Int) := by omega
          go_wp2_with fail
          go_loopw [16] (fun nv wr2 => NRel2 w1 xs p f (mo) nv wr2) (fun nv wr2 => 66 - (intOf nv).toNat)
          case atStart => exact ⟨3, by omega, rfl, fun j hj => by
            obtain ⟨a0, a1, a2⟩ := HKE.out
            rcases (show j = 0 ∨ j = 1 ∨ j = 2 by omega) with rfl | rfl | rfl
            · simpa using a0
            · exact a1
            · exact a2, HE.out⟩
          case round =>
            obtain ⟨n, hn, rfl, hj, hE2⟩ := hrel
            have HJ := Lib.hid hj; have HE2 := Lib.hid hE2
            have hn66 : n ≤ 66 := by omega
            clear hj hE2
            go_wp2_with fail
            have hE3 : ∀ m, Ext w1 (wr.drewN m) := fun m => ext_drewN HE2.out m
            by_cases hlt : n < mo
            · have z0 : (n : Int) < (mo : Int) := by omega
              have qa := bs_cell (HB1.out.ext HE2.out) (j := f + n) (by omega)
              have qb := bs_cell (HB1.out.ext HE2.out) (j := p + n) (by omega)
              have HST := Lib.hid (fun h => mt_stop (xs := xs) (f := f) (a := p) (n := n) (by rw [HXL.out, ← HMO.out]; exact hn) HJ.out h)
              have s1 : (0 : Int) ≤ (f : Int) + (n : Int) := by omega
              have s2 : (f : Int) + (n : Int) < (N : Int) := by omega
              have s3 : ((f : Int) + (n : Int)).toNat = f + n := by omega
              have s4 : (0 : Int) ≤ (p : Int) + (n : Int) := by omega
              have s5 : (p : Int) + (n : Int) < (N : Int) := by omega
              have s6 : ((p : Int) + (n : Int)).toNat = p + n := by omega
              by_cases heq : xs.getD (f + n) 0 = xs.getD (p + n) 0
              · have HJ2 : Hid (∀ j, j < n + 1 → xs.getD (f + j) 0 = xs.getD (p + j) 0) := Lib.hid (fun j hj => by
                  by_cases h : j = n
                  · rw [h]; exact heq
                  · exact HJ.out j (by omega))
                generalize xs.getD (f + n) 0 = x at *
                generalize xs.getD (p + n) 0 = y at *
                have z5 : ((x : Int) == (y : Int)) = true := beq_iff_eq.2 (by omega)
                go_quiet (fail)
                clear s1 s2 s3 s4 s5 s6
                go_wp2_with fail
                exact ⟨⟨n + 1, by omega, by go_num, HJ2.out, hE3 _⟩, by simp only [intOf]; omega⟩
              · have hnm := HST.out heq
                clear HST
                generalize xs.getD (f + n) 0 = x at *
                generalize xs.getD (p + n) 0 = y at *
                have z5 : ((x : Int) == (y : Int)) = false := beq_eq_false_iff_ne.2 (by omega)
                go_quiet (fail)
                clear s1 s2 s3 s4 s5 s6 hlt qa qb
                have HNM : Hid (mt xs f p = n) := Lib.hid hnm
                clear hnm
                have HPK : Hid (scan xs p (zs.drop k).reverse = if L < n then (p - f, n) else (B, L)) := Lib.hid (by rw [rev_drop hkl, ← HF.out, scan_snoc, HSC.out]; unfold pick; rw [HNM.out])
                have HE3 := Lib.hid hE3; clear hE3
                by_cases hle : n ≤ L
                · have z1 : (n : Int) ≤ (L : Int) := by omega
                  go_wp2_with fail
                  go_roundw
                  case rel => exact ⟨k, by omega, by go_num, by rw [HPK.out, if_neg (by omega)], by rw [HPK.out, if_neg (by omega)], (HE3.out _)⟩
                  case measure => simp only [intOf]; omega
                · have z1 : ¬ (n : Int) ≤ (L : Int) := by omega
                  have z3 : ((p : Int) - (f : Int)) = ((p - f : Nat) : Int) := by omega
                  by_cases hmost : n = mo
                  · have z2 : ((n : Int) == (mo : Int)) = true := beq_iff_eq.2 (by omega)
                    obtain ⟨B2, hB2⟩ : ∃ B2, B2 = p - f := ⟨_, rfl⟩
                    have z4 : ((p : Int) - (f : Int)) = (B2 : Int) := by omega
                    have hB3 : B2 ≤ 4096 := by omega
                    have HRF : Hid (R = mask (B2, n)) := Lib.hid (by
                      rw [HRB.out, rev_take zs k, scan_app (by rw [HPK.out, if_pos (by omega), HXL.out, ← HMO.out]; exact hmost), HPK.out, if_pos (by omega), hB2])
                    clear z3 hB2 hmost
                    by_cases hL : n = 3
                    · have y1 : ((n : Int) == 3) = true := beq_iff_eq.2 (by omega)
                      by_cases hBk : 128 < B2
                      · have y2 : (128 : Int) < (p : Int) - (f : Int) := by omega
                        have HRZ : Hid (R = (0, 0)) := Lib.hid (by rw [HRF.out]; exact if_pos ⟨hL, hBk⟩)
                        clear hL
                        go_wp2_with fail
                        try rw [Exit.noGoto_ret]
                        go_ret2
                        exact ⟨by rw [HRZ.out]; rfl, ext_trans HE1.out (HE3.out _)⟩
                      · have y2 : ¬ (128 : Int) < (p : Int) - (f : Int) := by omega
                        have HRZ : Hid (R = (B2, n)) := Lib.hid (by rw [HRF.out]; exact if_neg (fun h => hBk h.2))
                        have HZ4 := Lib.hid z4; clear z4 hL
                        go_wp2_with fail
                        try rw [Exit.noGoto_ret]
                        go_ret2
                        exact ⟨by rw [HRZ.out, HZ4.out]; rfl, ext_trans HE1.out (HE3.out _)⟩
                    · have y1 : ((n : Int) == 3) = false := beq_eq_false_iff_ne.2 (by omega)
                      have HRZ : Hid (R = (B2, n)) := Lib.hid (by rw [HRF.out]; exact if_neg (fun h => hL h.1))
                      have HZ4 := Lib.hid z4; clear z4 hL
                      go_wp2_with fail
                      try rw [Exit.noGoto_ret]
                      go_ret2
                      exact ⟨by rw [HRZ.out, HZ4.out]; rfl, ext_trans HE1.out (HE3.out _)⟩
                  · have z2 : ((n : Int) == (mo : Int)) = false := beq_eq_false_iff_ne.2 (by omega)
                    have HZ3 := Lib.hid z3; clear z3 hmost
                    go_wp2_with fail
                    go_roundw
                    case rel => exact ⟨k, by omega, by go_num, by rw [HPK.out, if_pos (by omega), HZ3.out], by rw [HPK.out, if_pos (by omega)], (HE3.out _)⟩
                    case measure => simp only [intOf]; omega
            · have z0 : decide ((n : Int) < (mo : Int)) = false := decide_eq_false (by omega)
              have hnm := mt_most (xs := xs) (f := f) (a := p) (n := n) (by rw [HXL.out, ← HMO.out]; omega) HJ.out
              go_quiet (fail)
              have HNM : Hid (mt xs f p = n) := Lib.hid hnm
              clear hnm
              have HPK : Hid (scan xs p (zs.drop k).reverse = if L < n then (p - f, n) else (B, L)) := Lib.hid (by rw [rev_drop hkl, ← HF.out, scan_snoc, HSC.out]; unfold pick; rw [HNM.out])
              have HE3 := Lib.hid hE3; clear hE3
              by_cases hle : n ≤ L
              · have z1 : (n : Int) ≤ (L : Int) := by omega
                go_wp2_with fail
                go_roundw
                case rel => exact ⟨k, by omega, by go_num, by rw [HPK.out, if_neg (by omega)], by rw [HPK.out, if_neg (by omega)], (HE3.out _)⟩
                case measure => simp only [intOf]; omega
              · have z1 : ¬ (n : Int) ≤ (L : Int) := by omega
                have z3 : ((p : Int) - (f : Int)) = ((p - f : Nat) : Int) := by omega
                by_cases hmost : n = mo
                · have z2 : ((n : Int) == (mo : Int)) = true := beq_iff_eq.2 (by omega)
                  obtain ⟨B2, hB2⟩ : ∃ B2, B2 = p - f := ⟨_, rfl⟩
                  have z4 : ((p : Int) - (f : Int)) = (B2 : Int) := by omega
                  have hB3 : B2 ≤ 4096 := by omega
                  have HRF : Hid (R = mask (B2, n)) := Lib.hid (by
                    rw [HRB.out, rev_take zs k, scan_app (by rw [HPK.out, if_pos (by omega), HXL.out, ← HMO.out]; exact hmost), HPK.out, if_pos (by omega), hB2])
                  clear z3 hB2 hmost
                  by_cases hL : n = 3
                  · have y1 : ((n : Int) == 3) = true := beq_iff_eq.2 (by omega)
                    by_cases hBk : 128 < B2
                    · have y2 : (128 : Int) < (p : Int) - (f : Int) := by omega
                      have HRZ : Hid (R = (0, 0)) := Lib.hid (by rw [HRF.out]; exact if_pos ⟨hL, hBk⟩)
                      clear hL
                      go_wp2_with fail
                      try rw [Exit.noGoto_ret]
                      go_ret2
                      exact ⟨by rw [HRZ.out]; rfl, ext_trans HE1.out (HE3.out _)⟩
                    · have y2 : ¬ (128 : Int) < (p : Int) - (f : Int) := by omega
                      have HRZ : Hid (R = (B2, n)) := Lib.hid (by rw [HRF.out]; exact if_neg (fun h => hBk h.2))
                      have HZ4 := Lib.hid z4; clear z4 hL
                      go_wp2_with fail
                      try rw [Exit.noGoto_ret]
                      go_ret2
                      exact ⟨by rw [HRZ.out, HZ4.out]; rfl, ext_trans HE1.out (HE3.out _)⟩
                  · have y1 : ((n : Int) == 3) = false := beq_eq_false_iff_ne.2 (by omega)
                    have HRZ : Hid (R = (B2, n)) := Lib.hid (by rw [HRF.out]; exact if_neg (fun h => hL h.1))
                    have HZ4 := Lib.hid z4; clear z4 hL
                    go_wp2_with fail
                    try rw [Exit.noGoto_ret]
                    go_ret2
                    exact ⟨by rw [HRZ.out, HZ4.out]; rfl, ext_trans HE1.out (HE3.out _)⟩
                · have z2 : ((n : Int) == (mo : Int)) = false := beq_eq_false_iff_ne.2 (by omega)
                  have HZ3 := Lib.hid z3; clear z3 hmost
                  go_wp2_with fail
                  go_roundw
                  case rel => exact ⟨k, by omega, by go_num, by rw [HPK.out, if_pos (by omega), HZ3.out], by rw [HPK.out, if_pos (by omega)], (HE3.out _)⟩
                  case measure => simp only [intOf]; omega
  · refine (three_no _ N c (p : Int) _ hN (by omega) (by omega) (.inr (by omega))).mono ?_
    rintro e w3 ⟨rfl, rfl⟩
    have HRB : Hid (R = (0, 0)) := Lib.hid (by rw [HR.out]; exact if_neg (by rw [HXL.out]; exact h3))
    go_wp2_with fail
    rw [Exit.noGoto_ret]
    go_ret2
    exact ⟨by rw [HRB.out]; rfl, Ext.rfl' _⟩
end Go.Proofs.Ytodmjkhfckokhaa.Lz
