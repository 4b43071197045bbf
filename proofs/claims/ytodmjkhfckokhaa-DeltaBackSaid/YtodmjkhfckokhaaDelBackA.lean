/- The walk of the law: what differs is applied. -/
import Derived.Test.YtodmjkhfckokhaaDelY
namespace Go.Proofs.Ytodmjkhfckokhaa.Delta
open Go.ChangeShapes Go.WideShapes Go.ChangeAt Go.RowKit
open Go.Proofs.Ytodmjkhfckokhaa.Wire
set_option linter.unusedVariables false

theorem lits_in (m : Nat) : ∀ (n at_ : Nat) (rest : List Nat) (l : List (Nat × List Nat)), rest.length ≤ m → (∀ c ∈ rest, c < 256) → lits n at_ rest = .ok l → ∀ p ∈ l, p.1 + p.2.length ≤ n := by
  induction m with
  | zero =>
    intro n at_ rest l hm _ h p hp
    obtain rfl : rest = [] := List.eq_nil_of_length_eq_zero (by omega)
    rw [lits_nil] at h
    cases h; cases hp
  | succ m ih =>
    intro n at_ rest l hm hs h p hp
    by_cases h0 : rest = []
    · subst h0
      rw [lits_nil] at h
      cases h; cases hp
    · cases hv : lim (vr 0 0 rest) with
      | short => rw [lits_short h0 hv] at h; cases h
      | form => rw [lits_form h0 hv] at h; cases h
      | ok z k =>
        by_cases hb : n < at_ + z
        · rw [lits_big h0 hv hb] at h; cases h
        · cases ht : tr (rest.drop k) ((n : Int) - at_ - z) with
          | bad f => rw [lits_bad h0 hv hb ht] at h; cases h
          | ok ys j =>
            have hsd : ∀ c ∈ rest.drop k, c < 256 := fun c hc => hs c (List.mem_of_mem_drop hc)
            obtain ⟨t1, t2, t3, _⟩ := tr_len ht hsd
            rw [lits_more h0 hv hb ht (by omega)] at h
            cases hr : lits n (at_ + z + ys.length) (rest.drop (k + j)) with
            | bad f => rw [hr] at h; cases h
            | ok l2 =>
              rw [hr] at h
              cases h
              rcases List.mem_append.1 hp with hp | hp
              · simp only [List.mem_cons, List.not_mem_nil, or_false] at hp
                subst hp
                show at_ + z + ys.length ≤ n
                omega
              · exact ih n _ _ _ (by rw [List.length_drop]; omega) (fun c hc => hs c (List.mem_of_mem_drop hc)) hr p hp
theorem lits_small (m : Nat) : ∀ (n at_ : Nat) (rest : List Nat) (l : List (Nat × List Nat)), rest.length ≤ m → (∀ c ∈ rest, c < 256) → lits n at_ rest = .ok l → ∀ p ∈ l, ∀ c ∈ p.2, c < 256 := by
  induction m with
  | zero =>
    intro n at_ rest l hm _ h p hp
    obtain rfl : rest = [] := List.eq_nil_of_length_eq_zero (by omega)
    rw [lits_nil] at h
    cases h; cases hp
  | succ m ih =>
    intro n at_ rest l hm hs h p hp
    by_cases h0 : rest = []
    · subst h0
      rw [lits_nil] at h
      cases h; cases hp
    · cases hv : lim (vr 0 0 rest) with
      | short => rw [lits_short h0 hv] at h; cases h
      | form => rw [lits_form h0 hv] at h; cases h
      | ok z k =>
        by_cases hb : n < at_ + z
        · rw [lits_big h0 hv hb] at h; cases h
        · cases ht : tr (rest.drop k) ((n : Int) - at_ - z) with
          | bad f => rw [lits_bad h0 hv hb ht] at h; cases h
          | ok ys j =>
            have hsd : ∀ c ∈ rest.drop k, c < 256 := fun c hc => hs c (List.mem_of_mem_drop hc)
            obtain ⟨t1, t2, t3, _⟩ := tr_len ht hsd
            rw [lits_more h0 hv hb ht (by omega)] at h
            cases hr : lits n (at_ + z + ys.length) (rest.drop (k + j)) with
            | bad f => rw [hr] at h; cases h
            | ok l2 =>
              rw [hr] at h
              cases h
              rcases List.mem_append.1 hp with hp | hp
              · simp only [List.mem_cons, List.not_mem_nil, or_false] at hp
                subst hp
                exact tr_small ht hsd
              · exact ih n _ _ _ (by rw [List.length_drop]; omega) (fun c hc => hs c (List.mem_of_mem_drop hc)) hr p hp
theorem back_applied {xs ds ys : List Nat} {most : Int} (hd : ∀ c ∈ ds, c < 256) (h : applied xs ds most = .ok ys) : diff xs ys = ds ∧ (ys.length : Int) ≤ most :=
  diff_applied hd h (fun n k l _ hl => lits_in _ n 0 (ds.drop k) l (Nat.le_refl _) (fun c hc => hd c (List.mem_of_mem_drop hc)) hl)
theorem applied_small {xs ds ys : List Nat} {most : Int} (hx : ∀ j, xs.getD j 0 < 256) (h : applied xs ds most = .ok ys) (hd : ∀ c ∈ ds, c < 256) : ∀ j, ys.getD j 0 < 256 := by
  unfold applied at h
  cases hv : lim (vr 0 0 ds) with
  | short => rw [hv] at h; cases h
  | form => rw [hv] at h; cases h
  | ok n k =>
    rw [hv] at h
    simp only at h
    by_cases h1 : most < (n : Int)
    · rw [if_pos h1] at h; cases h
    · rw [if_neg h1] at h
      cases hl : lits n 0 (ds.drop k) with
      | bad f => rw [hl] at h; cases h
      | ok l =>
        rw [hl] at h
        simp only at h
        by_cases h2 : vb n ++ enc (folded n l) = ds
        · rw [if_pos h2] at h
          cases h
          exact mix_small hx (small_mem (fold_small l _ (fun c hc => by have := List.eq_of_mem_replicate hc; omega) (lits_small _ n 0 (ds.drop k) l (Nat.le_refl _) (fun c hc => hd c (List.mem_of_mem_drop hc)) hl)))
        · rw [if_neg h2] at h; cases h
set_option maxHeartbeats 8000000 in
set_option maxRecDepth 100000 in
theorem back (A B C : Option Addr) (c c2 c3 : Nat) (xs ys ds : List Nat) (h1 : xs.length ≤ 3000) (h2 : ys.length ≤ 3000) (h3 : ds.length ≤ 3000) (w : World) (hA : Bs w A xs.length xs) (hB : Bs w B ys.length ys) (hC : Bs w C ds.length ds) (hnil : C = none → ds.length = 0 ∧ c3 = 0) :
    Calls Try.prog 7 #[.slice A xs.length c, .slice B ys.length c2, .slice C ds.length c3] w fun e w' => e = .returned (.bool true) ∧ Ext w w' := by
  have HA := Lib.hid hA; have HB := Lib.hid hB; have HC := Lib.hid hC; have HNIL := Lib.hid hnil
  have hxs := mem_small hA.2.1
  have hys := mem_small hB.2.1
  have hds := mem_small hC.2.1
  have hd1 := diff_len xs ys h2
  have hd2 := diff_self ys h2
  have HAP := Lib.hid (applied_diff xs ys hxs hys (by omega))
  have HBK := Lib.hid (fun zs (h : applied xs ds 3000 = .ok zs) => back_applied hds h)
  have HS1 := Lib.hid (diff_small hA.2.1 hB.2.1)
  have HXB := Lib.hid hxs; have HYB := Lib.hid hys; have HDB := Lib.hid hds
  have HDF := Lib.hid (fun W (hA' : Bs W A xs.length xs) (hB' : Bs W B ys.length ys) => ddiff A B xs.length c ys.length c2 xs ys W hA' hB' (by omega) (by omega))
  have HDS := Lib.hid (fun W (hB' : Bs W B ys.length ys) => ddiff B B ys.length c2 ys.length c2 ys ys W hB' hB' (by omega) (by omega))
  clear hA hB hC hnil hxs hys hds
  generalize diff xs ys = D at *
  generalize diff ys ys = D2 at *
  have hq1 : (D.length : Int) ≤ (ys.length : Int) + 2 * ((ys.length : Int) / 5) + 12 := by omega
  have hq2 : ¬ (3 : Int) < (D2.length : Int) := by omega
  go_enter Try.func7, Try.ntmps7
  go_wp2_with fail
  refine (HDF.out _ HA.out HB.out).mono ?_
  rintro e w1 ⟨g1, k1, rfl, q1, q2, q3, hO1, hE1⟩
  have HO1 := Lib.hid (Own.bs hO1 HS1.out); have HE1 := Lib.hid hE1
  clear hO1 hE1 q1 q2 q3
  have HAC := Lib.hid (apply A (some ⟨g1, 0, none⟩) xs.length c D.length k1 xs D (ys.length : Nat) w1 (HA.out.ext HE1.out) HO1.out (fun e => by cases e) (by omega) (by omega) (by omega) (by omega))
  rw [HAP.out] at HAC
  go_wp2_with fail
  refine HAC.out.mono ?_
  rintro e w2 ⟨hE2, g2, rfl, hO2⟩
  have HO2 := Lib.hid (Own.bs hO2 (small_mem HYB.out))
  have HE2 := Lib.hid (ext_trans HE1.out hE2)
  clear hO2 hE2
  have c1 := conv8 HO2.out ys.length
  have c2' := conv8 (HB.out.ext HE2.out) c2
  go_wp2_with fail
  refine (HDS.out _ (HB.out.ext HE2.out)).mono ?_
  rintro e w3 ⟨g3, k3, rfl, q1, q2, q3, hO3, hE3⟩
  have HE3 := Lib.hid (ext_trans HE2.out hE3)
  clear hO3 hE3 q1 q2 q3 c1 c2' HAC
  have HN3 := Lib.hid (HNIL.out)
  have HAC := Lib.hid (apply A C xs.length c ds.length c3 xs ds 3000 w3 (HA.out.ext HE3.out) (HC.out.ext HE3.out) HNIL.out (by omega) (by omega) (by omega) (by omega))
  go_wp2_with fail
  refine HAC.out.mono ?_
  intro e w4 hap
  obtain ⟨hE4, hap⟩ := hap
  have HE4 := Lib.hid (ext_trans HE3.out hE4)
  clear hE4 HAC
  cases hR : applied xs ds 3000 with
  | bad f =>
    rw [hR] at hap
    obtain ⟨rfl, hf⟩ := hap
    have hf3 : (f != 0) = true := by rw [bne_iff_ne]; exact hf
    clear hR hf
    go_wp2_with fail
    refine (wakes _).mono ?_
    rintro e w5 ⟨rfl, b5⟩
    go_wp2_with fail
    go_ret
    exact ⟨rfl, ext_trans HE4.out b5⟩
  | ok zs =>
    rw [hR] at hap
    obtain ⟨g4, rfl, hO4⟩ := hap
    obtain ⟨hbk1, hbk2⟩ := HBK.out zs hR
    have HZS : Hid (∀ j, zs.getD j 0 < 256) := Lib.hid (applied_small HA.out.2.1 hR HDB.out)
    have HBZ := Lib.hid (Own.bs hO4 HZS.out)
    have HD4 := Lib.hid (fun W (hA' : Bs W A xs.length xs) (hB' : Bs W (some ⟨g4, 0, none⟩) zs.length zs) => ddiff A (some ⟨g4, 0, none⟩) xs.length c zs.length zs.length xs zs W hA' hB' (by omega) (by omega))
    rw [hbk1] at HD4
    have HDD := Lib.hid HC.out.2.1
    have MKS := Lib.hid (fun (w' : World) (e : Ext w4 w') => conv8 (HC.out.ext (ext_trans HE4.out e)) c3)
    have E0 := Lib.hid (ext_drew (Ext.rfl' w4))
    clear hR hO4 hbk1
    go_wp2_with fail
    have cc := MKS.out _ E0.out
    have HE := Lib.hid E0.out
    go_region_with (first
      | (go_at_call 31; refine (HD4.out _ (HA.out.ext (ext_trans HE4.out HE.out)) (HBZ.out.ext HE.out)).mono ?_; rintro e w8 ⟨g8, k8, rfl, q1, q2, q3, hO8, b8⟩; have c8 := conv8 (Own.bs hO8 HDD.out) k8; have HE2 := Lib.hid (ext_trans HE.out b8); clear hO8 q1 q2 q3 b8 HE cc; have HE := HE2; clear HE2; have cc := MKS.out _ HE.out)
      | (go_at_call 30; refine (wakes _).mono ?_; rintro e w7 ⟨rfl, b7⟩))
    all_goals
      go_wp2_with fail
      go_ret
      exact ⟨rfl, ext_trans (ext_trans HE4.out HE.out) b7⟩
end Go.Proofs.Ytodmjkhfckokhaa.Delta
