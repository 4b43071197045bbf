
import Derived.Test.YtidnboeihkeljaaGreatDoorLzG
import Derived.WalkMore
import Derived.BigQuiet
import Derived.Deep.DeepCutAuto
import Derived.RangeFuncBox
import Derived.RangeFuncNested
set_option maxHeartbeats 16000000
set_option maxRecDepth 100000
set_option linter.all false
namespace Go.Proofs.YtidnboeihkeljaaGreatDoor.Lz
open Go.ChangeShapes Go.WideShapes Go.ChangeAt Go.RowKit
open Wire Go.Proofs.YtidnboeihkeljaaGreatDoor.Map32
def mtU (xs : List Nat) (f a : Nat) : Nat → Nat
 | 0 => 0
 | k + 1 => if mtU xs f a k = k ∧ xs.getD (f + k) 0 = xs.getD (a + k) 0 then k + 1 else mtU xs f a k
theorem mtU_le (xs : List Nat) (f a k : Nat) : mtU xs f a k ≤ k := by
 induction k with
 | zero => exact Nat.le_refl _
 | succ k ih => rw [mtU]; split <;> omega
theorem mtU_ge {xs : List Nat} {f a : Nat} : ∀ k n, n ≤ k → (∀ j, j < n → xs.getD (f + j) 0 = xs.getD (a + j) 0) → n ≤ mtU xs f a k
 | 0, n, h, _ => by omega
 | k + 1, n, h, he => by
  rw [mtU]
  by_cases hn : n = k + 1
  ·have h1 := mtU_ge k k (Nat.le_refl _) (fun j hj => he j (by omega))
   have h2 := mtU_le xs f a k
   rw [if_pos ⟨by omega, he k (by omega)⟩]; omega
  ·have h1 := mtU_ge k n (by omega) he
   split <;> omega
theorem mtU_eq {xs : List Nat} {f a : Nat} : ∀ k j, j < mtU xs f a k → xs.getD (f + j) 0 = xs.getD (a + j) 0
 | 0, j, h => by rw [mtU] at h; omega
 | k + 1, j, h => by
  rw [mtU] at h
  split at h
  ·rename_i hc
   by_cases hj : j = k
   ·rw [hj]; exact hc.2
   ·exact mtU_eq k j (by rw [hc.1]; omega)
  ·exact mtU_eq k j h
def mt (xs : List Nat) (f a : Nat) : Nat := mtU xs f a (min 66 (xs.length - a))
theorem mt_le (xs : List Nat) (f a : Nat) : mt xs f a ≤ min 66 (xs.length - a) := mtU_le _ _ _ _
theorem mt_most {xs : List Nat} {f a n : Nat} (hn : n = min 66 (xs.length - a)) (h : ∀ j, j < n → xs.getD (f + j) 0 = xs.getD (a + j) 0) : mt xs f a = n := by
 have h1 := mtU_ge (min 66 (xs.length - a)) n (by omega) h
 have h2 := mt_le xs f a
 unfold mt at h2 ⊢; omega
theorem mt_stop {xs : List Nat} {f a n : Nat} (hn : n ≤ min 66 (xs.length - a)) (h : ∀ j, j < n → xs.getD (f + j) 0 = xs.getD (a + j) 0) (hne : xs.getD (f + n) 0 ≠ xs.getD (a + n) 0) : mt xs f a = n := by
 have h1 := mtU_ge (min 66 (xs.length - a)) n hn h
 have h2 : ¬ n < mtU xs f a (min 66 (xs.length - a)) := fun h' => hne (mtU_eq _ _ h')
 unfold mt; omega
def pick (xs : List Nat) (a : Nat) (s : Nat × Nat) (f : Nat) : Nat × Nat := if s.2 < mt xs f a then (a - f, mt xs f a) else s
def scan (xs : List Nat) (a : Nat) (zs : List Nat) : Nat × Nat := zs.foldl (pick xs a) (0, 0)
def mask (s : Nat × Nat) : Nat × Nat := if s.2 = 3 ∧ 128 < s.1 then (0, 0) else s
def bst (xs : List Nat) (a : Nat) : Nat × Nat := if a + 3 ≤ xs.length then mask (scan xs a (seen xs a (key xs a)).reverse) else (0, 0)
theorem scan_snoc (xs : List Nat) (a : Nat) (zs : List Nat) (f : Nat) : scan xs a (zs ++ [f]) = pick xs a (scan xs a zs) f := by simp [scan]
theorem scan_most {xs : List Nat} {a : Nat} : ∀ (l : List Nat) (s : Nat × Nat), s.2 = min 66 (xs.length - a) → l.foldl (pick xs a) s = s
 | [], s, h => rfl
 | f :: l, s, h => by
  have h1 := mt_le xs f a
  rw [List.foldl_cons, show pick xs a s f = s from if_neg (by omega)]
  exact scan_most l s h
theorem scan_app {xs : List Nat} {a : Nat} {zs l : List Nat} (h : (scan xs a zs).2 = min 66 (xs.length - a)) : scan xs a (zs ++ l) = scan xs a zs := by
 unfold scan at h ⊢
 rw [List.foldl_append]; exact scan_most l _ h
theorem scan_le {xs : List Nat} {a : Nat} (zs : List Nat) (hz : ∀ f ∈ zs, a ≤ f + 4096) : (scan xs a zs).1 ≤ 4096 ∧ (scan xs a zs).2 ≤ 66 := by
 have : ∀ (l : List Nat) (s : Nat × Nat), s.1 ≤ 4096 → s.2 ≤ 66 → (∀ f ∈ l, a ≤ f + 4096) → (l.foldl (pick xs a) s).1 ≤ 4096 ∧ (l.foldl (pick xs a) s).2 ≤ 66 := by
  intro l
  induction l with
  | nil => intro s h1 h2 _; exact ⟨h1, h2⟩
  | cons f l ih =>
   intro s h1 h2 h3
   rw [List.foldl_cons]
   have hm := mt_le xs f a
   have hf := h3 f (List.mem_cons_self)
   apply ih
   ·unfold pick; split
    ·show a - f ≤ 4096; omega
    ·exact h1
   ·unfold pick; split
    ·show mt xs f a ≤ 66; omega
    ·exact h2
   ·exact fun g hg => h3 g (List.mem_cons_of_mem _ hg)
 exact this zs (0, 0) (by simp) (by simp) hz
theorem rev_drop {zs : List Nat} {k : Nat} (h : k < zs.length) : (zs.drop k).reverse = (zs.drop (k + 1)).reverse ++ [zs.getD k 0] := by
 rw [List.drop_eq_getElem_cons h, List.reverse_cons, List.getD_eq_getElem?_getD, List.getElem?_eq_getElem h]; rfl
theorem rev_take (zs : List Nat) (k : Nat) : zs.reverse = (zs.drop k).reverse ++ (zs.take k).reverse := by
 rw [← List.reverse_append, List.take_append_drop]
end Go.Proofs.YtidnboeihkeljaaGreatDoor.Lz
namespace Go.Proofs.YtidnboeihkeljaaGreatDoor.Lz
open Go.ChangeShapes Go.WideShapes Go.ChangeAt Go.RowKit
open Wire Go.Proofs.YtidnboeihkeljaaGreatDoor.Map32

theorem bs_cell {w : World} {b o n j : Nat} {xs : List Nat} (h : Bs w (some ⟨b, o, none⟩) n xs) (hj : j < n) : w.cell? ⟨b, o + j, none⟩ = some (.int .u8 (xs.getD j 0 : Nat)) := by
 obtain ⟨b', o', e, _, hc⟩ := h.2.2 (by omega)
 obtain ⟨rfl, rfl, _⟩ := Addr.mk.inj (Option.some.inj e)
 exact hc j hj
def BPost2 (w : World) (s : Nat × Nat) (e : Ending) (w' : World) : Prop := e = .returned (.tuple #[.int .i64 (s.1 : Int), .int .i64 (s.2 : Int)]) ∧ Ext w w'
def BRel (w : World) (xs : List Nat) (p : Nat) (zs : List Nat) (bv lv iv : Value) (wr : World) : Prop :=
 ∃ k : Nat, k ≤ zs.length ∧ iv = .int .i64 ((k : Int) - 1) ∧ bv = .int .i64 ((scan xs p (zs.drop k).reverse).1 : Nat) ∧ lv = .int .i64 ((scan xs p (zs.drop k).reverse).2 : Nat) ∧ Ext w wr
def NRel2 (w : World) (xs : List Nat) (p f most : Nat) (nv : Value) (wr : World) : Prop :=
 ∃ n : Nat, n ≤ most ∧ nv = .int .i64 (n : Int) ∧ (∀ j, j < n → xs.getD (f + j) 0 = xs.getD (p + j) 0) ∧ Ext w wr
theorem best (A : Option Addr) (N c p base b : Nat) (xs : List Nat) (M : Nat → Option Value) (w : World) (hB : Bs w A N xs) (hG : Groups w base 3 b M (seen xs p)) (hp : p < N) (hN : N ≤ 1000000) :
  Calls Tryz.prog 126 #[.slice A N c, .int .i64 (p : Int), .map (some b)] w (BPost2 w (bst xs p)) := by
 have hxl : xs.length = N := hB.1
 obtain ⟨bb, oo, rfl, _, _⟩ := hB.2.2 (by omega)
 obtain ⟨R, hR⟩ : ∃ R, R = bst xs p := ⟨_, rfl⟩
 rw [← hR]
 have HR := Lib.hid hR; clear hR
 have HB := Lib.hid hB; have HG := Lib.hid hG; have HXL := Lib.hid hxl
 clear hB hG hxl
 go_enter Tryz.func126, Tryz.ntmps126
 go_wp2_with fail
 go_step3
 go_wp2_with fail
 by_cases h3 : p + 3 ≤ N
 ·refine (three_yes _ N c p xs _ HB.out hN h3).mono ?_
  rintro e w1 ⟨rfl, b1⟩
  have HG1 := Lib.hid (HG.out.ext b1)
  have HE1 := Lib.hid b1
  have HB1 := Lib.hid (HB.out.ext b1)
  have HRB : Hid (R = mask (scan xs p (seen xs p (key xs p)).reverse)) := Lib.hid (by rw [HR.out]; exact if_pos (by rw [HXL.out]; exact h3))
  have HSM := Lib.hid (fun f (h : f ∈ seen xs p (key xs p)) => seen_mem h)
  have HKI := Lib.hid (fun f => (key_inj HB.out.2.1 (p := f) (q := p)).1)
  have hn16 := seen_len xs p (key xs p)
  clear b1
  rcases HG1.out.look (key xs p) with ⟨hv, hs0⟩ | ⟨hv, hs0, hsl⟩
  ·have hrun := run_look (P := Tryz.prog) HG1.out.map Tryz.underlying198 Tryz.underlying22 (zeroRow w1) (key xs p)
   rw [hv] at hrun
   rw [hs0] at HRB
   clear hv hs0 HSM hn16
   generalize key xs p = k1 at *
   obtain ⟨mo, hmo⟩ : ∃ mo, mo = min 66 (N - p) := ⟨_, rfl⟩
   have hmo1 : mo ≤ 66 := by omega
   have hmo2 : 3 ≤ mo := by omega
   have hmo3 : p + mo ≤ N := by omega
   go_upto_region 5 with fail
   go_cut [11] (fun mv wx => mv = .int .i64 (mo : Int) ∧ w1 = wx)
   case first =>
    by_cases hm : 66 ≤ N - p
    ·have hm1 : (66 : Int) ≤ (N : Int) - (p : Int) := by omega
     go_wp2_with fail
     go_meet
     exact ⟨int_eq (by omega), rfl⟩
    ·have hm1 : (N : Int) - (p : Int) < 66 := by omega
     go_wp2_with fail
     go_meet
     exact ⟨int_eq (by omega), rfl⟩
   case rest =>
   obtain ⟨rfl, rfl⟩ := hcut
   have HMO := Lib.hid hmo; clear hmo hrun
   go_wp2_with fail
   go_step3
   go_wp2_with fail
   go_loopw [12, 13, 14] (fun bv lv iv wr => bv = .int .i64 0 ∧ lv = .int .i64 0 ∧ iv = .int .i64 (-1) ∧ Ext w wr) (fun _ _ iv wr => (intOf iv + 1).toNat)
   case atStart => exact ⟨rfl, rfl, rfl, HE1.out⟩
   case round =>
    obtain ⟨rfl, rfl, rfl, hE⟩ := hrel
    have HE := Lib.hid hE; clear hE
    go_wp2_with fail
    rw [Exit.noGoto_ret]
    go_ret2
    exact ⟨by rw [HRB.out]; rfl, HE.out⟩
  ·obtain ⟨g, o, cap, hve, hc1, hc2, hgb⟩ := hsl.shape
   have hrun := run_look (P := Tryz.prog) HG1.out.map Tryz.underlying198 Tryz.underlying22 (zeroRow w1) (key xs p)
   rw [hve] at hrun hsl
   clear hv hve hs0
   generalize hzs : seen xs p (key xs p) = zs at *
   generalize hk1 : key xs p = k1 at *
   have HK1 := Lib.hid hk1; have HSL := Lib.hid hsl
   clear hk1 hzs hsl
   obtain ⟨mo, hmo⟩ : ∃ mo, mo = min 66 (N - p) := ⟨_, rfl⟩
   have hmo1 : mo ≤ 66 := by omega
   have hmo2 : 3 ≤ mo := by omega
   have hmo3 : p + mo ≤ N := by omega
   go_upto_region 5 with fail
   go_cut [11] (fun mv wx => mv = .int .i64 (mo : Int) ∧ w1 = wx)
   case first =>
    by_cases hm : 66 ≤ N - p
    ·have hm1 : (66 : Int) ≤ (N : Int) - (p : Int) := by omega
     go_wp2_with fail
     go_meet
     exact ⟨int_eq (by omega), rfl⟩
    ·have hm1 : (N : Int) - (p : Int) < 66 := by omega
     go_wp2_with fail
     go_meet
     exact ⟨int_eq (by omega), rfl⟩
   case rest =>
   obtain ⟨rfl, rfl⟩ := hcut
   have HMO := Lib.hid hmo; clear hmo hrun
   go_wp2_with fail
   go_step3
   go_wp2_with fail
   go_loopw [12, 13, 14] (fun bv lv iv wr => BRel w1 xs p zs bv lv iv wr) (fun _ _ iv wr => (intOf iv + 1).toNat)
   case atStart => exact ⟨zs.length, Nat.le_refl _, rfl, by rw [List.drop_length]; rfl, by rw [List.drop_length]; rfl, Ext.rfl' _⟩
   case round =>
    obtain ⟨k, hk, rfl, rfl, rfl, hE⟩ := hrel
    have HE := Lib.hid hE; clear hE
    have hsl2 := scan_le (xs := xs) (a := p) (zs.drop k).reverse (fun f hf => (HSM.out f (List.mem_of_mem_drop (List.mem_reverse.1 hf))).2.1)
    obtain ⟨B, L, hBL⟩ : ∃ B L, scan xs p (zs.drop k).reverse = (B, L) := ⟨_, _, rfl⟩
    rw [hBL] at hsl2 ⊢
    simp only at hsl2 ⊢
    obtain ⟨hB4, hL6⟩ := hsl2
    have HSC := Lib.hid hBL; clear hBL
    cases k with
    | zero =>
     have HRF : Hid (R = mask (B, L)) := Lib.hid (by rw [HRB.out, ← HSC.out, List.drop_zero])
     simp only [Int.ofNat_zero, Int.zero_sub]
     by_cases hL : L = 3
     ·have z1 : ((L : Int) == 3) = true := beq_iff_eq.2 (by omega)
      by_cases hBk : 128 < B
      ·have z2 : (128 : Int) < (B : Int) := by omega
       have HRZ : Hid (R = (0, 0)) := Lib.hid (by rw [HRF.out]; exact if_pos ⟨hL, hBk⟩)
       clear hL
       go_wp2_with fail
       try rw [Exit.noGoto_ret]
       go_ret2
       exact ⟨by rw [HRZ.out]; rfl, ext_trans HE1.out HE.out⟩
      ·have z2 : ¬ (128 : Int) < (B : Int) := by omega
       have HRZ : Hid (R = (B, L)) := Lib.hid (by rw [HRF.out]; exact if_neg (fun h => hBk h.2))
       clear hL
       go_wp2_with fail
       try rw [Exit.noGoto_ret]
       go_ret2
       exact ⟨by rw [HRZ.out]; rfl, ext_trans HE1.out HE.out⟩
     ·have z1 : ((L : Int) == 3) = false := beq_eq_false_iff_ne.2 (by omega)
      have HRZ : Hid (R = (B, L)) := Lib.hid (by rw [HRF.out]; exact if_neg (fun h => hL h.1))
      clear hL
      go_wp2_with fail
      try rw [Exit.noGoto_ret]
      go_ret2
      exact ⟨by rw [HRZ.out]; rfl, ext_trans HE1.out HE.out⟩
    | succ k =>
     have hkl : k < zs.length := hk
     have hfm : zs.getD k 0 ∈ zs := by rw [List.getD_eq_getElem?_getD, List.getElem?_eq_getElem hkl]; exact List.getElem_mem _
     obtain ⟨f1, f2, f3, f4⟩ := HSM.out _ hfm
     have c0 := (HSL.out.ext HE.out).cells k hkl
     have f0 := (HSL.out.ext HE.out).frozen k hkl
     have k0 : (0 : Int) ≤ ((k + 1 : Nat) : Int) - 1 := by omega
     have k1' : ((k + 1 : Nat) : Int) - 1 < (zs.length : Int) := by omega
     have k2 : (((k + 1 : Nat) : Int) - 1).toNat = k := by omega
     have hki := HKI.out (zs.getD k 0) f4
     obtain ⟨f, hf⟩ : ∃ f, f = zs.getD k 0 := ⟨_, rfl⟩
     rw [← hf] at f1 f2 f3 f4 c0 hki
     have HF := Lib.hid hf; have HKE := Lib.hid hki
     clear hf hfm hki f4
     have k3 : ¬ (4096 : Int) < (p : Int) - (f : Int) := by omega
     go_wp2_with fail
     go_loopw [16] (fun nv wr2 => NRel2 w1 xs p f (mo) nv wr2) (fun nv wr2 => 66 - (intOf nv).toNat)
     case atStart => exact ⟨3, by omega, rfl, fun j hj => by
      obtain ⟨a0, a1, a2⟩ := HKE.out
      rcases (show j = 0 ∨ j = 1 ∨ j = 2 by omega) with rfl | rfl | rfl
      ·simpa using a0
      ·exact a1
      ·exact a2, HE.out⟩
     case round =>
      obtain ⟨n, hn, rfl, hj, hE2⟩ := hrel
      have HJ := Lib.hid hj; have HE2 := Lib.hid hE2
      have hn66 : n ≤ 66 := by omega
      clear hj hE2
      go_wp2_with fail
      have hE3 : ∀ m, Ext w1 (wr.drewN m) := fun m => ext_drewN HE2.out m
      by_cases hlt : n < mo
      ·have z0 : (n : Int) < (mo : Int) := by omega
       have qa := bs_cell (HB1.out.ext HE2.out) (j := f + n) (by omega)
       have qb := bs_cell (HB1.out.ext HE2.out) (j := p + n) (by omega)
       have HST := Lib.hid (fun h => mt_stop (xs := xs) (f := f) (a := p) (n := n) (by rw [HXL.out, ← HMO.out]; exact hn) HJ.out h)
       have s1 : (0 : Int) ≤ (f : Int) + (n : Int) := by omega
       have s2 : (f : Int) + (n : Int) < (N : Int) := by omega
       have s3 : ((f : Int) + (n : Int)).toNat = f + n := by omega
       have s4 : (0 : Int) ≤ (p : Int) + (n : Int) := by omega
       have s5 : (p : Int) + (n : Int) < (N : Int) := by omega
       have s6 : ((p : Int) + (n : Int)).toNat = p + n := by omega
       by_cases heq : xs.getD (f + n) 0 = xs.getD (p + n) 0
       ·have HJ2 : Hid (∀ j, j < n + 1 → xs.getD (f + j) 0 = xs.getD (p + j) 0) := Lib.hid (fun j hj => by
         by_cases h : j = n
         ·rw [h]; exact heq
         ·exact HJ.out j (by omega))
        generalize xs.getD (f + n) 0 = x at *
        generalize xs.getD (p + n) 0 = y at *
        have z5 : ((x : Int) == (y : Int)) = true := beq_iff_eq.2 (by omega)
        go_quiet (fail)
        clear s1 s2 s3 s4 s5 s6
        go_wp2_with fail
        exact ⟨⟨n + 1, by omega, by go_num, HJ2.out, hE3 _⟩, by simp only [intOf]; omega⟩
       ·have hnm := HST.out heq
        clear HST
        generalize xs.getD (f + n) 0 = x at *
        generalize xs.getD (p + n) 0 = y at *
        have z5 : ((x : Int) == (y : Int)) = false := beq_eq_false_iff_ne.2 (by omega)
        go_quiet (fail)
        clear s1 s2 s3 s4 s5 s6 hlt qa qb
        have HNM : Hid (mt xs f p = n) := Lib.hid hnm
        clear hnm
        have HPK : Hid (scan xs p (zs.drop k).reverse = if L < n then (p - f, n) else (B, L)) := Lib.hid (by rw [rev_drop hkl, ← HF.out, scan_snoc, HSC.out]; unfold pick; rw [HNM.out])
        have HE3 := Lib.hid hE3; clear hE3
        by_cases hle : n ≤ L
        ·have z1 : (n : Int) ≤ (L : Int) := by omega
         go_wp2_with fail
         go_roundw
         case rel => exact ⟨k, by omega, by go_num, by rw [HPK.out, if_neg (by omega)], by rw [HPK.out, if_neg (by omega)], (HE3.out _)⟩
         case measure => simp only [intOf]; omega
        ·have z1 : ¬ (n : Int) ≤ (L : Int) := by omega
         have z3 : ((p : Int) - (f : Int)) = ((p - f : Nat) : Int) := by omega
         by_cases hmost : n = mo
         ·have z2 : ((n : Int) == (mo : Int)) = true := beq_iff_eq.2 (by omega)
          obtain ⟨B2, hB2⟩ : ∃ B2, B2 = p - f := ⟨_, rfl⟩
          have z4 : ((p : Int) - (f : Int)) = (B2 : Int) := by omega
          have hB3 : B2 ≤ 4096 := by omega
          have HRF : Hid (R = mask (B2, n)) := Lib.hid (by
           rw [HRB.out, rev_take zs k, scan_app (by rw [HPK.out, if_pos (by omega), HXL.out, ← HMO.out]; exact hmost), HPK.out, if_pos (by omega), hB2])
          clear z3 hB2 hmost
          by_cases hL : n = 3
          ·have y1 : ((n : Int) == 3) = true := beq_iff_eq.2 (by omega)
           by_cases hBk : 128 < B2
           ·have y2 : (128 : Int) < (p : Int) - (f : Int) := by omega
            have HRZ : Hid (R = (0, 0)) := Lib.hid (by rw [HRF.out]; exact if_pos ⟨hL, hBk⟩)
            clear hL
            go_wp2_with fail
            try rw [Exit.noGoto_ret]
            go_ret2
            exact ⟨by rw [HRZ.out]; rfl, ext_trans HE1.out (HE3.out _)⟩
           ·have y2 : ¬ (128 : Int) < (p : Int) - (f : Int) := by omega
            have HRZ : Hid (R = (B2, n)) := Lib.hid (by rw [HRF.out]; exact if_neg (fun h => hBk h.2))
            have HZ4 := Lib.hid z4; clear z4 hL
            go_wp2_with fail
            try rw [Exit.noGoto_ret]
            go_ret2
            exact ⟨by rw [HRZ.out, HZ4.out]; rfl, ext_trans HE1.out (HE3.out _)⟩
          ·have y1 : ((n : Int) == 3) = false := beq_eq_false_iff_ne.2 (by omega)
           have HRZ : Hid (R = (B2, n)) := Lib.hid (by rw [HRF.out]; exact if_neg (fun h => hL h.1))
           have HZ4 := Lib.hid z4; clear z4 hL
           go_wp2_with fail
           try rw [Exit.noGoto_ret]
           go_ret2
           exact ⟨by rw [HRZ.out, HZ4.out]; rfl, ext_trans HE1.out (HE3.out _)⟩
         ·have z2 : ((n : Int) == (mo : Int)) = false := beq_eq_false_iff_ne.2 (by omega)
          have HZ3 := Lib.hid z3; clear z3 hmost
          go_wp2_with fail
          go_roundw
          case rel => exact ⟨k, by omega, by go_num, by rw [HPK.out, if_pos (by omega), HZ3.out], by rw [HPK.out, if_pos (by omega)], (HE3.out _)⟩
          case measure => simp only [intOf]; omega
      ·have z0 : decide ((n : Int) < (mo : Int)) = false := decide_eq_false (by omega)
       have hnm := mt_most (xs := xs) (f := f) (a := p) (n := n) (by rw [HXL.out, ← HMO.out]; omega) HJ.out
       go_quiet (fail)
       have HNM : Hid (mt xs f p = n) := Lib.hid hnm
       clear hnm
       have HPK : Hid (scan xs p (zs.drop k).reverse = if L < n then (p - f, n) else (B, L)) := Lib.hid (by rw [rev_drop hkl, ← HF.out, scan_snoc, HSC.out]; unfold pick; rw [HNM.out])
       have HE3 := Lib.hid hE3; clear hE3
       by_cases hle : n ≤ L
       ·have z1 : (n : Int) ≤ (L : Int) := by omega
        go_wp2_with fail
        go_roundw
        case rel => exact ⟨k, by omega, by go_num, by rw [HPK.out, if_neg (by omega)], by rw [HPK.out, if_neg (by omega)], (HE3.out _)⟩
        case measure => simp only [intOf]; omega
       ·have z1 : ¬ (n : Int) ≤ (L : Int) := by omega
        have z3 : ((p : Int) - (f : Int)) = ((p - f : Nat) : Int) := by omega
        by_cases hmost : n = mo
        ·have z2 : ((n : Int) == (mo : Int)) = true := beq_iff_eq.2 (by omega)
         obtain ⟨B2, hB2⟩ : ∃ B2, B2 = p - f := ⟨_, rfl⟩
         have z4 : ((p : Int) - (f : Int)) = (B2 : Int) := by omega
         have hB3 : B2 ≤ 4096 := by omega
         have HRF : Hid (R = mask (B2, n)) := Lib.hid (by
          rw [HRB.out, rev_take zs k, scan_app (by rw [HPK.out, if_pos (by omega), HXL.out, ← HMO.out]; exact hmost), HPK.out, if_pos (by omega), hB2])
         clear z3 hB2 hmost
         by_cases hL : n = 3
         ·have y1 : ((n : Int) == 3) = true := beq_iff_eq.2 (by omega)
          by_cases hBk : 128 < B2
          ·have y2 : (128 : Int) < (p : Int) - (f : Int) := by omega
           have HRZ : Hid (R = (0, 0)) := Lib.hid (by rw [HRF.out]; exact if_pos ⟨hL, hBk⟩)
           clear hL
           go_wp2_with fail
           try rw [Exit.noGoto_ret]
           go_ret2
           exact ⟨by rw [HRZ.out]; rfl, ext_trans HE1.out (HE3.out _)⟩
          ·have y2 : ¬ (128 : Int) < (p : Int) - (f : Int) := by omega
           have HRZ : Hid (R = (B2, n)) := Lib.hid (by rw [HRF.out]; exact if_neg (fun h => hBk h.2))
           have HZ4 := Lib.hid z4; clear z4 hL
           go_wp2_with fail
           try rw [Exit.noGoto_ret]
           go_ret2
           exact ⟨by rw [HRZ.out, HZ4.out]; rfl, ext_trans HE1.out (HE3.out _)⟩
         ·have y1 : ((n : Int) == 3) = false := beq_eq_false_iff_ne.2 (by omega)
          have HRZ : Hid (R = (B2, n)) := Lib.hid (by rw [HRF.out]; exact if_neg (fun h => hL h.1))
          have HZ4 := Lib.hid z4; clear z4 hL
          go_wp2_with fail
          try rw [Exit.noGoto_ret]
          go_ret2
          exact ⟨by rw [HRZ.out, HZ4.out]; rfl, ext_trans HE1.out (HE3.out _)⟩
        ·have z2 : ((n : Int) == (mo : Int)) = false := beq_eq_false_iff_ne.2 (by omega)
         have HZ3 := Lib.hid z3; clear z3 hmost
         go_wp2_with fail
         go_roundw
         case rel => exact ⟨k, by omega, by go_num, by rw [HPK.out, if_pos (by omega), HZ3.out], by rw [HPK.out, if_pos (by omega)], (HE3.out _)⟩
         case measure => simp only [intOf]; omega
 ·refine (three_no _ N c (p : Int) _ hN (by omega) (by omega) (.inr (by omega))).mono ?_
  rintro e w3 ⟨rfl, rfl⟩
  have HRB : Hid (R = (0, 0)) := Lib.hid (by rw [HR.out]; exact if_neg (by rw [HXL.out]; exact h3))
  go_wp2_with fail
  rw [Exit.noGoto_ret]
  go_ret2
  exact ⟨by rw [HRB.out]; rfl, Ext.rfl' _⟩
end Go.Proofs.YtidnboeihkeljaaGreatDoor.Lz
namespace Go.Proofs.YtidnboeihkeljaaGreatDoor.Lz
open Go.ChangeShapes Go.WideShapes Go.ChangeAt Go.RowKit
open Wire Go.Proofs.YtidnboeihkeljaaGreatDoor.Map32
def litT (l : List Nat) : List Nat :=
 if h : l = [] then [] else (2 * (min 64 l.length - 1)) :: (l.take (min 64 l.length) ++ litT (l.drop (min 64 l.length)))
termination_by l.length
decreasing_by
 have : 0 < l.length := List.length_pos_iff.2 h
 rw [List.length_drop]; omega
theorem litT_nil : litT [] = [] := by rw [litT]; simp
theorem litT_step {l : List Nat} (h : 0 < l.length) : litT l = (2 * (min 64 l.length - 1)) :: (l.take (min 64 l.length) ++ litT (l.drop (min 64 l.length))) := by
 rw [litT, dif_neg (List.length_pos_iff.1 h)]
theorem litT_len : ∀ (n : Nat) (l : List Nat), l.length = n → (litT l).length = l.length + (l.length + 63) / 64 := by
 intro n
 induction n using Nat.strongRecOn with
 | ind n ih =>
  intro l hl
  by_cases h : 0 < l.length
  ·rw [litT_step h, List.length_cons, List.length_append, List.length_take, ih (l.drop (min 64 l.length)).length (by rw [List.length_drop]; omega) _ rfl, List.length_drop]
   omega
  ·obtain rfl : l = [] := List.eq_nil_of_length_eq_zero (by omega)
   rw [litT_nil]; rfl
theorem litT_small : ∀ (n : Nat) (l : List Nat), l.length = n → (∀ c ∈ l, c < 256) → ∀ c ∈ litT l, c < 256 := by
 intro n
 induction n using Nat.strongRecOn with
 | ind n ih =>
  intro l hl hs
  by_cases h : 0 < l.length
  ·rw [litT_step h]
   intro c hc
   rcases List.mem_cons.1 hc with rfl | hc
   ·omega
   ·rcases List.mem_append.1 hc with hc | hc
    ·exact hs c (List.mem_of_mem_take hc)
    ·exact ih (l.drop (min 64 l.length)).length (by rw [List.length_drop]; omega) _ rfl (fun c hc => hs c (List.mem_of_mem_drop hc)) c hc
  ·obtain rfl : l = [] := List.eq_nil_of_length_eq_zero (by omega)
   rw [litT_nil]; intro c hc; cases hc
def Good (xs : List Nat) (a : Nat) (s : Nat × Nat) : Prop :=
 s = (0, 0) ∨ (3 ≤ s.2 ∧ s.2 ≤ 66 ∧ a + s.2 ≤ xs.length ∧ 1 ≤ s.1 ∧ s.1 ≤ 4096 ∧ s.1 ≤ a ∧ ∀ j, j < s.2 → xs.getD (a - s.1 + j) 0 = xs.getD (a + j) 0)
theorem pick_good {xs : List Nat} {a f : Nat} {s : Nat × Nat} (h : Good xs a s) (hf : f < a) (hw : a ≤ f + 4096) (hm : 3 ≤ mt xs f a) : Good xs a (pick xs a s f) := by
 unfold pick
 split
 ·have h1 := mt_le xs f a
  refine .inr ⟨hm, by simp only; omega, by simp only; omega, by simp only; omega, by simp only; omega, by simp only; omega, fun j hj => ?_⟩
  simp only at hj ⊢
  rw [show a - (a - f) + j = f + j from by omega]
  exact mtU_eq _ j hj
 ·exact h
theorem scan_good {xs : List Nat} {a : Nat} : ∀ (l : List Nat) (s : Nat × Nat), Good xs a s → (∀ f ∈ l, f < a ∧ a ≤ f + 4096 ∧ 3 ≤ mt xs f a) → Good xs a (l.foldl (pick xs a) s)
 | [], s, h, _ => h
 | f :: l, s, h, hl => by
  obtain ⟨h1, h2, h3⟩ := hl f List.mem_cons_self
  exact scan_good l _ (pick_good h h1 h2 h3) (fun g hg => hl g (List.mem_cons_of_mem _ hg))
theorem seen_mt {xs : List Nat} (hx : ∀ j, xs.getD j 0 < 256) {a f : Nat} (ha : a + 3 ≤ xs.length) (h : f ∈ seen xs a (key xs a)) : f < a ∧ a ≤ f + 4096 ∧ 3 ≤ mt xs f a := by
 obtain ⟨h1, h2, h3, h4⟩ := seen_mem h
 obtain ⟨e0, e1, e2⟩ := (key_inj hx).1 h4
 refine ⟨h1, h2, mtU_ge _ 3 (by omega) (fun j hj => ?_)⟩
 rcases (show j = 0 ∨ j = 1 ∨ j = 2 by omega) with rfl | rfl | rfl
 ·simpa using e0
 ·exact e1
 ·exact e2
theorem bst_good {xs : List Nat} (hx : ∀ j, xs.getD j 0 < 256) (a : Nat) : Good xs a (bst xs a) := by
 unfold bst
 by_cases ha : a + 3 ≤ xs.length
 ·rw [if_pos ha]
  have h := scan_good (xs := xs) (a := a) (seen xs a (key xs a)).reverse (0, 0) (.inl rfl) (fun f hf => seen_mt hx ha (List.mem_reverse.1 hf))
  unfold mask
  split
  ·exact .inl rfl
  ·exact h
 ·rw [if_neg ha]; exact .inl rfl
def pk (xs : List Nat) (told a : Nat) : List Nat :=
 if h : a < xs.length then
  if h2 : (bst xs a).2 = 0 then pk xs told (a + 1)
  else litT ((xs.drop told).take (a - told)) ++ ((2 * ((bst xs a).2 - 3) + 1) :: (vb ((bst xs a).1 - 1) ++ pk xs (a + (bst xs a).2) (a + (bst xs a).2)))
 else litT (xs.drop told)
termination_by xs.length - a
decreasing_by all_goals omega
theorem pk_end {xs : List Nat} {told a : Nat} (h : xs.length ≤ a) : pk xs told a = litT (xs.drop told) := by rw [pk, dif_neg (by omega)]
theorem pk_lit {xs : List Nat} {told a : Nat} (h : a < xs.length) (h2 : (bst xs a).2 = 0) : pk xs told a = pk xs told (a + 1) := by rw [pk, dif_pos h, dif_pos h2]
theorem pk_match {xs : List Nat} {told a : Nat} (h : a < xs.length) (h2 : ¬ (bst xs a).2 = 0) : pk xs told a = litT ((xs.drop told).take (a - told)) ++ ((2 * ((bst xs a).2 - 3) + 1) :: (vb ((bst xs a).1 - 1) ++ pk xs (a + (bst xs a).2) (a + (bst xs a).2))) := by
 conv => lhs; rw [pk]
 rw [dif_pos h, dif_neg h2]
end Go.Proofs.YtidnboeihkeljaaGreatDoor.Lz
namespace Go.Proofs.YtidnboeihkeljaaGreatDoor.Lz
open Go.ChangeShapes Go.WideShapes Go.ChangeAt Go.RowKit Go.Shelf
open Wire Go.Proofs.YtidnboeihkeljaaGreatDoor.Map32
structure Chg (base bt bo : Nat) (w w' : World) : Prop where
 os : w'.os = w.os
 tape : w'.tape = w.tape
 output : w'.output = w.output
 size : w.heap.size ≤ w'.heap.size
 block : ∀ k, k < w.heap.size → k ≠ bt → k ≠ bo → (k < base ∨ ∀ cs fr, w.heap[k]? ≠ some (Obj.cells cs 5 fr)) → w'.heap[k]? = w.heap[k]?
section
variable {base bt bo : Nat} {a b c w w' : World}
theorem Chg.refl (base bt bo : Nat) (w : World) : Chg base bt bo w w := ⟨rfl, rfl, rfl, Nat.le_refl _, fun _ _ _ _ _ => rfl⟩
theorem Chg.trans (h : Chg base bt bo a b) (k : Chg base bt bo b c) : Chg base bt bo a c :=
 ⟨k.os.trans h.os, k.tape.trans h.tape, k.output.trans h.output, Nat.le_trans h.size k.size, fun i hi h1 h2 h3 => by
  have e := h.block i hi h1 h2 h3
  refine (k.block i (Nat.lt_of_lt_of_le hi h.size) h1 h2 ?_).trans e
  rw [e]; exact h3⟩
theorem Chg.of_ext (e : Ext a b) : Chg base bt bo a b := ⟨e.os, e.tape, e.output, e.size, fun k hk _ _ _ => e.block k hk⟩
theorem own_cells {e : TypeId} {size n : Nat} {v : Value} {xs : List Value} (h : w.ownsRow base e size v n xs) : ∀ k, v.ownBlock = some k → base ≤ k ∧ ∃ cs fr, w.heap[k]? = some (Obj.cells cs e fr) := by
 intro k hk
 rcases h.2 with ⟨rfl, _⟩ | ⟨g, cap, cur, rfl, hb, hg, _⟩
 ·cases hk
 ·obtain rfl := Option.some.inj hk
  exact ⟨hb, cur, _, hg⟩
theorem Chg.of_row {v : Value} {n : Nat} {xs : List Value} (hr : a.ownsRow base 5 1 v n xs) (g : a.grownBy b v.ownBlock) : Chg base bt bo a b :=
 ⟨g.os, g.tape, g.output, g.size, fun k hk _ _ h => g.block k hk (fun e => by
  obtain ⟨h1, cs, fr, h2⟩ := own_cells hr k e.symm
  rcases h with h | h
  ·omega
  ·exact h cs fr h2)⟩
theorem Chg.of_set (B : Nat) (v : Value) (hB : B = bt ∨ B = bo) : Chg base bt bo a (a.setCell ⟨B, 0, none⟩ v) := by
 have g := grownBy_setCell' a B v
 exact ⟨g.os, g.tape, g.output, g.size, fun k hk h1 h2 _ => g.block k hk (fun e => by
  obtain rfl := Option.some.inj e
  rcases hB with h | h
  ·exact h1 h
  ·exact h2 h)⟩
theorem Chg.old (h : Chg base bt bo b c) (e : Ext a b) (h1 : a.heap.size ≤ bt) (h2 : a.heap.size ≤ bo) (h3 : a.heap.size ≤ base) : Ext a c :=
 ⟨h.os.trans e.os, h.tape.trans e.tape, h.output.trans e.output, Nat.le_trans e.size h.size, fun k hk =>
  (h.block k (Nat.lt_of_lt_of_le hk e.size) (by omega) (by omega) (.inl (by omega))).trans (e.block k hk)⟩
theorem Chg.bs {A : Option Addr} {n : Nat} {xs : List Nat} (h : Chg base bt bo w w') (hB : Bs w A n xs) (hA : ∀ ad, A = some ad → ad.block < bt ∧ ad.block < bo ∧ ad.block < base) : Bs w' A n xs := by
 refine ⟨hB.1, hB.2.1, fun h0 => ?_⟩
 obtain ⟨g, o, rfl, hg, hc⟩ := hB.2.2 h0
 refine ⟨g, o, rfl, Nat.lt_of_lt_of_le hg h.size, fun j hj => ?_⟩
 obtain ⟨h1, h2, h3⟩ := hA _ rfl
 simp only at h1 h2 h3
 rw [← hc j hj]
 exact World.cell?_of_block (h.block g hg (by omega) (by omega) (.inl h3))
end
structure Outs (w : World) (base bt bo bb told : Nat) (v sl : Value) (ys : List Nat) : Prop where
 t : Boxed w bt 3 (.int .i64 (told : Int))
 o : Boxed w bo 48 v
 b : Boxed w bb 48 sl
 r : w.ownsRow base 5 1 v ys.length (c8 ys)
def Apart (base bt bo bb : Nat) : Prop := bt ≠ bo ∧ bt ≠ bb ∧ bo ≠ bb ∧ bt < base ∧ bo < base ∧ bb < base
section
variable {w w' : World} {base bt bo bb told : Nat} {v sl : Value} {ys : List Nat}
theorem Outs.ext (h : Outs w base bt bo bb told v sl ys) (e : Ext w w') : Outs w' base bt bo bb told v sl ys :=
 ⟨(e.block _ h.t.lt).trans h.t, (e.block _ h.o.lt).trans h.o, (e.block _ h.b.lt).trans h.b, own_ext h.r e⟩
theorem Outs.keep (h : Outs w base bt bo bb told v sl ys) (hA : Apart base bt bo bb) (e : Keep base w w') : Outs w' base bt bo bb told v sl ys := by
 obtain ⟨_, _, _, h1, h2, h3⟩ := hA
 refine ⟨(e.low.block _ h1).trans h.t, (e.low.block _ h2).trans h.o, (e.low.block _ h3).trans h.b, ?_⟩
 rcases h.r with ⟨hl, hq | ⟨g, cap, cur, hv, hb, hg, hr⟩⟩
 ·exact ⟨hl, .inl hq⟩
 ·exact ⟨hl, .inr ⟨g, cap, cur, hv, hb, (e.rows g _ _ hg).trans hg, hr⟩⟩
theorem Groups.chg {b : Nat} {M : Nat → Option Value} {F : Nat → List Nat} (hG : Groups w base 3 b M F) (ht : bt < base) (ho : bo < base) (h : Chg base bt bo w w') : Groups w' base 3 b M F := by
 have key : ∀ k o, w.heap[k]? = some o → base ≤ k → (∀ cs fr, o ≠ Obj.cells cs 5 fr) → w'.heap[k]? = w.heap[k]? := by
  intro k o hk hb hne
  exact h.block k (Array.getElem?_eq_some_iff.1 hk).1 (by omega) (by omega) (.inr (fun cs fr e => by
   rw [hk] at e
   exact hne cs fr (Option.some.inj e)))
 obtain ⟨es, cl, L, hb, hE, hF⟩ := hG.map
 refine ⟨⟨es, cl, L, (key b _ hb hG.at_ (fun cs fr e => by cases e)).trans hb, hE, hF⟩, fun k => ?_, hG.apart, hG.at_⟩
 rcases hG.row k with h1 | ⟨u, h1, h2, h3⟩
 ·exact .inl h1
 ·refine .inr ⟨u, h1, h2, ?_⟩
  obtain ⟨g, o, cap, cur, rfl, hbg, hh, r⟩ := h3
  exact ⟨g, o, cap, cur, rfl, hbg, (key g _ hh hbg (fun cs fr e => by have := (Obj.cells.inj e).2.1; revert this; decide)).trans hh, r⟩
theorem Outs.put (h : Outs w base bt bo bb told v sl ys) (hA : Apart base bt bo bb) {w2 : World} {v' : Value} {zs : List Nat} (ho : w2.ownsRow base 5 1 v' zs.length (c8 zs)) (hgr : w.grownBy w2 v.ownBlock) :
  w2.cell? ⟨bo, 0, none⟩ = some v ∧ w2.frozen? ⟨bo, 0, none⟩ = false ∧ Outs (w2.setCell ⟨bo, 0, none⟩ v') base bt bo bb told v' sl zs := by
 obtain ⟨h1, h2, h3, h4, h5, h6⟩ := hA
 have nv : ∀ k, k < base → some k ≠ v.ownBlock := fun k hk e => by have := (own_cells h.r k e.symm).1; omega
 have nv' : ∀ k, k < base → v'.ownBlock ≠ some k := fun k hk e => by have := (own_cells ho k e).1; omega
 have o2 := h.o.kept hgr (nv _ h5)
 refine ⟨o2.cell, o2.frozen, ⟨(h.t.kept hgr (nv _ h4)).other h1 v', o2.set v', (h.b.kept hgr (nv _ h6)).other (Ne.symm h3) v', ho.kept (grownBy_setCell' w2 bo v') (.inr (nv' _ h5))⟩⟩
theorem Outs.still (h : Outs w base bt bo bb told v sl ys) (hA : Apart base bt bo bb) {w2 : World} (hgr : w.grownBy w2 v.ownBlock) : w2.cell? ⟨bt, 0, none⟩ = some (.int .i64 (told : Int)) ∧ w2.cell? ⟨bb, 0, none⟩ = some sl := by
 obtain ⟨h1, h2, h3, h4, h5, h6⟩ := hA
 have nv : ∀ k, k < base → some k ≠ v.ownBlock := fun k hk e => by have := (own_cells h.r k e.symm).1; omega
 exact ⟨(h.t.kept hgr (nv _ h4)).cell, (h.b.kept hgr (nv _ h6)).cell⟩
theorem Outs.tell (h : Outs w base bt bo bb told v sl ys) (hA : Apart base bt bo bb) {m : Int} {n : Nat} (hm : m = (n : Int)) : Outs (w.setCell ⟨bt, 0, none⟩ (.int .i64 m)) base bt bo bb n v sl ys := by
 subst hm
 obtain ⟨h1, h2, h3, h4, h5, h6⟩ := hA
 have nv' : ∀ k, k < base → v.ownBlock ≠ some k := fun k hk e => by have := (own_cells h.r k e).1; omega
 exact ⟨h.t.set _, h.o.other (Ne.symm h1) _, h.b.other (Ne.symm h2) _, h.r.kept (grownBy_setCell' w bt _) (.inr (nv' _ h4))⟩
end
end Go.Proofs.YtidnboeihkeljaaGreatDoor.Lz
