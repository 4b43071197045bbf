/- Contracts of package wire: what keeps a fault; a varint that stands next (68). -/
import Derived.Test.YtidnboeihkeljaaGreatDoorF01
set_option maxHeartbeats 16000000
set_option maxRecDepth 100000
set_option linter.all false
open Go.ChangeShapes Go.WideShapes Go.ChangeAt Go.RowKit
namespace Go.Proofs.YtidnboeihkeljaaGreatDoor.Wire

theorem fail0_68 (w : World) (pb g : Nat) (s : Value) (i : Nat) (f : Int) (hp : w.cell? ⟨pb, 0, none⟩ = some (.pointer (some ⟨g, 0, none⟩))) (h : Rdr w g s i 0) :
    Calls Tryz.prog 138 #[.int .i64 f, .pointer (some ⟨pb, 0, none⟩)] w fun e w' => e = .returned (.tuple #[]) ∧ Eff w w' g s i f := by
  obtain ⟨c0, c1, c2, f1, f2⟩ := h.cells
  have H := Lib.hid h; clear h
  go_enter Tryz.func138, Tryz.ntmps138
  go_wp2
  go_end0
  exact ⟨rfl, H.out.setErr f⟩
theorem fail1_68 (w : World) (pb g : Nat) (s : Value) (i : Nat) (f e0 : Int) (hp : w.cell? ⟨pb, 0, none⟩ = some (.pointer (some ⟨g, 0, none⟩))) (h : Rdr w g s i e0) (he : (e0 == 0) = false) :
    Calls Tryz.prog 138 #[.int .i64 f, .pointer (some ⟨pb, 0, none⟩)] w fun e w' => e = .returned (.tuple #[]) ∧ Eff w w' g s i e0 := by
  obtain ⟨c0, c1, c2, f1, f2⟩ := h.cells
  have H := Lib.hid h; clear h
  go_enter Tryz.func138, Tryz.ntmps138
  go_wp2
  go_end0
  exact ⟨rfl, H.out.eff (Ext.rfl' _)⟩
theorem varint_68 (pb g n c at_ : Nat) (A : Option Addr) (xs : List Nat) (w : World) (hp : w.cell? ⟨pb, 0, none⟩ = some (.pointer (some ⟨g, 0, none⟩))) (h : Rdr w g (.slice A n c) at_ 0) (hB : Bs w A n xs) (hat : at_ ≤ n) (hn : n ≤ 4000000000) :
    Calls Tryz.prog 116 #[.pointer (some ⟨g, 0, none⟩), .func (.func 138) #[] #[.pointer (some ⟨pb, 0, none⟩)]] w (VPost w g (.slice A n c) at_ (vr 0 0 (xs.drop at_))) := by
  have hxl : xs.length = n := hB.1
  subst hxl
  have HP := Lib.hid hp; have H := Lib.hid h; have HB := Lib.hid hB; clear hp h hB
  generalize hR : vr 0 0 (xs.drop at_) = R at *
  have HR := Lib.hid hR; clear hR
  go_enter Tryz.func116, Tryz.ntmps116
  go_wp2
  go_step3
  go_wp2
  go_step3
  go_wp2
  go_loopw [5, 6] (fun nv sv wr => VRel w xs at_ R nv sv wr) (fun _ sv _ => 10 - (intOf sv).toNat)
  case atStart => exact ⟨0, 0, by omega, by omega, rfl, rfl, by decide, HR.out, Ext.rfl' _⟩
  case round =>
    obtain ⟨size, acc, hs, hat2, rfl, rfl, hacc, hvr, hE⟩ := hrel
    have HVR := Lib.hid hvr; have HE := Lib.hid hE; have HAC := Lib.hid hacc; clear hvr hE hacc
    have HRW := Lib.hid (H.out.ext HE.out)
    have HRD := Lib.hid (HRW.out.ext (ext_drew (Ext.rfl' _)))
    obtain ⟨c0, c1, c2, f1, f2⟩ := HRW.out.cells
    have p0 := kc HE.out HP.out
    have i1 : (0 : Int) ≤ (size : Int) := by omega
    have i2 : (size : Int) ≤ 9 := by omega
    have i3 : (at_ : Int) + (size : Int) ≤ (xs.length : Int) := by omega
    have HWR : Hid (IntKind.i64.wrap ((at_ : Int) + (size : Int)) = (at_ : Int) + (size : Int)) := Lib.hid (IntWalk.i64_in _ (by omega))
    by_cases hge : at_ + size < xs.length
    · have hge2 : (at_ : Int) + (size : Int) < (xs.length : Int) := by omega
      have hi0 : (0 : Int) ≤ (at_ : Int) + (size : Int) := by omega
      have hidx : ((at_ : Int) + (size : Int)).toNat = at_ + size := by omega
      obtain ⟨b, o, rfl, _, hc⟩ := (HB.out.ext HE.out).2.2 (by omega)
      have cb0 : wr.cell? ⟨b, o + (at_ + size), none⟩ = some (.int .u8 (xs.getD (at_ + size) 0 : Nat)) := hc _ hge
      clear hc
      have hcb := HB.out.2.1 (at_ + size)
      have hd : xs.drop (at_ + size) = xs.getD (at_ + size) 0 :: xs.drop (at_ + size + 1) := by
        rw [List.drop_eq_getElem_cons hge, List.getD_eq_getElem?_getD, List.getElem?_eq_getElem hge]; rfl
      have HV2 : Hid _ := Lib.hid (hd ▸ HVR.out)
      generalize xs.getD (at_ + size) 0 = cb at *
      have hcb2 : (cb : Int) < 256 := by omega
      clear hd
      obtain ⟨z, hz1, hz2, hz3⟩ := or_val acc size cb hs HAC.out hcb
      have HZ1 := Lib.hid hz1; have HZ3 := Lib.hid hz3; clear hz1 hz3
      go_wp2_with fail
      have hw := HWR.out
      (refine wp_still (by kernel_rfl) (by kernel_rfl) ?_; repeat still_step)
      refine wpStill_nil ?_
      clear hw
      go_wp2_with fail
      have hw := HWR.out
      (refine wp_still (by kernel_rfl) (by kernel_rfl) ?_; repeat still_step)
      refine wpStill_nil ?_
      clear hw
      go_wp2_with fail
      all_goals clear hz2
      all_goals first
        | (((with_reducible refine (fail0_68 _ pb g _ at_ 4 (kc (ext_drew (ext_drew (Ext.rfl' wr))) p0) (HRD.out.ext (ext_drew (Ext.rfl' _)))).mono ?_)); (rintro e w3 ⟨rfl, hE3⟩);
           (have hR2 : R = .form := by
              have hf : (size = 9 ∧ 1 < cb) ∨ (0 < size ∧ cb = 0) := by
                first
                | (left; omega)
                | (right; have h0 : ((cb : Int) == 0) = true := by assumption
                   have := eq_of_beq h0; omega)
              have := HV2.out
              rw [vr, if_pos hf] at this
              exact this.symm);
           (have HR2 := Lib.hid hR2; clear hR2);
           (obtain ⟨d0, d1, d2, g1, g2⟩ := hE3.1.cells);
           (have HE3 := Lib.hid hE3; clear hE3);
           go_wp2_with fail;
           (try rw [Exit.noGoto_ret]);
           go_ret;
           exact ⟨z, size + 1, 4, rfl, HZ1.out, (((H.out.eff HE.out).ext (ext_drew (ext_drew (Ext.rfl' _)))).trans HE3.out).trans (HE3.out.1.setAt' (at_ + (size + 1)) (by omega)), by rw [HR2.out]⟩)
        | (go_roundw
           case rel =>
             have hnf : ¬ ((size = 9 ∧ 1 < cb) ∨ (0 < size ∧ cb = 0)) := by
               first
               | omega
               | (have h0 : ((cb : Int) == 0) = false := by assumption
                  have := ne_of_beq_false h0; omega)
             have h128 : ¬ cb < 128 := by omega
             have h8 : size ≤ 8 := by omega
             have hz := HZ3.out (.inl h8)
             rw [show cb % 128 = cb - 128 from by omega] at hz
             have hv := HV2.out
             rw [vr, if_neg hnf, if_neg h128, ← hz] at hv
             have hlt : z < 128 ^ (size + 1) := by
               have ha := HAC.out
               rw [Nat.pow_succ, hz]
               have : (cb - 128) * 128 ^ size ≤ 127 * 128 ^ size := Nat.mul_le_mul (by omega) (Nat.le_refl _)
               omega
             exact ⟨size + 1, z, by omega, by omega, rfl, by go_num, hlt, by rw [← Nat.add_assoc]; exact hv, ext_drew (ext_drew HE.out)⟩
           case measure => simp [intOf]; omega)
        | ((have hR2 : R = .ok z (size + 1) := by
              have hnf : ¬ ((size = 9 ∧ 1 < cb) ∨ (0 < size ∧ cb = 0)) := by
                first
                | omega
                | (have h0 : ((cb : Int) == 0) = false := by assumption
                   have := ne_of_beq_false h0; omega)
              have h128 : cb < 128 := by omega
              have hz := HZ3.out (by omega)
              rw [Nat.mod_eq_of_lt h128] at hz
              have hv := HV2.out
              rw [vr, if_neg hnf, if_pos h128, ← hz] at hv
              exact hv.symm);
           (have HR2 := Lib.hid hR2; clear hR2);
           (try rw [Exit.noGoto_ret]);
           go_ret;
           exact ⟨z, size + 1, 0, rfl, HZ1.out, ((H.out.eff HE.out).ext (ext_drew (ext_drew (Ext.rfl' _)))).trans ((HRD.out.ext (ext_drew (Ext.rfl' _))).setAt' (at_ + (size + 1)) (by omega)), by rw [HR2.out]; exact ⟨rfl, rfl, rfl⟩⟩)
    · have hge2 : ¬ (at_ : Int) + (size : Int) < (xs.length : Int) := by omega
      have hR2 : R = .short := by
        have := HVR.out
        rw [List.drop_eq_nil_of_le (by omega)] at this
        exact this.symm
      have HR2 := Lib.hid hR2; clear hR2
      go_wp2_with fail
      have hw := HWR.out
      (refine wp_still (by kernel_rfl) (by kernel_rfl) ?_; repeat still_step)
      refine wpStill_nil ?_
      clear hw
      go_wp2_with fail
      refine (fail0_68 _ pb g _ at_ 3 (kc (ext_drew (Ext.rfl' wr)) p0) HRD.out).mono ?_
      rintro e w3 ⟨rfl, hE3⟩
      obtain ⟨d0, d1, d2, g1, g2⟩ := hE3.1.cells
      have HE3 := Lib.hid hE3; clear hE3
      go_wp2_with fail
      try rw [Exit.noGoto_ret]
      go_ret
      have HAL : acc < 18446744073709551616 := by
        have h1 := HAC.out
        have h2 : 128 ^ size ≤ 128 ^ 9 := Nat.pow_le_pow_right (by omega) hs
        have h3 : (128 : Nat) ^ 9 = 9223372036854775808 := by decide
        omega
      exact ⟨acc, size, 3, rfl, HAL, ((H.out.eff HE.out).ext (ext_drew (Ext.rfl' _))).trans (HE3.out.trans (HE3.out.1.setAt' (at_ + size) (by omega))), by rw [HR2.out]⟩
end Go.Proofs.YtidnboeihkeljaaGreatDoor.Wire
