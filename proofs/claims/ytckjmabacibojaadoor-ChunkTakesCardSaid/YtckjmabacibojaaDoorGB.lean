/- Contracts of package wire: what keeps a fault; no piece (69). -/
import Derived.Test.YtckjmabacibojaaDoorGA
import Derived.WalkSpells
namespace Go.Proofs.YtckjmabacibojaaDoor.Wire
open Go.ChangeShapes Go.WideShapes Go.ChangeAt Go.RowKit
set_option linter.unusedVariables false

theorem fail0_69 (w : World) (pb g : Nat) (s : Value) (i : Nat) (f : Int) (hp : w.cell? ⟨pb, 0, none⟩ = some (.pointer (some ⟨g, 0, none⟩))) (h : Rdr w g s i 0) :
    Calls Tryd.prog 63 #[.int .i64 f, .pointer (some ⟨pb, 0, none⟩)] w fun e w' => e = .returned (.tuple #[]) ∧ Eff w w' g s i f := by
  obtain ⟨c0, c1, c2, f1, f2⟩ := h.cells
  have H := Lib.hid h; clear h
  go_enter Tryd.func63, Tryd.ntmps63
  go_wp2
  go_end0
  exact ⟨rfl, H.out.setErr f⟩
theorem fail1_69 (w : World) (pb g : Nat) (s : Value) (i : Nat) (f e0 : Int) (hp : w.cell? ⟨pb, 0, none⟩ = some (.pointer (some ⟨g, 0, none⟩))) (h : Rdr w g s i e0) (he : (e0 == 0) = false) :
    Calls Tryd.prog 63 #[.int .i64 f, .pointer (some ⟨pb, 0, none⟩)] w fun e w' => e = .returned (.tuple #[]) ∧ Eff w w' g s i e0 := by
  obtain ⟨c0, c1, c2, f1, f2⟩ := h.cells
  have H := Lib.hid h; clear h
  go_enter Tryd.func63, Tryd.ntmps63
  go_wp2
  go_end0
  exact ⟨rfl, H.out.eff (Ext.rfl' _)⟩
set_option maxHeartbeats 4000000 in
set_option maxRecDepth 100000 in
theorem piece_short_69 (pb g n c at_ m : Nat) (A : Option Addr) (xs : List Nat) (w : World) (hp : w.cell? ⟨pb, 0, none⟩ = some (.pointer (some ⟨g, 0, none⟩))) (h : Rdr w g (.slice A n c) at_ 0) (hat : at_ ≤ n) (hn : n ≤ 4000000000) (hm : n - at_ < m) :
    Calls Tryd.prog 53 #[.pointer (some ⟨g, 0, none⟩), .int .u64 (m : Int), .func (.func 63) #[] #[.pointer (some ⟨pb, 0, none⟩)]] w fun e w' => e = .returned (.slice none 0 0) ∧ Eff w w' g (.slice A n c) at_ 3 := by
  obtain ⟨c0, c1, c2, f1, f2⟩ := h.cells
  have HP := Lib.hid (kc (ext_drew (Ext.rfl' w)) hp); have H := Lib.hid h; clear hp h
  have HRD := Lib.hid (H.out.ext (ext_drew (Ext.rfl' _)))
  obtain ⟨L, hL⟩ : ∃ L : Nat, L = n - at_ := ⟨_, rfl⟩
  have hLm : (L : Int) < (m : Int) := by omega
  have HW1 : Hid (IntKind.i64.wrap ((n : Int) - (at_ : Int)) = (L : Int)) := Lib.hid (by rw [IntWalk.i64_in _ (by omega)]; omega)
  have HW2 : Hid (IntKind.u64.wrap (L : Int) = (L : Int)) := Lib.hid (by rw [IntKind.wrap_u64]; omega)
  clear hL
  go_enter Tryd.func53, Tryd.ntmps53
  go_wp2_with fail
  have hw1 := HW1.out
  have hw2 := HW2.out
  refine wp_still (by kernel_rfl) (by kernel_rfl) ?_
  repeat still_step
  refine wpStill_nil ?_
  clear hw1 hw2
  go_wp2_with fail
  refine (fail0_69 _ pb g _ at_ 3 HP.out HRD.out).mono ?_
  rintro e w3 ⟨rfl, hE3⟩
  have HE3 := Lib.hid hE3; clear hE3
  go_wp2_with fail
  go_ret
  exact ⟨rfl, (H.out.eff (ext_drew (Ext.rfl' _))).trans HE3.out⟩
end Go.Proofs.YtckjmabacibojaaDoor.Wire
namespace Go.Proofs.YtckjmabacibojaaDoor.Wire
open Go.ChangeShapes Go.WideShapes Go.ChangeAt Go.RowKit
set_option linter.unusedVariables false

set_option maxHeartbeats 4000000 in
theorem reading_69 (g at_ : Nat) (s : Value) (q0 : Value) (Φ : Value → Nat → Int → World → Prop) (w : World) (h : Rdr w g s at_ 0)
    (hC : Calls Tryd.prog 59 #[.func (.func 63) #[] #[.pointer (some ⟨w.heap.size, 0, none⟩)], q0] (w.alloc (.cells #[.pointer (some ⟨g, 0, none⟩)] 73)) (CP (w.alloc (.cells #[.pointer (some ⟨g, 0, none⟩)] 73)) g s Φ)) :
    Calls Tryd.prog 58 #[.pointer (some ⟨g, 0, none⟩), .func (.func 59) #[] #[q0]] w (RP w g s (.int .u32 0) at_ Φ) := by
  have hne : w.heap.size ≠ g := by have := Blk.lt h; omega
  have hgl : g < w.heap.size := Blk.lt h
  have HE0 := Lib.hid (ext_alloc (Ext.rfl' w) (.cells #[.pointer (some ⟨g, 0, none⟩)] 73))
  obtain ⟨c0, c1, c2, f1, f2⟩ := h.cells
  have H := Lib.hid h; have HC := Lib.hid hC; clear h hC
  go_enter Tryd.func58, Tryd.ntmps58
  go_wp2_with fail
  refine (HC.out).mono ?_
  rintro e w3 ⟨v, a', err, rfl, hE3, hm⟩
  obtain ⟨d0, d1, d2, g1, g2⟩ := hE3.1.cells
  have p3 : w3.cell? ⟨w.heap.size, 0, none⟩ = some (.pointer (some ⟨g, 0, none⟩)) := hE3.2.cell (a := ⟨w.heap.size, 0, none⟩) (by simp) (by simpa using hne)
  have HE3 := Lib.hid hE3; have HM := Lib.hid hm; clear hE3 hm
  have HEF : Hid (Eff w w3 g s a' err) := Lib.hid ((H.out.eff HE0.out).trans HE3.out)
  by_cases he : err = 0
  · subst he
    go_wp2_with fail
    go_ret
    exact .inl ⟨v, a', rfl, HEF.out, HM.out⟩
  · have hb : (err == 0) = false := beq_eq_false_iff_ne.2 he
    have HNE := Lib.hid he; clear he
    go_wp2_with fail
    go_ret
    exact .inr ⟨err, HNE.out, rfl, HEF.out.trans (HEF.out.1.setAt' at_ rfl), _, _, _, HM.out⟩
theorem reading_err_69 (g at_ : Nat) (s F : Value) (e0 : Int) (w : World) (h : Rdr w g s at_ e0) (he : (e0 == 0) = false) :
    Calls Tryd.prog 58 #[.pointer (some ⟨g, 0, none⟩), F] w fun e w' => e = .returned (.int .u32 0) ∧ Ext w w' := by
  have hne : w.heap.size ≠ g := by have := Blk.lt h; omega
  have hgl : g < w.heap.size := Blk.lt h
  obtain ⟨c0, c1, c2, f1, f2⟩ := h.cells
  clear h
  go_enter Tryd.func58, Tryd.ntmps58
  go_wp2_with fail
  go_ret
  exact ⟨rfl, by repeat (first | exact Ext.rfl' _ | refine ext_drew ?_ | refine ext_alloc ?_ _)⟩
end Go.Proofs.YtckjmabacibojaaDoor.Wire
namespace Go.Proofs.YtckjmabacibojaaDoor.Wire
open Go.ChangeShapes Go.WideShapes Go.ChangeAt Go.RowKit
set_option linter.unusedVariables false

set_option maxHeartbeats 4000000 in
theorem reading_68 (g at_ : Nat) (s : Value) (q0 : Value) (Φ : Value → Nat → Int → World → Prop) (w : World) (h : Rdr w g s at_ 0)
    (hC : Calls Tryd.prog 55 #[.func (.func 62) #[] #[.pointer (some ⟨w.heap.size, 0, none⟩)], q0] (w.alloc (.cells #[.pointer (some ⟨g, 0, none⟩)] 73)) (CP (w.alloc (.cells #[.pointer (some ⟨g, 0, none⟩)] 73)) g s Φ)) :
    Calls Tryd.prog 54 #[.pointer (some ⟨g, 0, none⟩), .func (.func 55) #[] #[q0]] w (RP w g s (.int .i64 0) at_ Φ) := by
  have hne : w.heap.size ≠ g := by have := Blk.lt h; omega
  have hgl : g < w.heap.size := Blk.lt h
  have HE0 := Lib.hid (ext_alloc (Ext.rfl' w) (.cells #[.pointer (some ⟨g, 0, none⟩)] 73))
  obtain ⟨c0, c1, c2, f1, f2⟩ := h.cells
  have H := Lib.hid h; have HC := Lib.hid hC; clear h hC
  go_enter Tryd.func54, Tryd.ntmps54
  go_wp2_with fail
  refine (HC.out).mono ?_
  rintro e w3 ⟨v, a', err, rfl, hE3, hm⟩
  obtain ⟨d0, d1, d2, g1, g2⟩ := hE3.1.cells
  have p3 : w3.cell? ⟨w.heap.size, 0, none⟩ = some (.pointer (some ⟨g, 0, none⟩)) := hE3.2.cell (a := ⟨w.heap.size, 0, none⟩) (by simp) (by simpa using hne)
  have HE3 := Lib.hid hE3; have HM := Lib.hid hm; clear hE3 hm
  have HEF : Hid (Eff w w3 g s a' err) := Lib.hid ((H.out.eff HE0.out).trans HE3.out)
  by_cases he : err = 0
  · subst he
    go_wp2_with fail
    go_ret
    exact .inl ⟨v, a', rfl, HEF.out, HM.out⟩
  · have hb : (err == 0) = false := beq_eq_false_iff_ne.2 he
    have HNE := Lib.hid he; clear he
    go_wp2_with fail
    go_ret
    exact .inr ⟨err, HNE.out, rfl, HEF.out.trans (HEF.out.1.setAt' at_ rfl), _, _, _, HM.out⟩
theorem reading_err_68 (g at_ : Nat) (s F : Value) (e0 : Int) (w : World) (h : Rdr w g s at_ e0) (he : (e0 == 0) = false) :
    Calls Tryd.prog 54 #[.pointer (some ⟨g, 0, none⟩), F] w fun e w' => e = .returned (.int .i64 0) ∧ Ext w w' := by
  have hne : w.heap.size ≠ g := by have := Blk.lt h; omega
  have hgl : g < w.heap.size := Blk.lt h
  obtain ⟨c0, c1, c2, f1, f2⟩ := h.cells
  clear h
  go_enter Tryd.func54, Tryd.ntmps54
  go_wp2_with fail
  go_ret
  exact ⟨rfl, by repeat (first | exact Ext.rfl' _ | refine ext_drew ?_ | refine ext_alloc ?_ _)⟩
end Go.Proofs.YtckjmabacibojaaDoor.Wire
namespace Go.Proofs.YtckjmabacibojaaDoor.Wire
open Go.ChangeShapes Go.WideShapes Go.ChangeAt Go.RowKit
set_option linter.unusedVariables false

theorem fail0_71 (w : World) (pb g : Nat) (s : Value) (i : Nat) (f : Int) (hp : w.cell? ⟨pb, 0, none⟩ = some (.pointer (some ⟨g, 0, none⟩))) (h : Rdr w g s i 0) :
    Calls Tryd.prog 61 #[.int .i64 f, .pointer (some ⟨pb, 0, none⟩)] w fun e w' => e = .returned (.tuple #[]) ∧ Eff w w' g s i f := by
  obtain ⟨c0, c1, c2, f1, f2⟩ := h.cells
  have H := Lib.hid h; clear h
  go_enter Tryd.func61, Tryd.ntmps61
  go_wp2
  go_end0
  exact ⟨rfl, H.out.setErr f⟩
theorem fail1_71 (w : World) (pb g : Nat) (s : Value) (i : Nat) (f e0 : Int) (hp : w.cell? ⟨pb, 0, none⟩ = some (.pointer (some ⟨g, 0, none⟩))) (h : Rdr w g s i e0) (he : (e0 == 0) = false) :
    Calls Tryd.prog 61 #[.int .i64 f, .pointer (some ⟨pb, 0, none⟩)] w fun e w' => e = .returned (.tuple #[]) ∧ Eff w w' g s i e0 := by
  obtain ⟨c0, c1, c2, f1, f2⟩ := h.cells
  have H := Lib.hid h; clear h
  go_enter Tryd.func61, Tryd.ntmps61
  go_wp2
  go_end0
  exact ⟨rfl, H.out.eff (Ext.rfl' _)⟩
set_option maxHeartbeats 4000000 in
set_option maxRecDepth 100000 in
theorem piece_short_71 (pb g n c at_ m : Nat) (A : Option Addr) (xs : List Nat) (w : World) (hp : w.cell? ⟨pb, 0, none⟩ = some (.pointer (some ⟨g, 0, none⟩))) (h : Rdr w g (.slice A n c) at_ 0) (hat : at_ ≤ n) (hn : n ≤ 4000000000) (hm : n - at_ < m) :
    Calls Tryd.prog 53 #[.pointer (some ⟨g, 0, none⟩), .int .u64 (m : Int), .func (.func 61) #[] #[.pointer (some ⟨pb, 0, none⟩)]] w fun e w' => e = .returned (.slice none 0 0) ∧ Eff w w' g (.slice A n c) at_ 3 := by
  obtain ⟨c0, c1, c2, f1, f2⟩ := h.cells
  have HP := Lib.hid (kc (ext_drew (Ext.rfl' w)) hp); have H := Lib.hid h; clear hp h
  have HRD := Lib.hid (H.out.ext (ext_drew (Ext.rfl' _)))
  obtain ⟨L, hL⟩ : ∃ L : Nat, L = n - at_ := ⟨_, rfl⟩
  have hLm : (L : Int) < (m : Int) := by omega
  have HW1 : Hid (IntKind.i64.wrap ((n : Int) - (at_ : Int)) = (L : Int)) := Lib.hid (by rw [IntWalk.i64_in _ (by omega)]; omega)
  have HW2 : Hid (IntKind.u64.wrap (L : Int) = (L : Int)) := Lib.hid (by rw [IntKind.wrap_u64]; omega)
  clear hL
  go_enter Tryd.func53, Tryd.ntmps53
  go_wp2_with fail
  have hw1 := HW1.out
  have hw2 := HW2.out
  refine wp_still (by kernel_rfl) (by kernel_rfl) ?_
  repeat still_step
  refine wpStill_nil ?_
  clear hw1 hw2
  go_wp2_with fail
  refine (fail0_71 _ pb g _ at_ 3 HP.out HRD.out).mono ?_
  rintro e w3 ⟨rfl, hE3⟩
  have HE3 := Lib.hid hE3; clear hE3
  go_wp2_with fail
  go_ret
  exact ⟨rfl, (H.out.eff (ext_drew (Ext.rfl' _))).trans HE3.out⟩
end Go.Proofs.YtckjmabacibojaaDoor.Wire
namespace Go.Proofs.YtckjmabacibojaaDoor.Wire
open Go.ChangeShapes Go.WideShapes Go.ChangeAt Go.RowKit
set_option linter.unusedVariables false

set_option maxHeartbeats 4000000 in
theorem reading_71 (g at_ : Nat) (s : Value) (q0 : Value) (q1 : Value) (Φ : Value → Nat → Int → World → Prop) (w : World) (h : Rdr w g s at_ 0)
    (hC : Calls Tryd.prog 52 #[.func (.func 61) #[] #[.pointer (some ⟨w.heap.size, 0, none⟩)], q0, q1] (w.alloc (.cells #[.pointer (some ⟨g, 0, none⟩)] 73)) (CP (w.alloc (.cells #[.pointer (some ⟨g, 0, none⟩)] 73)) g s Φ)) :
    Calls Tryd.prog 51 #[.pointer (some ⟨g, 0, none⟩), .func (.func 52) #[] #[q0, q1]] w (RP w g s (.slice none 0 0) at_ Φ) := by
  have hne : w.heap.size ≠ g := by have := Blk.lt h; omega
  have hgl : g < w.heap.size := Blk.lt h
  have HE0 := Lib.hid (ext_alloc (Ext.rfl' w) (.cells #[.pointer (some ⟨g, 0, none⟩)] 73))
  obtain ⟨c0, c1, c2, f1, f2⟩ := h.cells
  have H := Lib.hid h; have HC := Lib.hid hC; clear h hC
  go_enter Tryd.func51, Tryd.ntmps51
  go_wp2_with fail
  refine (HC.out).mono ?_
  rintro e w3 ⟨v, a', err, rfl, hE3, hm⟩
  obtain ⟨d0, d1, d2, g1, g2⟩ := hE3.1.cells
  have p3 : w3.cell? ⟨w.heap.size, 0, none⟩ = some (.pointer (some ⟨g, 0, none⟩)) := hE3.2.cell (a := ⟨w.heap.size, 0, none⟩) (by simp) (by simpa using hne)
  have HE3 := Lib.hid hE3; have HM := Lib.hid hm; clear hE3 hm
  have HEF : Hid (Eff w w3 g s a' err) := Lib.hid ((H.out.eff HE0.out).trans HE3.out)
  by_cases he : err = 0
  · subst he
    go_wp2_with fail
    go_ret
    exact .inl ⟨v, a', rfl, HEF.out, HM.out⟩
  · have hb : (err == 0) = false := beq_eq_false_iff_ne.2 he
    have HNE := Lib.hid he; clear he
    go_wp2_with fail
    go_ret
    exact .inr ⟨err, HNE.out, rfl, HEF.out.trans (HEF.out.1.setAt' at_ rfl), _, _, _, HM.out⟩
theorem reading_err_71 (g at_ : Nat) (s F : Value) (e0 : Int) (w : World) (h : Rdr w g s at_ e0) (he : (e0 == 0) = false) :
    Calls Tryd.prog 51 #[.pointer (some ⟨g, 0, none⟩), F] w fun e w' => e = .returned (.slice none 0 0) ∧ Ext w w' := by
  have hne : w.heap.size ≠ g := by have := Blk.lt h; omega
  have hgl : g < w.heap.size := Blk.lt h
  obtain ⟨c0, c1, c2, f1, f2⟩ := h.cells
  clear h
  go_enter Tryd.func51, Tryd.ntmps51
  go_wp2_with fail
  go_ret
  exact ⟨rfl, by repeat (first | exact Ext.rfl' _ | refine ext_drew ?_ | refine ext_alloc ?_ _)⟩
end Go.Proofs.YtckjmabacibojaaDoor.Wire
namespace Go.Proofs.YtckjmabacibojaaDoor.Wire
open Go.ChangeShapes Go.WideShapes Go.ChangeAt Go.RowKit
set_option linter.unusedVariables false

theorem fail0_67 (w : World) (pb g : Nat) (s : Value) (i : Nat) (f : Int) (hp : w.cell? ⟨pb, 0, none⟩ = some (.pointer (some ⟨g, 0, none⟩))) (h : Rdr w g s i 0) :
    Calls Tryd.prog 65 #[.int .i64 f, .pointer (some ⟨pb, 0, none⟩)] w fun e w' => e = .returned (.tuple #[]) ∧ Eff w w' g s i f := by
  obtain ⟨c0, c1, c2, f1, f2⟩ := h.cells
  have H := Lib.hid h; clear h
  go_enter Tryd.func65, Tryd.ntmps65
  go_wp2
  go_end0
  exact ⟨rfl, H.out.setErr f⟩
theorem fail1_67 (w : World) (pb g : Nat) (s : Value) (i : Nat) (f e0 : Int) (hp : w.cell? ⟨pb, 0, none⟩ = some (.pointer (some ⟨g, 0, none⟩))) (h : Rdr w g s i e0) (he : (e0 == 0) = false) :
    Calls Tryd.prog 65 #[.int .i64 f, .pointer (some ⟨pb, 0, none⟩)] w fun e w' => e = .returned (.tuple #[]) ∧ Eff w w' g s i e0 := by
  obtain ⟨c0, c1, c2, f1, f2⟩ := h.cells
  have H := Lib.hid h; clear h
  go_enter Tryd.func65, Tryd.ntmps65
  go_wp2
  go_end0
  exact ⟨rfl, H.out.eff (Ext.rfl' _)⟩
set_option maxHeartbeats 4000000 in
set_option maxRecDepth 100000 in
theorem varint_67 (pb g n c at_ : Nat) (A : Option Addr) (xs : List Nat) (w : World) (hp : w.cell? ⟨pb, 0, none⟩ = some (.pointer (some ⟨g, 0, none⟩))) (h : Rdr w g (.slice A n c) at_ 0) (hB : Bs w A n xs) (hat : at_ ≤ n) (hn : n ≤ 4000000000) :
    Calls Tryd.prog 56 #[.pointer (some ⟨g, 0, none⟩), .func (.func 65) #[] #[.pointer (some ⟨pb, 0, none⟩)]] w (VPost w g (.slice A n c) at_ (vr 0 0 (xs.drop at_))) := by
  have hxl : xs.length = n := hB.1
  subst hxl
  have HP := Lib.hid hp; have H := Lib.hid h; have HB := Lib.hid hB; clear hp h hB
  generalize hR : vr 0 0 (xs.drop at_) = R at *
  have HR := Lib.hid hR; clear hR
  go_enter Tryd.func56, Tryd.ntmps56
  go_wp2
  go_step3
  go_wp2
  go_step3
  go_wp2
  go_loopw [5, 6] (fun nv sv wr => VRel w xs at_ R nv sv wr) (fun _ sv _ => 10 - (intOf sv).toNat)
  case atStart => exact ⟨0, 0, by omega, by omega, rfl, rfl, by decide, HR.out, Ext.rfl' _⟩
  case round =>
    obtain ⟨size, acc, hs, hat2, rfl, rfl, hacc, hvr, hE⟩ := hrel
    have HVR := Lib.hid hvr; have HE := Lib.hid hE; have HAC := Lib.hid hacc; clear hvr hE hacc
    have HRW := Lib.hid (H.out.ext HE.out)
    have HRD := Lib.hid (HRW.out.ext (ext_drew (Ext.rfl' _)))
    obtain ⟨c0, c1, c2, f1, f2⟩ := HRW.out.cells
    have p0 := kc HE.out HP.out
    have i1 : (0 : Int) ≤ (size : Int) := by omega
    have i2 : (size : Int) ≤ 9 := by omega
    have i3 : (at_ : Int) + (size : Int) ≤ (xs.length : Int) := by omega
    have HWR : Hid (IntKind.i64.wrap ((at_ : Int) + (size : Int)) = (at_ : Int) + (size : Int)) := Lib.hid (IntWalk.i64_in _ (by omega))
    by_cases hge : at_ + size < xs.length
    · have hge2 : (at_ : Int) + (size : Int) < (xs.length : Int) := by omega
      have hi0 : (0 : Int) ≤ (at_ : Int) + (size : Int) := by omega
      have hidx : ((at_ : Int) + (size : Int)).toNat = at_ + size := by omega
      obtain ⟨b, o, rfl, _, hc⟩ := (HB.out.ext HE.out).2.2 (by omega)
      have cb0 : wr.cell? ⟨b, o + (at_ + size), none⟩ = some (.int .u8 (xs.getD (at_ + size) 0 : Nat)) := hc _ hge
      clear hc
      have hcb := HB.out.2.1 (at_ + size)
      have hd : xs.drop (at_ + size) = xs.getD (at_ + size) 0 :: xs.drop (at_ + size + 1) := by
        rw [List.drop_eq_getElem_cons hge, List.getD_eq_getElem?_getD, List.getElem?_eq_getElem hge]; rfl
      have HV2 : Hid _ := Lib.hid (hd ▸ HVR.out)
      generalize xs.getD (at_ + size) 0 = cb at *
      have hcb2 : (cb : Int) < 256 := by omega
      clear hd
      obtain ⟨z, hz1, hz2, hz3⟩ := or_val acc size cb hs HAC.out hcb
      have HZ1 := Lib.hid hz1; have HZ3 := Lib.hid hz3; clear hz1 hz3
      go_wp2_with fail
      have hw := HWR.out
      (refine wp_still (by kernel_rfl) (by kernel_rfl) ?_; repeat still_step)
      refine wpStill_nil ?_
      clear hw
      go_wp2_with fail
      have hw := HWR.out
      (refine wp_still (by kernel_rfl) (by kernel_rfl) ?_; repeat still_step)
      refine wpStill_nil ?_
      clear hw
      go_wp2_with fail
      all_goals clear hz2
      all_goals first
        | (((with_reducible refine (fail0_67 _ pb g _ at_ 4 (kc (ext_drew (ext_drew (Ext.rfl' wr))) p0) (HRD.out.ext (ext_drew (Ext.rfl' _)))).mono ?_)); (rintro e w3 ⟨rfl, hE3⟩);
           (have hR2 : R = .form := by
              have hf : (size = 9 ∧ 1 < cb) ∨ (0 < size ∧ cb = 0) := by
                first
                | (left; omega)
                | (right; have h0 : ((cb : Int) == 0) = true := by assumption
                   have := eq_of_beq h0; omega)
              have := HV2.out
              rw [vr, if_pos hf] at this
              exact this.symm);
           (have HR2 := Lib.hid hR2; clear hR2);
           (obtain ⟨d0, d1, d2, g1, g2⟩ := hE3.1.cells);
           (have HE3 := Lib.hid hE3; clear hE3);
           go_wp2_with fail;
           (try rw [Exit.noGoto_ret]);
           go_ret;
           exact ⟨z, size + 1, 4, rfl, HZ1.out, (((H.out.eff HE.out).ext (ext_drew (ext_drew (Ext.rfl' _)))).trans HE3.out).trans (HE3.out.1.setAt' (at_ + (size + 1)) (by omega)), by rw [HR2.out]⟩)
        | (go_roundw
           case rel =>
             have hnf : ¬ ((size = 9 ∧ 1 < cb) ∨ (0 < size ∧ cb = 0)) := by
               first
               | omega
               | (have h0 : ((cb : Int) == 0) = false := by assumption
                  have := ne_of_beq_false h0; omega)
             have h128 : ¬ cb < 128 := by omega
             have h8 : size ≤ 8 := by omega
             have hz := HZ3.out (.inl h8)
             rw [show cb % 128 = cb - 128 from by omega] at hz
             have hv := HV2.out
             rw [vr, if_neg hnf, if_neg h128, ← hz] at hv
             have hlt : z < 128 ^ (size + 1) := by
               have ha := HAC.out
               rw [Nat.pow_succ, hz]
               have : (cb - 128) * 128 ^ size ≤ 127 * 128 ^ size := Nat.mul_le_mul (by omega) (Nat.le_refl _)
               omega
             exact ⟨size + 1, z, by omega, by omega, rfl, by go_num, hlt, by rw [← Nat.add_assoc]; exact hv, ext_drew (ext_drew HE.out)⟩
           case measure => simp [intOf]; omega)
        | ((have hR2 : R = .ok z (size + 1) := by
              have hnf : ¬ ((size = 9 ∧ 1 < cb) ∨ (0 < size ∧ cb = 0)) := by
                first
                | omega
                | (have h0 : ((cb : Int) == 0) = false := by assumption
                   have := ne_of_beq_false h0; omega)
              have h128 : cb < 128 := by omega
              have hz := HZ3.out (by omega)
              rw [Nat.mod_eq_of_lt h128] at hz
              have hv := HV2.out
              rw [vr, if_neg hnf, if_pos h128, ← hz] at hv
              exact hv.symm);
           (have HR2 := Lib.hid hR2; clear hR2);
           (try rw [Exit.noGoto_ret]);
           go_ret;
           exact ⟨z, size + 1, 0, rfl, HZ1.out, ((H.out.eff HE.out).ext (ext_drew (ext_drew (Ext.rfl' _)))).trans ((HRD.out.ext (ext_drew (Ext.rfl' _))).setAt' (at_ + (size + 1)) (by omega)), by rw [HR2.out]; exact ⟨rfl, rfl, rfl⟩⟩)
    · have hge2 : ¬ (at_ : Int) + (size : Int) < (xs.length : Int) := by omega
      have hR2 : R = .short := by
        have := HVR.out
        rw [List.drop_eq_nil_of_le (by omega)] at this
        exact this.symm
      have HR2 := Lib.hid hR2; clear hR2
      go_wp2_with fail
      have hw := HWR.out
      (refine wp_still (by kernel_rfl) (by kernel_rfl) ?_; repeat still_step)
      refine wpStill_nil ?_
      clear hw
      go_wp2_with fail
      refine (fail0_67 _ pb g _ at_ 3 (kc (ext_drew (Ext.rfl' wr)) p0) HRD.out).mono ?_
      rintro e w3 ⟨rfl, hE3⟩
      obtain ⟨d0, d1, d2, g1, g2⟩ := hE3.1.cells
      have HE3 := Lib.hid hE3; clear hE3
      go_wp2_with fail
      try rw [Exit.noGoto_ret]
      go_ret
      have HAL : acc < 18446744073709551616 := by
        have h1 := HAC.out
        have h2 : 128 ^ size ≤ 128 ^ 9 := Nat.pow_le_pow_right (by omega) hs
        have h3 : (128 : Nat) ^ 9 = 9223372036854775808 := by decide
        omega
      exact ⟨acc, size, 3, rfl, HAL, ((H.out.eff HE.out).ext (ext_drew (Ext.rfl' _))).trans (HE3.out.trans (HE3.out.1.setAt' (at_ + size) (by omega))), by rw [HR2.out]⟩
end Go.Proofs.YtckjmabacibojaaDoor.Wire
namespace Go.Proofs.YtckjmabacibojaaDoor.Wire
open Go.ChangeShapes Go.WideShapes Go.ChangeAt Go.RowKit
set_option linter.unusedVariables false

/-- What a number's reading comes to. -/
def NPost (w : World) (g : Nat) (s : Value) (at_ : Nat) (R : VR) (e : Ending) (w' : World) : Prop :=
  ∃ (z j : Nat) (err : Int), e = .returned (.int .u64 (z : Int)) ∧ z < 18446744073709551616 ∧ Eff w w' g s (at_ + j) err ∧
    (match R with | .short => z = 0 ∧ j = 0 ∧ err = 3 | .form => z = 0 ∧ j = 0 ∧ err = 4 | .ok v k => z = v ∧ j = k ∧ err = 0)
set_option maxHeartbeats 4000000 in
theorem reading_67 (g n c at_ : Nat) (A : Option Addr) (xs : List Nat) (w : World) (h : Rdr w g (.slice A n c) at_ 0) (hB : Bs w A n xs) (hat : at_ ≤ n) (hn : n ≤ 4000000000) :
    Calls Tryd.prog 64 #[.pointer (some ⟨g, 0, none⟩), .func (.func 56) #[.pointer (some ⟨g, 0, none⟩)] #[]] w (NPost w g (.slice A n c) at_ (vr 0 0 (xs.drop at_))) := by
  have hne : w.heap.size ≠ g := by have := Blk.lt h; omega
  have hgl : g < w.heap.size := Blk.lt h
  have ha := ext_alloc (Ext.rfl' w) (.cells #[.pointer (some ⟨g, 0, none⟩)] 73)
  have HE0 := Lib.hid ha
  have HRA := Lib.hid (h.ext ha)
  have HBA := Lib.hid (hB.ext ha)
  obtain ⟨c0, c1, c2, f1, f2⟩ := h.cells
  have H := Lib.hid h; clear h hB ha
  generalize hR : vr 0 0 (xs.drop at_) = R at *
  have HR := Lib.hid hR; clear hR
  go_enter Tryd.func64, Tryd.ntmps64
  go_wp2_with fail
  refine (varint_67 w.heap.size g n c at_ A xs _ (by simp) HRA.out HBA.out hat hn).mono ?_
  rw [HR.out]
  rintro e w3 ⟨z, j, err, rfl, hz, hE3, hm⟩
  obtain ⟨d0, d1, d2, g1, g2⟩ := hE3.1.cells
  have p3 : w3.cell? ⟨w.heap.size, 0, none⟩ = some (.pointer (some ⟨g, 0, none⟩)) := hE3.2.cell (a := ⟨w.heap.size, 0, none⟩) (by simp) (by simpa using hne)
  have HE3 := Lib.hid hE3; clear hE3
  have HEF : Hid (Eff w w3 g (.slice A n c) (at_ + j) err) := Lib.hid ((H.out.eff HE0.out).trans HE3.out)
  cases R with
  | short =>
    obtain rfl : err = 3 := hm
    go_wp2_with fail
    go_ret
    exact ⟨0, 0, 3, rfl, by omega, HEF.out.trans (HEF.out.1.setAt' at_ rfl), rfl, rfl, rfl⟩
  | form =>
    obtain rfl : err = 4 := hm
    go_wp2_with fail
    go_ret
    exact ⟨0, 0, 4, rfl, by omega, HEF.out.trans (HEF.out.1.setAt' at_ rfl), rfl, rfl, rfl⟩
  | ok v k =>
    obtain ⟨rfl, rfl, rfl⟩ := hm
    go_wp2_with fail
    go_ret
    exact ⟨z, j, 0, rfl, hz, HEF.out, rfl, rfl, rfl⟩
theorem reading_err_67 (g at_ : Nat) (s F : Value) (e0 : Int) (w : World) (h : Rdr w g s at_ e0) (he : (e0 == 0) = false) :
    Calls Tryd.prog 64 #[.pointer (some ⟨g, 0, none⟩), F] w fun e w' => e = .returned (.int .u64 0) ∧ Ext w w' := by
  have hne : w.heap.size ≠ g := by have := Blk.lt h; omega
  have hgl : g < w.heap.size := Blk.lt h
  obtain ⟨c0, c1, c2, f1, f2⟩ := h.cells
  clear h
  go_enter Tryd.func64, Tryd.ntmps64
  go_wp2_with fail
  go_ret
  exact ⟨rfl, by repeat (first | exact Ext.rfl' _ | refine ext_drew ?_ | refine ext_alloc ?_ _)⟩
theorem num (g n c at_ : Nat) (A : Option Addr) (xs : List Nat) (w : World) (h : Rdr w g (.slice A n c) at_ 0) (hB : Bs w A n xs) (hat : at_ ≤ n) (hn : n ≤ 4000000000) :
    Calls Tryd.prog 60 #[.pointer (some ⟨g, 0, none⟩)] w (NPost w g (.slice A n c) at_ (vr 0 0 (xs.drop at_))) := by
  have HC := Lib.hid (reading_67 g n c at_ A xs w h hB hat hn)
  clear h hB
  generalize vr 0 0 (xs.drop at_) = R at *
  go_enter Tryd.func60, Tryd.ntmps60
  go_wp2_with fail
  refine (HC.out).mono ?_
  rintro e w3 ⟨z, j, err, rfl, hz, hE3, hm⟩
  have HP : Hid (NPost w g (.slice A n c) at_ R (.returned (.int .u64 (z : Int))) w3) := Lib.hid ⟨z, j, err, rfl, hz, hE3, hm⟩
  clear hz hE3 hm
  go_wp2_with fail
  go_ret
  exact HP.out
theorem num_err (g at_ : Nat) (s : Value) (e0 : Int) (w : World) (h : Rdr w g s at_ e0) (he : (e0 == 0) = false) :
    Calls Tryd.prog 60 #[.pointer (some ⟨g, 0, none⟩)] w fun e w' => e = .returned (.int .u64 0) ∧ Ext w w' := by
  have HC := Lib.hid (fun F => reading_err_67 g at_ s F e0 w h he)
  clear h he
  go_enter Tryd.func60, Tryd.ntmps60
  go_wp2_with fail
  refine (HC.out _).mono ?_
  rintro e w3 ⟨rfl, hE3⟩
  go_wp2_with fail
  go_ret
  exact ⟨rfl, hE3⟩
end Go.Proofs.YtckjmabacibojaaDoor.Wire
namespace Go.Proofs.YtckjmabacibojaaDoor.Wire
open Go.ChangeShapes Go.WideShapes Go.ChangeAt Go.RowKit
set_option linter.unusedVariables false

theorem at_any (g : Nat) (s : Value) (i : Nat) (e0 : Int) (w : World) (h : Rdr w g s i e0) : Calls Tryd.prog 40 #[.pointer (some ⟨g, 0, none⟩)] w fun e w' => e = .returned (.int .i64 (i : Int)) ∧ w = w' := by
  obtain ⟨c0, c1, c2, f1, f2⟩ := h.cells
  clear h
  go_enter Tryd.func40, Tryd.ntmps40
  go_wp2_with fail
  go_ret
  exact ⟨rfl, rfl⟩
theorem err_any (g : Nat) (s : Value) (i : Nat) (e0 : Int) (w : World) (h : Rdr w g s i e0) : Calls Tryd.prog 57 #[.pointer (some ⟨g, 0, none⟩)] w fun e w' => e = .returned (.int .i64 e0) ∧ w = w' := by
  obtain ⟨c0, c1, c2, f1, f2⟩ := h.cells
  clear h
  go_enter Tryd.func57, Tryd.ntmps57
  go_wp2_with fail
  go_ret
  exact ⟨rfl, rfl⟩
set_option maxRecDepth 100000 in
theorem left_any (g n c : Nat) (A : Option Addr) (i : Nat) (e0 : Int) (w : World) (h : Rdr w g (.slice A n c) i e0) (hi : i ≤ n) (hn : n ≤ 4000000000) : Calls Tryd.prog 45 #[.pointer (some ⟨g, 0, none⟩)] w fun e w' => e = .returned (.int .i64 ((n - i : Nat) : Int)) ∧ Ext w w' := by
  obtain ⟨c0, c1, c2, f1, f2⟩ := h.cells
  clear h
  have HW1 : Hid (IntKind.i64.wrap ((n : Int) - (i : Int)) = ((n - i : Nat) : Int)) := Lib.hid (by rw [IntWalk.i64_in _ (by omega)]; omega)
  generalize n - i = L at *
  go_enter Tryd.func45, Tryd.ntmps45
  go_wp2_with fail
  have hw1 := HW1.out
  refine wp_still (by kernel_rfl) (by kernel_rfl) ?_
  repeat still_step
  refine wpStill_nil ?_
  clear hw1
  go_wp2_with fail
  go_ret
  exact ⟨rfl, ext_drew (Ext.rfl' _)⟩
/-- What a copy comes to. -/
def KPost (w : World) (n : Nat) (xs : List Nat) (e : Ending) (w' : World) : Prop :=
  ∃ (A' : Option Addr) (c' : Nat), e = .returned (.slice A' n c') ∧ n ≤ c' ∧ c' ≤ 9223372036854775807 ∧ (A' = none → n = 0 ∧ c' = 0) ∧ (0 < n → ∀ a, A' = some a → w.heap.size ≤ a.block) ∧ Bs w' A' n xs ∧ Ext w w'
set_option maxHeartbeats 1000000 in
theorem clone (A : Option Addr) (n c : Nat) (xs : List Nat) (w : World) (hB : Bs w A n xs) (hnil : A = none → n = 0 ∧ c = 0) (hn : n ≤ 4000000000) :
    Calls Tryd.prog 50 #[.slice A n c] w (KPost w n xs) := by
  have hnl := @Lib.run_eql_slice_nil Tryd.prog
  rcases A with _ | a
  · obtain ⟨rfl, rfl⟩ := hnil rfl
    have hx : xs = [] := List.eq_nil_of_length_eq_zero hB.1
    subst hx
    clear hnil hB
    go_enter Tryd.func50, Tryd.ntmps50
    go_wp2_with fail
    go_ret
    exact ⟨none, 0, rfl, Nat.le_refl _, by omega, fun _ => ⟨rfl, rfl⟩, fun h => absurd h (by omega), Bs.none _ _, Ext.rfl' _⟩
  · clear hnil
    have hxl := hB.1
    subst hxl
    have HE := Lib.hid (ext_alloc (Ext.rfl' w) (.cells #[] 5))
    have HSM := Lib.hid hB.2.1
    have HSR : Hid (Src Tryd.prog 1 22 (.slice (some a) xs.length c) xs.length (c8 xs) (w.alloc (.cells #[] 5))) := Lib.hid (Bs.src (hB.ext HE.out) Tryd.underlying22 c)
    have HOW : Hid (Own w (w.alloc (.cells #[] 5)) (.slice (some ⟨w.heap.size, 0, none⟩) 0 0) []) := Lib.hid (World.ownsRow_made w #[] 0 (Nat.le_refl _) (by unfold maxLen; omega) rfl)
    have HQ : Hid (([] : List Nat).length + xs.length ≤ 140737488355328) := Lib.hid (by simp; omega)
    clear hB
    go_enter Tryd.func50, Tryd.ntmps50
    go_wp2_with (first | (at_builtin; refine wpList_own (W := w) rfl (.tmp 5) (.tmp 6) 22 rfl (.slice (some ⟨w.heap.size, 0, none⟩) 0 0) (.slice (some a) xs.length c) [] xs rfl rfl HOW.out HE.out HSR.out HQ.out ?_; intro v2 w2 hown2 hE2))
    have HO2 : Hid (Own w w2 v2 xs) := Lib.hid hown2
    have HE2 := Lib.hid hE2
    clear hown2 hE2
    go_ret
    obtain ⟨A2, c2, rfl, h1, h2, h3⟩ := own_shape HO2.out
    refine ⟨A2, c2, rfl, h1, by unfold maxLen at h2; omega, fun h => ?_, fun hp a2 ha2 => ?_, Own.bs HO2.out HSM.out, HE2.out⟩
    · subst h
      rcases HO2.out.2 with ⟨hq, hz⟩ | ⟨g, cap, cur, hq, _⟩
      · obtain ⟨_, _, rfl⟩ := Value.slice.inj hq; exact ⟨hz, rfl⟩
      · simp at hq
    · obtain ⟨g, rfl, hg⟩ := h3 hp
      obtain rfl := Option.some.inj ha2
      exact hg
/-- What Of comes to. -/
def OPost (w : World) (n : Nat) (xs : List Nat) (e : Ending) (w' : World) : Prop :=
  ∃ (g : Nat) (A' : Option Addr) (c' : Nat), e = .returned (.pointer (some ⟨g, 0, none⟩)) ∧ w.heap.size ≤ g ∧ Rdr w' g (.slice A' n c') 0 0 ∧ RB w' g A' n c' xs ∧ Ext w w'
set_option maxHeartbeats 1000000 in
theorem of (A : Option Addr) (n c : Nat) (xs : List Nat) (w : World) (hB : Bs w A n xs) (hnil : A = none → n = 0 ∧ c = 0) (hn : n ≤ 4000000000) :
    Calls Tryd.prog 34 #[.slice A n c] w (OPost w n xs) := by
  have HC := Lib.hid (clone A n c xs w hB hnil hn)
  clear hB hnil
  go_enter Tryd.func34, Tryd.ntmps34
  go_wp2_with fail
  refine (HC.out).mono ?_
  rintro e w1 ⟨A', c', rfl, h1, h2, h3, h4, hB, hE⟩
  have HB := Lib.hid hB; have HE := Lib.hid hE; have H3 := Lib.hid h3; have H4 := Lib.hid h4; clear hB hE h3 h4
  go_wp2_with fail
  go_ret
  refine ⟨w1.heap.size, A', c', rfl, HE.out.size, Blk.new _ _ _, ⟨HB.out.ext (ext_alloc (Ext.rfl' _) _), h1, h2, H3.out, fun hp a ha => ?_⟩, ext_alloc HE.out _⟩
  obtain ⟨b, o, e, hl, _⟩ := HB.out.2.2 hp
  obtain rfl := Option.some.inj (ha.symm.trans e)
  exact Nat.ne_of_lt hl
theorem and64 (a b : Nat) : bits .and .u64 (a : Int) (b : Int) = ((BitVec.ofNat 64 a &&& BitVec.ofNat 64 b).toNat : Int) := by
  show IntKind.u64.wrap ((BitVec.ofInt 64 (a : Int) &&& BitVec.ofInt 64 (b : Int)).toNat : Int) = _
  rw [BitVec.ofInt_natCast, BitVec.ofInt_natCast]
  have := (BitVec.ofNat 64 a &&& BitVec.ofNat 64 b).isLt
  rw [IntKind.wrap_u64]
  omega
theorem and1 (z : Nat) (hz : z < 18446744073709551616) : bits .and .u64 (z : Int) 1 = ((z % 2 : Nat) : Int) := by
  have h := and64 z 1
  rw [BitVec.toNat_and, BitVec.toNat_ofNat, BitVec.toNat_ofNat, Nat.mod_eq_of_lt (show z < 2 ^ 64 from hz), Nat.mod_eq_of_lt (show 1 < 2 ^ 64 by decide), Nat.and_one_is_mod] at h
  exact h
theorem uz_eq (z : Nat) (hz : z < 18446744073709551616) : bits BinOp.xor IntKind.i64 ((z : Int) / 2) (wrap64 (-wrap64 (bits BinOp.and IntKind.u64 (z : Int) 1))) = uz z := by
  have hx : ∀ a b : Int, bits .xor .i64 a b = IntKind.i64.wrap ((BitVec.ofInt 64 a ^^^ BitVec.ofInt 64 b).toNat : Int) := fun _ _ => rfl
  rw [and1 z hz]
  have e0 : (z : Int) / 2 = ((z / 2 : Nat) : Int) := by omega
  have e1 : wrap64 ((z % 2 : Nat) : Int) = ((z % 2 : Nat) : Int) := IntWalk.wrap64_in _ (by omega)
  rw [e1, e0, hx]
  unfold uz
  by_cases h : z % 2 = 0
  · have e2 : wrap64 (-((z % 2 : Nat) : Int)) = ((0 : Nat) : Int) := (IntWalk.wrap64_in _ (by omega)).trans (by omega)
    rw [e2, if_pos h, BitVec.ofInt_natCast, BitVec.ofInt_natCast, show BitVec.ofNat 64 0 = 0#64 from rfl, BitVec.xor_zero, BitVec.toNat_ofNat, Nat.mod_eq_of_lt (by omega)]
    exact IntWalk.i64_in _ (by omega)
  · have e2 : wrap64 (-((z % 2 : Nat) : Int)) = -1 := (IntWalk.wrap64_in _ (by omega)).trans (by omega)
    rw [e2, if_neg h, BitVec.ofInt_natCast, show BitVec.ofInt 64 (-1) = BitVec.allOnes 64 from by decide, BitVec.xor_allOnes, BitVec.toNat_not, BitVec.toNat_ofNat, Nat.mod_eq_of_lt (by omega)]
    rw [IntKind.wrap_i64]
    omega
end Go.Proofs.YtckjmabacibojaaDoor.Wire
