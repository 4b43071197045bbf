/- Contracts of package wire: reading (70). -/
import Derived.Test.YtodmjkhfckokhaaWireP
namespace Go.Proofs.Ytodmjkhfckokhaa.Wire
open Go.ChangeShapes Go.WideShapes Go.ChangeAt Go.RowKit
set_option linter.unusedVariables false

set_option maxHeartbeats 4000000 in
theorem reading_70 (g at_ : Nat) (s : Value) (q0 : Value) (q1 : Value) (Φ : Value → Nat → Int → World → Prop) (w : World) (h : Rdr w g s at_ 0)
    (hC : Calls Try.prog 48 #[.func (.func 70) #[] #[.pointer (some ⟨w.heap.size, 0, none⟩)], q0, q1] (w.alloc (.cells #[.pointer (some ⟨g, 0, none⟩)] 34)) (CP (w.alloc (.cells #[.pointer (some ⟨g, 0, none⟩)] 34)) g s Φ)) :
    Calls Try.prog 47 #[.pointer (some ⟨g, 0, none⟩), .func (.func 48) #[] #[q0, q1]] w (RP w g s (.string ⟨#[]⟩) at_ Φ) := by
  have hne : w.heap.size ≠ g := by have := Blk.lt h; omega
  have hgl : g < w.heap.size := Blk.lt h
  have HE0 := Lib.hid (ext_alloc (Ext.rfl' w) (.cells #[.pointer (some ⟨g, 0, none⟩)] 34))
  obtain ⟨c0, c1, c2, f1, f2⟩ := h.cells
  have H := Lib.hid h; have HC := Lib.hid hC; clear h hC
  go_enter Try.func47, Try.ntmps47
  go_wp2_with fail
  refine (HC.out).mono ?_
  rintro e w3 ⟨v, a', err, rfl, hE3, hm⟩
  obtain ⟨d0, d1, d2, g1, g2⟩ := hE3.1.cells
  have p3 : w3.cell? ⟨w.heap.size, 0, none⟩ = some (.pointer (some ⟨g, 0, none⟩)) := hE3.2.cell (a := ⟨w.heap.size, 0, none⟩) (by simp) (by simpa using hne)
  have HE3 := Lib.hid hE3; have HM := Lib.hid hm; clear hE3 hm
  have HEF : Hid (Eff w w3 g s a' err) := Lib.hid ((H.out.eff HE0.out).trans HE3.out)
  by_cases he : err = 0
  · subst he
    go_wp2_with fail
    go_ret
    exact .inl ⟨v, a', rfl, HEF.out, HM.out⟩
  · have hb : (err == 0) = false := beq_eq_false_iff_ne.2 he
    have HNE := Lib.hid he; clear he
    go_wp2_with fail
    go_ret
    exact .inr ⟨err, HNE.out, rfl, HEF.out.trans (HEF.out.1.setAt' at_ rfl), _, _, _, HM.out⟩
theorem reading_err_70 (g at_ : Nat) (s F : Value) (e0 : Int) (w : World) (h : Rdr w g s at_ e0) (he : (e0 == 0) = false) :
    Calls Try.prog 47 #[.pointer (some ⟨g, 0, none⟩), F] w fun e w' => e = .returned (.string ⟨#[]⟩) ∧ Ext w w' := by
  have hne : w.heap.size ≠ g := by have := Blk.lt h; omega
  have hgl : g < w.heap.size := Blk.lt h
  obtain ⟨c0, c1, c2, f1, f2⟩ := h.cells
  clear h
  go_enter Try.func47, Try.ntmps47
  go_wp2_with fail
  go_ret
  exact ⟨rfl, by repeat (first | exact Ext.rfl' _ | refine ext_drew ?_ | refine ext_alloc ?_ _)⟩
end Go.Proofs.Ytodmjkhfckokhaa.Wire
