/- Contracts of package wire: a number is read. -/
import Derived.Test.YtodmjkhfckokhaaWireV67
namespace Go.Proofs.Ytodmjkhfckokhaa.Wire
open Go.ChangeShapes Go.WideShapes Go.ChangeAt Go.RowKit
set_option linter.unusedVariables false

/-- What a number's reading comes to. -/
def NPost (w : World) (g : Nat) (s : Value) (at_ : Nat) (R : VR) (e : Ending) (w' : World) : Prop :=
  ∃ (z j : Nat) (err : Int), e = .returned (.int .u64 (z : Int)) ∧ z < 18446744073709551616 ∧ Eff w w' g s (at_ + j) err ∧
    (match R with | .short => z = 0 ∧ j = 0 ∧ err = 3 | .form => z = 0 ∧ j = 0 ∧ err = 4 | .ok v k => z = v ∧ j = k ∧ err = 0)
set_option maxHeartbeats 4000000 in
theorem reading_67 (g n c at_ : Nat) (A : Option Addr) (xs : List Nat) (w : World) (h : Rdr w g (.slice A n c) at_ 0) (hB : Bs w A n xs) (hat : at_ ≤ n) (hn : n ≤ 4000000000) :
    Calls Try.prog 40 #[.pointer (some ⟨g, 0, none⟩), .func (.func 41) #[.pointer (some ⟨g, 0, none⟩)] #[]] w (NPost w g (.slice A n c) at_ (vr 0 0 (xs.drop at_))) := by
  have hne : w.heap.size ≠ g := by have := Blk.lt h; omega
  have hgl : g < w.heap.size := Blk.lt h
  have ha := ext_alloc (Ext.rfl' w) (.cells #[.pointer (some ⟨g, 0, none⟩)] 34)
  have HE0 := Lib.hid ha
  have HRA := Lib.hid (h.ext ha)
  have HBA := Lib.hid (hB.ext ha)
  obtain ⟨c0, c1, c2, f1, f2⟩ := h.cells
  have H := Lib.hid h; clear h hB ha
  generalize hR : vr 0 0 (xs.drop at_) = R at *
  have HR := Lib.hid hR; clear hR
  go_enter Try.func40, Try.ntmps40
  go_wp2_with fail
  refine (varint_67 w.heap.size g n c at_ A xs _ (by simp) HRA.out HBA.out hat hn).mono ?_
  rw [HR.out]
  rintro e w3 ⟨z, j, err, rfl, hz, hE3, hm⟩
  obtain ⟨d0, d1, d2, g1, g2⟩ := hE3.1.cells
  have p3 : w3.cell? ⟨w.heap.size, 0, none⟩ = some (.pointer (some ⟨g, 0, none⟩)) := hE3.2.cell (a := ⟨w.heap.size, 0, none⟩) (by simp) (by simpa using hne)
  have HE3 := Lib.hid hE3; clear hE3
  have HEF : Hid (Eff w w3 g (.slice A n c) (at_ + j) err) := Lib.hid ((H.out.eff HE0.out).trans HE3.out)
  cases R with
  | short =>
    obtain rfl : err = 3 := hm
    go_wp2_with fail
    go_ret
    exact ⟨0, 0, 3, rfl, by omega, HEF.out.trans (HEF.out.1.setAt' at_ rfl), rfl, rfl, rfl⟩
  | form =>
    obtain rfl : err = 4 := hm
    go_wp2_with fail
    go_ret
    exact ⟨0, 0, 4, rfl, by omega, HEF.out.trans (HEF.out.1.setAt' at_ rfl), rfl, rfl, rfl⟩
  | ok v k =>
    obtain ⟨rfl, rfl, rfl⟩ := hm
    go_wp2_with fail
    go_ret
    exact ⟨z, j, 0, rfl, hz, HEF.out, rfl, rfl, rfl⟩
theorem reading_err_67 (g at_ : Nat) (s F : Value) (e0 : Int) (w : World) (h : Rdr w g s at_ e0) (he : (e0 == 0) = false) :
    Calls Try.prog 40 #[.pointer (some ⟨g, 0, none⟩), F] w fun e w' => e = .returned (.int .u64 0) ∧ Ext w w' := by
  have hne : w.heap.size ≠ g := by have := Blk.lt h; omega
  have hgl : g < w.heap.size := Blk.lt h
  obtain ⟨c0, c1, c2, f1, f2⟩ := h.cells
  clear h
  go_enter Try.func40, Try.ntmps40
  go_wp2_with fail
  go_ret
  exact ⟨rfl, by repeat (first | exact Ext.rfl' _ | refine ext_drew ?_ | refine ext_alloc ?_ _)⟩
theorem num (g n c at_ : Nat) (A : Option Addr) (xs : List Nat) (w : World) (h : Rdr w g (.slice A n c) at_ 0) (hB : Bs w A n xs) (hat : at_ ≤ n) (hn : n ≤ 4000000000) :
    Calls Try.prog 19 #[.pointer (some ⟨g, 0, none⟩)] w (NPost w g (.slice A n c) at_ (vr 0 0 (xs.drop at_))) := by
  have HC := Lib.hid (reading_67 g n c at_ A xs w h hB hat hn)
  clear h hB
  generalize vr 0 0 (xs.drop at_) = R at *
  go_enter Try.func19, Try.ntmps19
  go_wp2_with fail
  refine (HC.out).mono ?_
  rintro e w3 ⟨z, j, err, rfl, hz, hE3, hm⟩
  have HP : Hid (NPost w g (.slice A n c) at_ R (.returned (.int .u64 (z : Int))) w3) := Lib.hid ⟨z, j, err, rfl, hz, hE3, hm⟩
  clear hz hE3 hm
  go_wp2_with fail
  go_ret
  exact HP.out
theorem num_err (g at_ : Nat) (s : Value) (e0 : Int) (w : World) (h : Rdr w g s at_ e0) (he : (e0 == 0) = false) :
    Calls Try.prog 19 #[.pointer (some ⟨g, 0, none⟩)] w fun e w' => e = .returned (.int .u64 0) ∧ Ext w w' := by
  have HC := Lib.hid (fun F => reading_err_67 g at_ s F e0 w h he)
  clear h he
  go_enter Try.func19, Try.ntmps19
  go_wp2_with fail
  refine (HC.out _).mono ?_
  rintro e w3 ⟨rfl, hE3⟩
  go_wp2_with fail
  go_ret
  exact ⟨rfl, hE3⟩
end Go.Proofs.Ytodmjkhfckokhaa.Wire
