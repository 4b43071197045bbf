/- Contracts of package wire: what keeps a fault; no piece (71). -/
import Derived.Test.YtodmjkhfckokhaaWireP
namespace Go.Proofs.Ytodmjkhfckokhaa.Wire
open Go.ChangeShapes Go.WideShapes Go.ChangeAt Go.RowKit
set_option linter.unusedVariables false

theorem fail0_71 (w : World) (pb g : Nat) (s : Value) (i : Nat) (f : Int) (hp : w.cell? ⟨pb, 0, none⟩ = some (.pointer (some ⟨g, 0, none⟩))) (h : Rdr w g s i 0) :
    Calls Try.prog 71 #[.int .i64 f, .pointer (some ⟨pb, 0, none⟩)] w fun e w' => e = .returned (.tuple #[]) ∧ Eff w w' g s i f := by
  obtain ⟨c0, c1, c2, f1, f2⟩ := h.cells
  have H := Lib.hid h; clear h
  go_enter Try.func71, Try.ntmps71
  go_wp2
  go_end0
  exact ⟨rfl, H.out.setErr f⟩
theorem fail1_71 (w : World) (pb g : Nat) (s : Value) (i : Nat) (f e0 : Int) (hp : w.cell? ⟨pb, 0, none⟩ = some (.pointer (some ⟨g, 0, none⟩))) (h : Rdr w g s i e0) (he : (e0 == 0) = false) :
    Calls Try.prog 71 #[.int .i64 f, .pointer (some ⟨pb, 0, none⟩)] w fun e w' => e = .returned (.tuple #[]) ∧ Eff w w' g s i e0 := by
  obtain ⟨c0, c1, c2, f1, f2⟩ := h.cells
  have H := Lib.hid h; clear h
  go_enter Try.func71, Try.ntmps71
  go_wp2
  go_end0
  exact ⟨rfl, H.out.eff (Ext.rfl' _)⟩
set_option maxHeartbeats 4000000 in
set_option maxRecDepth 100000 in
theorem piece_short_71 (pb g n c at_ m : Nat) (A : Option Addr) (xs : List Nat) (w : World) (hp : w.cell? ⟨pb, 0, none⟩ = some (.pointer (some ⟨g, 0, none⟩))) (h : Rdr w g (.slice A n c) at_ 0) (hat : at_ ≤ n) (hn : n ≤ 4000000000) (hm : n - at_ < m) :
    Calls Try.prog 46 #[.pointer (some ⟨g, 0, none⟩), .int .u64 (m : Int), .func (.func 71) #[] #[.pointer (some ⟨pb, 0, none⟩)]] w fun e w' => e = .returned (.slice none 0 0) ∧ Eff w w' g (.slice A n c) at_ 3 := by
  obtain ⟨c0, c1, c2, f1, f2⟩ := h.cells
  have HP := Lib.hid (kc (ext_drew (Ext.rfl' w)) hp); have H := Lib.hid h; clear hp h
  have HRD := Lib.hid (H.out.ext (ext_drew (Ext.rfl' _)))
  obtain ⟨L, hL⟩ : ∃ L : Nat, L = n - at_ := ⟨_, rfl⟩
  have hLm : (L : Int) < (m : Int) := by omega
  have HW1 : Hid (IntKind.i64.wrap ((n : Int) - (at_ : Int)) = (L : Int)) := Lib.hid (by rw [IntWalk.i64_in _ (by omega)]; omega)
  have HW2 : Hid (IntKind.u64.wrap (L : Int) = (L : Int)) := Lib.hid (by rw [IntKind.wrap_u64]; omega)
  clear hL
  go_enter Try.func46, Try.ntmps46
  go_wp2_with fail
  have hw1 := HW1.out
  have hw2 := HW2.out
  refine wp_still (by kernel_rfl) (by kernel_rfl) ?_
  repeat still_step
  refine wpStill_nil ?_
  clear hw1 hw2
  go_wp2_with fail
  refine (fail0_71 _ pb g _ at_ 3 HP.out HRD.out).mono ?_
  rintro e w3 ⟨rfl, hE3⟩
  have HE3 := Lib.hid hE3; clear hE3
  go_wp2_with fail
  go_ret
  exact ⟨rfl, (H.out.eff (ext_drew (Ext.rfl' _))).trans HE3.out⟩
end Go.Proofs.Ytodmjkhfckokhaa.Wire
