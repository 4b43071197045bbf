/- Path: Find where there is no way to be looked for. -/
import Derived.Test.YtmceaocknlnmpaaPthT
namespace Go.Proofs.Ytmceaocknlnmpaa.Pth
open Go.ChangeShapes Go.WideShapes Go.ChangeAt Go.RowKit
open Go.Proofs.Ytmceaocknlnmpaa.Rec Go.Proofs.Ytmceaocknlnmpaa.Grid
set_option linter.unusedVariables false
def FNo (w : World) (e : Ending) (w' : World) : Prop := e = .returned (.tuple #[.slice none 0 0, .bool false]) ∧ Ext w w'
set_option maxHeartbeats 4000000 in
set_option maxRecDepth 100000 in
theorem find_zero (bu : Value) (f tt nr : Int) (w : World) : Calls Try.prog 8 #[.agg #[.int .i64 0, .int .i64 0, .string ⟨#[]⟩], bu, .int .i64 f, .int .i64 tt, .int .i64 nr] w (FNo w) := by
  have HON := Lib.hid (fun w' => on_zero f w')
  go_enter Try.func8, Try.ntmps8
  go_wp2_with fail
  refine (HON.out _).mono ?_
  rintro e w1 ⟨rfl, b1⟩
  have HE := Lib.hid (ext_trans (ext_alloc (Ext.rfl' w) _) b1)
  clear b1
  go_wp2_with fail
  go_ret2
  exact ⟨rfl, HE.out⟩
set_option maxHeartbeats 4000000 in
set_option maxRecDepth 100000 in
theorem find_no (W H : Nat) (T : ByteArray) (bu : Value) (f tt nr : Int) (w : World) (hW : 4 ≤ W) (hs : T.size ≤ 5000) (h : (f < 0 ∨ (T.size : Int) ≤ f) ∨ (tt < 0 ∨ (T.size : Int) ≤ tt) ∨ nr < 0) :
    Calls Try.prog 8 #[.agg #[.int .i64 (W : Int), .int .i64 (H : Int), .string T], bu, .int .i64 f, .int .i64 tt, .int .i64 nr] w (FNo w) := by
  by_cases hf : f < 0 ∨ (T.size : Int) ≤ f
  · have HON := Lib.hid (fun w' => on_no W H f T w' hW hs hf)
    clear h hf
    go_enter Try.func8, Try.ntmps8
    go_wp2_with fail
    refine (HON.out _).mono ?_
    rintro e w1 ⟨rfl, b1⟩
    have HE := Lib.hid (ext_trans (ext_alloc (Ext.rfl' w) _) b1)
    clear b1
    go_wp2_with fail
    go_ret2
    exact ⟨rfl, HE.out⟩
  · obtain ⟨fn, rfl⟩ : ∃ n : Nat, f = (n : Int) := ⟨f.toNat, by omega⟩
    have HON := Lib.hid (fun w' => on_yes W H fn T w' hW hs (by omega))
    by_cases ht : tt < 0 ∨ (T.size : Int) ≤ tt
    · have HOT := Lib.hid (fun w' => on_no W H tt T w' hW hs ht)
      clear h hf ht
      have K0 := Lib.hid (Blk.new w 25 #[.int .i64 (W : Int), .int .i64 (H : Int), .string T])
      go_enter Try.func8, Try.ntmps8
      go_wp2_with fail
      refine (HON.out _).mono ?_
      rintro e w1 ⟨rfl, b1⟩
      have HE := Lib.hid (ext_trans (ext_alloc (Ext.rfl' w) _) b1)
      have k1 := fun i => (K0.out.ext b1).cell i
      clear b1
      go_wp2_with fail
      refine (HOT.out _).mono ?_
      rintro e w2 ⟨rfl, b2⟩
      have HE2 := Lib.hid (ext_trans HE.out b2)
      clear b2
      go_wp2_with fail
      go_ret2
      exact ⟨rfl, HE2.out⟩
    · obtain ⟨tn, rfl⟩ : ∃ n : Nat, tt = (n : Int) := ⟨tt.toNat, by omega⟩
      have HOT := Lib.hid (fun w' => on_yes W H tn T w' hW hs (by omega))
      have y1 : decide (nr < 0) = true := decide_eq_true (by omega)
      have y2 : nr < 0 := by omega
      clear h hf ht
      have K0 := Lib.hid (Blk.new w 25 #[.int .i64 (W : Int), .int .i64 (H : Int), .string T])
      go_enter Try.func8, Try.ntmps8
      go_wp2_with fail
      refine (HON.out _).mono ?_
      rintro e w1 ⟨rfl, b1⟩
      have HE := Lib.hid (ext_trans (ext_alloc (Ext.rfl' w) _) b1)
      have k1 := fun i => (K0.out.ext b1).cell i
      clear b1
      go_wp2_with fail
      refine (HOT.out _).mono ?_
      rintro e w2 ⟨rfl, b2⟩
      have HE2 := Lib.hid (ext_trans HE.out b2)
      clear b2
      go_wp2_with fail
      go_ret2
      exact ⟨rfl, HE2.out⟩
end Go.Proofs.Ytmceaocknlnmpaa.Pth
