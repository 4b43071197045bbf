/- The document's reader: what fails, what is skipped. -/
import Derived.Test.YtodmjkhfckokhaaWireRef
import Derived.Test.YtodmjkhfckokhaaCom
namespace Go.Proofs.Ytodmjkhfckokhaa.Ref
open Go.ChangeShapes Go.WideShapes Go.ChangeAt Go.RowKit
open Go.Proofs.Ytodmjkhfckokhaa.Wire
set_option linter.unusedVariables false

theorem ext_set3 {a w : World} {B : Nat} (h : Ext a w) (hb : a.heap.size ≤ B) (x y z : Value) : Ext a (((w.setCell ⟨B, 0, none⟩ x).setCell ⟨B, 1, none⟩ y).setCell ⟨B, 2, none⟩ z) := ext_set (ext_set (ext_set h hb x) hb y) hb z
/-- A reader, as a value. -/
abbrev RV (s : ByteArray) (i : Nat) (e : Int) : Value := .agg #[.string s, .int .i64 (i : Int), .int .i64 e]
set_option maxHeartbeats 1000000 in
theorem fails (s : ByteArray) (i : Nat) (e0 f : Int) (w : World) : Calls Try.prog 75 #[RV s i e0, .int .i64 f] w fun e w' => e = .returned (RV s i f) ∧ Ext w w' := by
  go_enter Try.func75, Try.ntmps75
  go_wp2_with fail
  exact bodyPost_ret (v := RV s i f) (by simp [results, Try.results75, go_sem]) rfl ⟨rfl, ext_alloc (ext_alloc (Ext.rfl' w) _) _⟩
set_option maxHeartbeats 4000000 in
set_option maxRecDepth 100000 in
theorem skip (s : ByteArray) (i n : Nat) (e0 : Int) (w : World) (hn : n ≤ s.size) (hs : s.size ≤ 4000000000) (hi : i ≤ 4000000000) :
    Calls Try.prog 76 #[RV s i e0, .int .i64 (n : Int)] w fun e w' => e = .returned (RV (s.extract n s.size) (i + n) e0) ∧ Ext w w' := by
  have h0 : (0 : Int) ≤ (n : Int) := by omega
  have h1 : (n : Int) ≤ (s.size : Int) := by omega
  have hw : IntKind.i64.wrap ((i : Int) + (n : Int)) = (i : Int) + (n : Int) := IntWalk.i64_in _ (by omega)
  go_enter Try.func76, Try.ntmps76
  go_wp2_with fail
  refine wp_still_tail 11 (by kernel_rfl) (by kernel_rfl) ?_
  simp only [List.take_succ_cons, List.take_zero, List.drop_succ_cons, List.drop_zero]
  repeat still_step
  refine wpStill_nil ?_
  go_wp2_with fail
  exact bodyPost_ret (v := RV (s.extract n s.size) (i + n) e0) (by simp [results, Try.results76, go_sem]) rfl ⟨rfl, ext_drew (ext_alloc (ext_alloc (Ext.rfl' w) _) _)⟩
set_option maxHeartbeats 4000000 in
set_option maxRecDepth 100000 in
theorem bytes_low (s : ByteArray) (i : Nat) (n : Int) (w : World) (hn : n < 0) :
    Calls Try.prog 65 #[RV s i 0, .int .i64 n] w fun e w' => e = .returned (.tuple #[.string ⟨#[]⟩, RV s i 4]) ∧ Ext w w' := by
  go_enter Try.func65, Try.ntmps65
  go_wp2_with fail
  refine (fails s i 0 4 _).mono ?_
  rintro e w1 ⟨rfl, b1⟩
  obtain ⟨hc, hf⟩ := ecell b1
  have hz := b1.size
  simp at hz
  have h1 : w.heap.size + 1 < w1.heap.size := by omega
  go_wp2_with fail
  exact bodyPost_ret (v := .tuple #[.string ⟨#[]⟩, RV s i 4]) (by simp [results, Try.results65, go_sem, hc]) rfl ⟨rfl, ext_set3 (ext_trans (ext_alloc (ext_alloc (Ext.rfl' w) _) _) b1) (by omega) _ _ _⟩
set_option maxHeartbeats 4000000 in
set_option maxRecDepth 100000 in
theorem bytes_short (s : ByteArray) (i n : Nat) (w : World) (hn : s.size < n) :
    Calls Try.prog 65 #[RV s i 0, .int .i64 (n : Int)] w fun e w' => e = .returned (.tuple #[.string ⟨#[]⟩, RV s i 3]) ∧ Ext w w' := by
  have h0 : ¬ (n : Int) < 0 := by omega
  have h2 : (s.size : Int) < (n : Int) := by omega
  go_enter Try.func65, Try.ntmps65
  go_wp2_with fail
  refine (fails s i 0 3 _).mono ?_
  rintro e w1 ⟨rfl, b1⟩
  obtain ⟨hc, hf⟩ := ecell b1
  have hz := b1.size
  simp at hz
  have h1 : w.heap.size + 1 < w1.heap.size := by omega
  go_wp2_with fail
  exact bodyPost_ret (v := .tuple #[.string ⟨#[]⟩, RV s i 3]) (by simp [results, Try.results65, go_sem, hc]) rfl ⟨rfl, ext_set3 (ext_trans (ext_alloc (ext_alloc (Ext.rfl' w) _) _) b1) (by omega) _ _ _⟩
set_option maxHeartbeats 4000000 in
set_option maxRecDepth 100000 in
theorem bytes_ok (s : ByteArray) (i n : Nat) (w : World) (hn : n ≤ s.size) (hs : s.size ≤ 4000000000) (hi : i ≤ 4000000000) :
    Calls Try.prog 65 #[RV s i 0, .int .i64 (n : Int)] w fun e w' => e = .returned (.tuple #[.string (s.extract 0 n), RV (s.extract n s.size) (i + n) 0]) ∧ Ext w w' := by
  have h0 : ¬ (n : Int) < 0 := by omega
  have h2 : ¬ (s.size : Int) < (n : Int) := by omega
  have h3 : (0 : Int) ≤ (n : Int) := by omega
  have h4 : (n : Int) ≤ (s.size : Int) := by omega
  go_enter Try.func65, Try.ntmps65
  go_wp2_with fail
  go_region_with (go_at_call 76; refine (skip s i n 0 _ hn hs hi).mono ?_; rintro e w1 ⟨rfl, b1⟩; obtain ⟨hc, hf⟩ := ecell b1; have hz := b1.size; simp at hz; have h1 : w.heap.size + 1 < w1.heap.size := by omega)
  all_goals
    go_wp2_with fail
    exact bodyPost_ret (v := .tuple #[.string (s.extract 0 n), RV (s.extract n s.size) (i + n) 0]) (by simp [results, Try.results65, go_sem, hc]) rfl ⟨rfl, ext_set3 (ext_trans (ext_drew (ext_alloc (ext_alloc (Ext.rfl' w) _) _)) b1) (by omega) _ _ _⟩
end Go.Proofs.Ytodmjkhfckokhaa.Ref
