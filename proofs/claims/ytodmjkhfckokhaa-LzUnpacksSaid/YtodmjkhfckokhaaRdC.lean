/- The document's reader: a number. -/
import Derived.Test.YtodmjkhfckokhaaRdB
namespace Go.Proofs.Ytodmjkhfckokhaa.Ref
open Go.ChangeShapes Go.WideShapes Go.ChangeAt Go.RowKit
open Go.Proofs.Ytodmjkhfckokhaa.Wire
set_option linter.unusedVariables false

def NOut (w : World) (s : ByteArray) (i most : Nat) (R : VR) (e : Ending) (w' : World) : Prop :=
  Ext w w' ∧ match R with
  | .short => e = .returned (.tuple #[.int .u64 0, RV s i 3])
  | .form => e = .returned (.tuple #[.int .u64 0, RV s i 4])
  | .ok v k => if v ≤ most then e = .returned (.tuple #[.int .u64 (v : Int), RV (s.extract k s.size) (i + k) 0]) else e = .returned (.tuple #[.int .u64 0, RV s i 4])
set_option maxHeartbeats 8000000 in
set_option maxRecDepth 100000 in
theorem rnum (s : ByteArray) (i most : Nat) (w : World) (hs : s.size ≤ 1000000) (hi : i ≤ 1000000) : Calls Try.prog 66 #[RV s i 0, .int .u64 (most : Int)] w (NOut w s i most (vr 0 0 (natsOf s))) := by
  have HC := Lib.hid (fun W => varint s W (by omega))
  have HK := Lib.hid (fun v k (h : vr 0 0 (natsOf s) = .ok v k) => (vr_ok (mem_small (natsOf_small s)) h))
  have HL := Lib.hid (natsOf_len s)
  generalize vr 0 0 (natsOf s) = R at *
  go_enter Try.func66, Try.ntmps66
  go_wp2_with fail
  refine (HC.out _).mono ?_
  rintro e w1 ⟨rfl, hR⟩
  cases R with
  | short =>
    obtain rfl := hR
    go_wp2_with fail
    refine (fails s i 0 3 _).mono ?_
    rintro e w1 ⟨rfl, b1⟩
    obtain ⟨hc, hf⟩ := ecell b1
    have hz := b1.size
    simp at hz
    have h1 : w.heap.size + 1 < w1.heap.size := by omega
    go_wp2_with fail
    exact bodyPost_ret (v := .tuple #[.int .u64 0, RV s i 3]) (by simp [results, Try.results66, go_sem, hc]) rfl ⟨ext_set3 (ext_trans (ext_alloc (ext_alloc (Ext.rfl' w) _) _) b1) (by omega) _ _ _, rfl⟩
  | form =>
    obtain rfl := hR
    go_wp2_with fail
    refine (fails s i 0 4 _).mono ?_
    rintro e w1 ⟨rfl, b1⟩
    obtain ⟨hc, hf⟩ := ecell b1
    have hz := b1.size
    simp at hz
    have h1 : w.heap.size + 1 < w1.heap.size := by omega
    go_wp2_with fail
    exact bodyPost_ret (v := .tuple #[.int .u64 0, RV s i 4]) (by simp [results, Try.results66, go_sem, hc]) rfl ⟨ext_set3 (ext_trans (ext_alloc (ext_alloc (Ext.rfl' w) _) _) b1) (by omega) _ _ _, rfl⟩
  | ok v k =>
    obtain rfl := hR
    obtain ⟨-, -, -, hk2⟩ := HK.out v k rfl
    rw [HL.out] at hk2
    by_cases hm : v ≤ most
    · have hm1 : ¬ (most : Int) < (v : Int) := by omega
      have HM := Lib.hid hm
      go_wp2_with fail
      refine (skip s i k 0 _ hk2 (by omega) (by omega)).mono ?_
      rintro e w1 ⟨rfl, b1⟩
      obtain ⟨hc, hf⟩ := ecell b1
      have hz := b1.size
      simp at hz
      have h1 : w.heap.size + 1 < w1.heap.size := by omega
      go_wp2_with fail
      exact bodyPost_ret (v := .tuple #[.int .u64 (v : Int), RV (s.extract k s.size) (i + k) 0]) (by simp [results, Try.results66, go_sem, hc]) rfl ⟨ext_set3 (ext_trans (ext_alloc (ext_alloc (Ext.rfl' w) _) _) b1) (by omega) _ _ _, by simp only [if_pos HM.out]⟩
    · have hm1 : (most : Int) < (v : Int) := by omega
      have HM := Lib.hid hm
      go_wp2_with fail
      refine (fails s i 0 4 _).mono ?_
      rintro e w1 ⟨rfl, b1⟩
      obtain ⟨hc, hf⟩ := ecell b1
      have hz := b1.size
      simp at hz
      have h1 : w.heap.size + 1 < w1.heap.size := by omega
      go_wp2_with fail
      exact bodyPost_ret (v := .tuple #[.int .u64 0, RV s i 4]) (by simp [results, Try.results66, go_sem, hc]) rfl ⟨ext_set3 (ext_trans (ext_alloc (ext_alloc (Ext.rfl' w) _) _) b1) (by omega) _ _ _, by simp only [if_neg HM.out]⟩
end Go.Proofs.Ytodmjkhfckokhaa.Ref
