/- The walk of the law: the difference is the document's. -/
import Derived.Test.YtodmjkhfckokhaaDelY
import Derived.Test.YtodmjkhfckokhaaDelS
namespace Go.Proofs.Ytodmjkhfckokhaa.Delta
open Go.ChangeShapes Go.WideShapes Go.ChangeAt Go.RowKit
open Go.Proofs.Ytodmjkhfckokhaa.Wire
set_option linter.unusedVariables false

set_option maxHeartbeats 8000000 in
set_option maxRecDepth 100000 in
theorem diffs (A B : Option Addr) (n c n2 c2 : Nat) (xs ys : List Nat) (hn : n ≤ 400) (hn2 : n2 ≤ 400) (w : World) (hA : Bs w A n xs) (hB : Bs w B n2 ys) :
    Calls Try.prog 6 #[.slice A n c, .slice B n2 c2] w fun e w' => e = .returned (.bool true) ∧ Ext w w' := by
  have HA := Lib.hid hA; have HB := Lib.hid hB
  have hxs : (strOf xs).size ≤ 400 := by rw [strOf_size, hA.1]; exact hn
  have hys : (strOf ys).size ≤ 400 := by rw [strOf_size, hB.1]; exact hn2
  have HRF : Hid (∀ W, Calls Try.prog 32 #[.string (strOf xs), .string (strOf ys)] W fun e w' => e = .returned (.string (strOf (diff xs ys))) ∧ Ext W w') := Lib.hid (fun W => by
    have := refDiff (strOf xs) (strOf ys) W hxs hys
    rwa [nats_strOf hA.2.1, nats_strOf hB.2.1] at this)
  have HDS := Lib.hid (diff_small hA.2.1 hB.2.1)
  have MKS := Lib.hid (fun (w' : World) (e : Ext w w') => (⟨conv8 (hA.ext e) c, conv8 (hB.ext e) c2, Lib.hid e⟩ : (convert 22 9 (.slice A n c)).run Try.prog w' = .ok (.string (strOf xs)) w' ∧ (convert 22 9 (.slice B n2 c2)).run Try.prog w' = .ok (.string (strOf ys)) w' ∧ Hid (Ext w w')))
  have E0 := Lib.hid (ext_drew (Ext.rfl' w))
  clear hA hB
  generalize hD : diff xs ys = D at *
  generalize strOf xs = X at *
  generalize strOf ys = Y at *
  go_enter Try.func6, Try.ntmps6
  go_wp2_with fail
  have HDD := Lib.hid hD; clear hD
  obtain ⟨ca, cb, HE⟩ := MKS.out _ E0.out
  go_region_with (first
      | (go_at_call 31; refine (ddiff A B n c n2 c2 xs ys _ (HA.out.ext HE.out) (HB.out.ext HE.out) (by omega) (by omega)).mono ?_; rintro e w8 ⟨g1, k1, rfl, q1, q2, q3, hO8, b8⟩; rw [HDD.out] at hO8 ⊢; have HO8 := Lib.hid (Own.bs hO8 HDS.out); have c8 := conv8 (Own.bs hO8 HDS.out) k1; have HE2 := Lib.hid (ext_trans HE.out b8); clear hO8 q1 q2 q3 b8 HE ca cb; have HE := HE2; clear HE2; obtain ⟨ca, cb, _⟩ := MKS.out _ HE.out)
      | (go_at_call 32; refine (HRF.out _).mono ?_; rintro e w9 ⟨rfl, b9⟩; (try have c9 := conv8 (HO8.out.ext b9) k1); have HE2 := Lib.hid (ext_trans HE.out b9); clear b9 HE ca cb; have HE := HE2; clear HE2; obtain ⟨ca, cb, _⟩ := MKS.out _ HE.out)
      | (go_at_call 30; refine (wakes _).mono ?_; rintro e w7 ⟨rfl, b7⟩))
  all_goals
    go_wp2_with fail
    go_ret
    exact ⟨rfl, ext_trans HE.out b7⟩
end Go.Proofs.Ytodmjkhfckokhaa.Delta
