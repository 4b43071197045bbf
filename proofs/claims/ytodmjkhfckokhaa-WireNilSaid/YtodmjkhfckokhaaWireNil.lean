/-
  For every number the Go function rematchlaw01.WireNil returns true: no reader reads nothing.
-/
import Derived.Test.YtodmjkhfckokhaaWireW
import Derived.Test.YtodmjkhfckokhaaWireA
import Derived.WalkKit
import Derived.ProofKit
import Derived.OpenShut
import Derived.Stop.Joined
import Derived.Below
namespace Go.Proofs.Ytodmjkhfckokhaa.wireNil
open Go.ChangeShapes Go.WideShapes Go.ChangeAt Go.RowKit
set_option linter.unusedVariables false

set_option maxHeartbeats 4000000 in
set_option maxRecDepth 100000 in
theorem walk (n : Int) (w : World) : Calls Try.prog 4 #[.int .i64 n] w fun e w' => e = .returned (.bool true) ∧ Ext w w' := by
  go_enter Try.func4, Try.ntmps4
  go_wp2_with fail
  refine (Wire.num_nil _).mono ?_
  rintro e w0 ⟨rfl, b0⟩
  have E0 := Lib.hid b0; clear b0
  go_wp2_with fail
  refine (Wire.int_nil _).mono ?_
  rintro e w1 ⟨rfl, b1⟩
  have E1 := Lib.hid b1; clear b1
  go_wp2_with fail
  refine (Wire.signed_nil _).mono ?_
  rintro e w2 ⟨rfl, b2⟩
  have E2 := Lib.hid b2; clear b2
  go_wp2_with fail
  refine (Wire.fixed_nil _).mono ?_
  rintro e w3 ⟨rfl, b3⟩
  have E3 := Lib.hid b3; clear b3
  go_wp2_with fail
  refine (Wire.text_nil _ _).mono ?_
  rintro e w4 ⟨rfl, b4⟩
  have E4 := Lib.hid b4; clear b4
  go_wp2_with fail
  refine (Wire.bytes_nil _ _).mono ?_
  rintro e w5 ⟨rfl, b5⟩
  have E5 := Lib.hid b5; clear b5
  go_wp2_with fail
  refine (Wire.at_nil _).mono ?_
  rintro e w6 ⟨rfl, b6⟩
  have E6 := Lib.hid b6; clear b6
  go_wp2_with fail
  refine (Wire.left_nil _).mono ?_
  rintro e w7 ⟨rfl, b7⟩
  have E7 := Lib.hid b7; clear b7
  go_wp2_with fail
  refine (Wire.err_nil _).mono ?_
  rintro e w8 ⟨rfl, b8⟩
  have E8 := Lib.hid b8; clear b8
  go_wp2_with fail
  refine (Wire.end_nil _).mono ?_
  rintro e w9 ⟨rfl, b9⟩
  have E9 := Lib.hid b9; clear b9
  go_wp2_with fail
  refine (Wire.wakes _).mono ?_
  rintro e w10 ⟨rfl, b10⟩
  have E10 := Lib.hid b10; clear b10
  go_wp2_with fail
  go_ret
  exact ⟨rfl, (ext_trans (ext_trans (ext_trans (ext_trans (ext_trans (ext_trans (ext_trans (ext_trans (ext_trans (ext_trans E0.out E1.out) E2.out) E3.out) E4.out) E5.out) E6.out) E7.out) E8.out) E9.out) E10.out)⟩
theorem own : ownKnob Try.prog.godebug = none := by kernel_rfl
set_option maxRecDepth 100000 in
theorem lifted (os : Os) (started : os.Started) (H : Type) (enc : TypeId × Value → H) :
    ReturnsInHanded {} Try.checked os 4 .any (Rows.wireNilSpec.pre6 enc Try.prog Try.f4 Rows.wireNilRow.domain false) (Rows.wireNilSpec.post enc Try.prog Try.f4 false true false false) := by
  refine returnsInHanded_of_change (C := Try.checked) own started (by kernel_rfl) Try.func4
    (ChangeSpec.witness6 (enc := enc) (C := Try.checked) false ⟨#[], #[.int .i64 0], []⟩ 8 (by kernel_rfl) (by kernel_rfl) (by kernel_rfl) (by kernel_rfl)) ?_
  intro W base args ds gs before hval0 hW hcnd _
  have hval : ∀ (j : Nat) t v, Try.f4.params[j]? = some t → args[j]? = some v → Value.okWide Try.prog W .any base t v := hval0
  have hW' := hW
  obtain ⟨p, q, hA0, hV, rfl, hfz, hnd⟩ := hW
  have hA : DataW.TrodAll enc Try.prog W 0 (fun _ => true) true Try.f4.params.toList args.toList ds p := hA0
  rw [Try.params4] at hA hval
  obtain ⟨v0, vs0, d0, ds0, p0, q0, hargs, rfl, rfl, h0, r0⟩ := trodAll_cons hA
  obtain ⟨rfl, rfl, rfl⟩ := trodAll_nil r0
  obtain rfl : args = #[v0] := by cases args; simp_all
  obtain ⟨rfl, rfl⟩ := trodVars_none hV
  obtain ⟨a0, rfl, rfl, rfl, w0⟩ := open_int Try.underlying3 (hval 0 3 v0 rfl rfl) h0
  clear hA0 hval0
  simp only [List.append_nil] at hW'
  refine (walk a0 W).mono fun e W' ⟨he, hg⟩ => ?_
  subst he
  exact ⟨_, rfl, post_of_ext (pa := []) (pv := []) hW' (fun _ _ _ => (trodAll_cons_mk (shut_bool Try.underlying4 _) trodAll_mk0))
    (fun sp _ => (trodAll_cons_mk (shut_int Try.underlying3 w0) trodAll_mk0)) (fun _ _ => rfl) rfl
    hg (ok_one (by kernel_rfl) rfl (okWide_bool_mk Try.underlying4 _))⟩

theorem over : Rows.wireNilRow.holds Try.pinned (OpenSpec.ofChange Rows.wireNilSpec) :=
  OpenClaim.holds_of_wide 4 Try.f4 rfl rfl rfl rfl rfl rfl rfl ⟨rfl, rfl, rfl, rfl, rfl⟩ rfl rfl rfl rfl rfl (by kernel_rfl) Try.func4 (by kernel_rfl)
    (of_decide_eq_true (by kernel_rfl)) (by unfold Func.isWrapper; first | (rw [if_pos (by decide +kernel)]; kernel_rfl) | (rw [if_neg (by decide +kernel)]; exact ⟨rfl, rfl⟩))
    (fun os started H enc _ => lifted os started H enc)
theorem proved : Rows.WireNilSaid :=
  over
#print axioms proved
end Go.Proofs.Ytodmjkhfckokhaa.wireNil
