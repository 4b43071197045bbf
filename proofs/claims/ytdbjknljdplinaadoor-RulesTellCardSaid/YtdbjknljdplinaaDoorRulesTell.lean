/-
  For every two uint8 the Go function rematchlaw09.RulesTell returns true: any kind's rule, and who makes whom, are what the document's table says. (The row's own condition: rematch/rules.kinds starts as the program's text lays it; the card ties that to the text.)
-/
import Derived.Test.YtdbjknljdplinaaDoorRulZ1
import Derived.Test.YtdbjknljdplinaaDoorRulZ2
import Derived.Test.YtdbjknljdplinaaDoorRulZ3
import Derived.Test.YtdbjknljdplinaaDoorRulZ4
import Derived.Test.YtdbjknljdplinaaDoorRulZ5
import Derived.Test.YtdbjknljdplinaaDoorTie
import Derived.Test.YtdbjknljdplinaaDoorCards
import Derived.SevenTiedAt
import Derived.LaidMore
import Derived.Stop.Joined
import Derived.WalkKit
import Derived.ProofKit
import Derived.OpenShut
namespace Go.Proofs.YtdbjknljdplinaaDoor.rulesTell
open Go.ChangeShapes Go.WideShapes Go.ChangeAt Go.RowKit
set_option linter.unusedVariables false

theorem own : ownKnob Tryd.prog.godebug = none := by kernel_rfl
theorem no_maker {m k : Nat} (h : Rul.makerN k ≠ (m : Int)) : Rul.makesB m k = false := by
  unfold Rul.makesB
  simp [h]
theorem makes_no (m k : Nat) (hm : m < 256) (hk : k < 256) (h : Rul.makerN k ≠ (m : Int)) (W : World) (hW : Rul.Tab W) : Calls Tryd.prog 7 #[.int .u8 (m : Int), .int .u8 (k : Int)] W fun e w' => e = .returned (.bool false) ∧ Ext W w' := by
  have := Rul.makes m k hm hk W hW
  rwa [no_maker h] at this
theorem walk (a0 a1 : Int) (w0 : (Lit.int .u8 a0).wf = true) (w1 : (Lit.int .u8 a1).wf = true) (w : World) (h : Rul.Tab w) :
    Calls Tryd.prog 3 #[.int .u8 a0, .int .u8 a1] w fun e w' => e = .returned (.bool true) ∧ Ext w w' := by
  obtain ⟨l0, u0⟩ := bounds_u8 w0
  obtain ⟨l1, u1⟩ := bounds_u8 w1
  obtain ⟨n, rfl⟩ := Int.eq_ofNat_of_zero_le l0
  obtain ⟨m, rfl⟩ := Int.eq_ofNat_of_zero_le l1
  cases hk : Rul.isN n with
  | false => exact Rul.tell_none n m (by omega) (by omega) hk w h
  | true =>
    have : n = 1 ∨ n = 2 ∨ n = 3 ∨ n = 4 ∨ n = 5 := by simp [Rul.isN] at hk; omega
    rcases this with rfl | rfl | rfl | rfl | rfl
    · rcases Nat.eq_zero_or_pos m with rfl | h0
      · exact Rul.tell_1_0 w h
      · exact Rul.tell_1_z m (by omega) (by omega) (beq_eq_false_iff_ne.2 (by omega)) (fun W hW => makes_no m 1 (by omega) (by omega) (by rw [show Rul.makerN 1 = 0 from by decide]; omega) W hW) w h
    · rcases Nat.eq_zero_or_pos m with rfl | h0
      · exact Rul.tell_2_0 w h
      · by_cases hq : m = 1
        · subst hq
          exact Rul.tell_2_1 w h
        · exact Rul.tell_2_z m (by omega) (by omega) (beq_eq_false_iff_ne.2 (by omega)) (fun W hW => makes_no m 2 (by omega) (by omega) (by rw [show Rul.makerN 2 = 1 from by decide]; omega) W hW) w h
    · rcases Nat.eq_zero_or_pos m with rfl | h0
      · exact Rul.tell_3_0 w h
      · by_cases hq : m = 5
        · subst hq
          exact Rul.tell_3_5 w h
        · exact Rul.tell_3_z m (by omega) (by omega) (beq_eq_false_iff_ne.2 (by omega)) (fun W hW => makes_no m 3 (by omega) (by omega) (by rw [show Rul.makerN 3 = 5 from by decide]; omega) W hW) w h
    · rcases Nat.eq_zero_or_pos m with rfl | h0
      · exact Rul.tell_4_0 w h
      · by_cases hq : m = 5
        · subst hq
          exact Rul.tell_4_5 w h
        · exact Rul.tell_4_z m (by omega) (by omega) (beq_eq_false_iff_ne.2 (by omega)) (fun W hW => makes_no m 4 (by omega) (by omega) (by rw [show Rul.makerN 4 = 5 from by decide]; omega) W hW) w h
    · rcases Nat.eq_zero_or_pos m with rfl | h0
      · exact Rul.tell_5_0 w h
      · by_cases hq : m = 2
        · subst hq
          exact Rul.tell_5_2 w h
        · exact Rul.tell_5_z m (by omega) (by omega) (beq_eq_false_iff_ne.2 (by omega)) (fun W hW => makes_no m 5 (by omega) (by omega) (by rw [show Rul.makerN 5 = 2 from by decide]; omega) W hW) w h
theorem door_met (os : Os) (args : Array Value) : laidMetH Tryd.prog Rows.rulesTellRow.laid ((World.doorLaid Tryd.prog 400 os).forCall (fun _ _ => 0) ⟨#[], args, []⟩).memory :=
  laidMetH_of_parts3 (fuel := 8) (laidMet_of_run' 8 (by kernel_rfl) (by kernel_rfl)) (by kernel_rfl) (by kernel_rfl)
set_option maxRecDepth 100000 in
theorem lifted (os : Os) (started : os.Started) (H : Type) (enc : TypeId × Value → H) :
    ReturnsInHanded {} Tryd.checked os 3 .any (fun w args => (Rows.rulesTellSpec.pre enc Tryd.prog Tryd.f3 [] false w args ∧ laidMetH Tryd.prog Rows.rulesTellRow.laid w) ∧ sizedMet enc Tryd.prog Tryd.f3 (OpenSpec.ofChange Rows.rulesTellSpec) false w args)
      (Rows.rulesTellSpec.post enc Tryd.prog Tryd.f3 false true false false) := by
  refine returnsInHanded_of_change_and (C := Tryd.checked) (X := fun w _ => laidMetH Tryd.prog Rows.rulesTellRow.laid w) (fun _ _ _ hh h => h.of_heap hh) own started (by kernel_rfl) Tryd.func3
    (ChangeSpec.witness_shaped (enc := enc) (C := Tryd.checked) (os := os) (X := fun w _ => laidMetH Tryd.prog Rows.rulesTellRow.laid w) false (World.doorLaid Tryd.prog 400 os) #[.int .u8 0, .int .u8 0] 8 rfl (World.shaped_of_RefB (by kernel_rfl) (by kernel_rfl)) (by kernel_rfl) (by kernel_rfl) (by kernel_rfl) (door_met os _)) ?_
  intro W base args ds gs before hval0 hW _ _ hL _
  have hval : ∀ (j : Nat) t v, Tryd.f3.params[j]? = some t → args[j]? = some v → Value.okWide Tryd.prog W .any base t v := hval0
  have hW' := hW
  obtain ⟨p, q, hA0, hV, rfl, hfz, hnd⟩ := hW
  have hA : DataW.TrodAll enc Tryd.prog W 0 (fun _ => true) true Tryd.f3.params.toList args.toList ds p := hA0
  rw [Tryd.params3] at hA hval
  obtain ⟨v0, vs0, d0, ds0, p0, q0, hargs, rfl, rfl, h0, r0⟩ := trodAll_cons hA
  obtain ⟨v1, vs1, d1, ds1, p1, q1, rfl, rfl, rfl, h1, r1⟩ := trodAll_cons r0
  obtain ⟨rfl, rfl, rfl⟩ := trodAll_nil r1
  obtain rfl : args = #[v0, v1] := by cases args; simp_all
  obtain ⟨rfl, rfl⟩ := trodVars_none hV
  obtain ⟨a0, rfl, rfl, rfl, w0⟩ := open_int Tryd.underlying5 (hval 0 5 v0 rfl rfl) h0
  obtain ⟨a1, rfl, rfl, rfl, w1⟩ := open_int Tryd.underlying5 (hval 1 5 v1 rfl rfl) h1
  clear hA0 hval0
  simp only [List.append_nil] at hW'
  have hT : Rul.Tab W := Rul.tab_of_var (Rul.var_of (show laidMetH Tryd.prog Rows.rulesTellRow.laid W from hL))
  refine (walk a0 a1 w0 w1 W hT).mono fun e W' ⟨he, hg⟩ => ?_
  subst he
  exact ⟨_, rfl, post_of_ext (pa := []) (pv := []) hW' (fun _ _ _ => (trodAll_cons_mk (shut_bool Tryd.underlying4 _) trodAll_mk0)) (fun sp _ => (trodAll_cons_mk (shut_int Tryd.underlying5 w0) (trodAll_cons_mk (shut_int Tryd.underlying5 w1) trodAll_mk0))) (fun _ _ => rfl) rfl
    hg (ok_one (by kernel_rfl) rfl (okWide_bool_mk Tryd.underlying4 _))⟩
theorem over : Rows.rulesTellRow.holds Tryd.pinned (OpenSpec.ofChange Rows.rulesTellSpec) :=
  OpenClaim.holds_of_wide 3 Tryd.f3 rfl rfl rfl rfl rfl rfl rfl ⟨rfl, rfl, rfl, rfl, rfl⟩ rfl rfl rfl rfl rfl (by kernel_rfl) Tryd.func3 (by kernel_rfl)
    (of_decide_eq_true (by kernel_rfl)) (by unfold Func.isWrapper; first | (rw [if_pos (by decide +kernel)]; kernel_rfl) | (rw [if_neg (by decide +kernel)]; exact ⟨rfl, rfl⟩))
    (fun os started H enc _ => lifted os started H enc)
theorem proved : Rows.RulesTellCardSaid :=
  Claim7.holds_tied_plain_at .later [] [.data] true _ false
    over (fun _ h => by cases h) (by kernel_rfl) (fun _ h => by cases h) rulesTell_row_tie rfl ⟨rfl, rfl⟩ (by kernel_rfl) rfl
    (fun f fn hf hfn => by
      obtain rfl : f = 3 := Option.some.inj ((show Tryd.prog.funcNamed "rematch/rematchlaw09.RulesTell" = some 3 by kernel_rfl).symm.trans hf) |>.symm
      obtain rfl : fn = Tryd.f3 := (Option.some.inj (Tryd.func3.symm.trans hfn)).symm
      exact ⟨by kernel_rfl, fun j t ht => by
        rw [Tryd.params3] at ht
        have hm : t ∈ [5] := by simpa using Array.mem_of_getElem? ht
        have hall : ([5].all fun u => !Tryd.prog.wantsStandIn u) = true := by kernel_rfl
        exact (show Tryd.prog.wantsStandIn t = false by simpa using List.all_eq_true.1 hall t hm)⟩)
    (by kernel_rfl)
#print axioms proved
end Go.Proofs.YtdbjknljdplinaaDoor.rulesTell
