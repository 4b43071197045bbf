/-
  For every uint64 the Go function rematchlaw05.FixRoot returns true: fix.Root of a number is the greatest one whose square is not greater (no condition beside the row's own).
-/
import Derived.Test.YtdbjknljdplinaaFixD
import Derived.WalkKit
import Derived.ProofKit
import Derived.OpenShut
namespace Go.Proofs.Ytdbjknljdplinaa.fixRoot
open Go.ChangeShapes Go.WideShapes Go.ChangeAt Go.RowKit
set_option linter.unusedVariables false      -- a walk need not use every 'w<i>' (that an integer argument fits its kind)

theorem own : ownKnob Try.prog.godebug = none := by kernel_rfl

/-! ### STEP 1: THE WALK: the Go text returns true. 'Grown w w'': the world has at most new blocks (Derived/RowKit3.lean). Part the cases AHEAD of 'go_enter' where a test parts the walk; take each callee by a contract of your own. -/
theorem walk_nat (n : Nat) (hn : n < 18446744073709551616) (w : World) :
    Calls Try.prog 4 #[.int .u64 (n : Int)] w fun e w' => e = .returned (.bool true) ∧ Ext w w' := by
  obtain ⟨r, hr⟩ := Fix.root_exists n
  have hc := Fix.root_at (n := n) rfl hn hr
  have h1 : (r : Int) * (r : Int) ≤ (n : Int) := by have := hr.1; rw [← Int.natCast_mul]; omega
  have h0 : 0 ≤ (r : Int) * (r : Int) := Int.mul_nonneg (by omega) (by omega)
  have h2 : (n : Int) < ((r : Int) + 1) * ((r : Int) + 1) := by have := hr.2; rw [show (r : Int) + 1 = ((r + 1 : Nat) : Int) from by omega, ← Int.natCast_mul]; omega
  have hlt : r < 4294967296 := by
    rcases Nat.lt_or_ge r 4294967296 with h | h
    · exact h
    · have := Nat.mul_le_mul h h; have := hr.1; omega
  have HC := Lib.hid hc; clear hc hr
  by_cases hb : r = 4294967295
  · have e1 : ((r : Int) == 4294967295) = true := beq_iff_eq.2 (by omega)
    clear hb h2
    go_enter Try.func4, Try.ntmps4
    go_wp2_with fail
    refine (HC.out _).mono ?_
    rintro e w' ⟨rfl, rfl⟩
    go_wp2_with fail
    refine (Fix.wakes _).mono ?_
    rintro e w2 ⟨rfl, g⟩
    go_wp2_with fail
    go_ret
    exact ⟨rfl, g⟩
  · have e1 : ((r : Int) == 4294967295) = false := beq_eq_false_iff_ne.2 (by omega)
    obtain ⟨M, h3, h4⟩ : ∃ M : Nat, ((r : Int) + 1) * ((r : Int) + 1) ≤ (M : Int) ∧ M < 18446744073709551616 := by
      have : (r + 1) * (r + 1) ≤ 4294967295 * 4294967295 := Nat.mul_le_mul (by omega) (by omega)
      refine ⟨(r + 1) * (r + 1), ?_, by omega⟩
      rw [show (r : Int) + 1 = ((r + 1 : Nat) : Int) from by omega, ← Int.natCast_mul]; omega
    clear hb
    go_enter Try.func4, Try.ntmps4
    go_wp2_with fail
    refine (HC.out _).mono ?_
    rintro e w' ⟨rfl, rfl⟩
    go_wp2_with fail
    refine (Fix.wakes _).mono ?_
    rintro e w2 ⟨rfl, g⟩
    go_wp2_with fail
    go_ret
    exact ⟨rfl, g⟩
theorem walk (a0 : Int) (w0 : (Lit.int .u64 a0).wf = true) (w : World) :
    Calls Try.prog 4 #[.int .u64 a0] w fun e w' => e = .returned (.bool true) ∧ Ext w w' := by
  obtain ⟨l0, u0⟩ := bounds_u64 w0
  obtain ⟨n, rfl⟩ := Int.eq_ofNat_of_zero_le l0
  exact walk_nat n (by omega) w

/-! ### THE ROW's STEP: WRITTEN OUT: LEAVE IT -/
set_option maxRecDepth 100000 in
theorem lifted (os : Os) (started : os.Started) (H : Type) (enc : TypeId × Value → H) :
    ReturnsInHanded {} Try.checked os 4 .any (Rows.fixRootSpec.pre6 enc Try.prog Try.f4 Rows.fixRootRow.domain false) (Rows.fixRootSpec.post enc Try.prog Try.f4 false true false false) := by
  refine returnsInHanded_of_change (C := Try.checked) own started (by kernel_rfl) Try.func4
    (ChangeSpec.witness6 (enc := enc) (C := Try.checked) false ⟨#[], #[.int .u64 0], []⟩ 8 (by kernel_rfl) (by kernel_rfl) (by kernel_rfl) (by kernel_rfl)) ?_
  intro W base args ds gs before hval0 hW hcnd _
  have hval : ∀ (j : Nat) t v, Try.f4.params[j]? = some t → args[j]? = some v → Value.okWide Try.prog W .any base t v := hval0
  have hW' := hW
  obtain ⟨p, q, hA0, hV, rfl, hfz, hnd⟩ := hW
  have hA : DataW.TrodAll enc Try.prog W 0 (fun _ => true) true Try.f4.params.toList args.toList ds p := hA0
  rw [Try.params4] at hA hval
  obtain ⟨v0, vs0, d0, ds0, p0, q0, hargs, rfl, rfl, h0, r0⟩ := trodAll_cons hA
  obtain ⟨rfl, rfl, rfl⟩ := trodAll_nil r0
  obtain rfl : args = #[v0] := by cases args; simp_all
  obtain ⟨rfl, rfl⟩ := trodVars_none hV
  obtain ⟨a0, rfl, rfl, rfl, w0⟩ := open_int Try.underlying40 (hval 0 40 v0 rfl rfl) h0
  clear hA0 hval0
  simp only [List.append_nil] at hW'
  refine (walk a0 w0 W).mono fun e W' ⟨he, hg⟩ => ?_
  subst he
  exact ⟨_, rfl, post_of_ext (pa := []) (pv := []) hW' (fun _ _ _ => (trodAll_cons_mk (shut_bool Try.underlying4 _) trodAll_mk0)) (fun sp _ => (trodAll_cons_mk (shut_int Try.underlying40 w0) trodAll_mk0)) (fun _ _ => rfl) rfl
    hg (ok_one (by kernel_rfl) rfl (okWide_bool_mk Try.underlying4 _))⟩

theorem over : Rows.fixRootRow.holds Try.pinned (OpenSpec.ofChange Rows.fixRootSpec) :=
  OpenClaim.holds_of_wide 4 Try.f4 rfl rfl rfl rfl rfl rfl rfl ⟨rfl, rfl, rfl, rfl, rfl⟩ rfl rfl rfl rfl rfl (by kernel_rfl) Try.func4 (by kernel_rfl)
    (of_decide_eq_true (by kernel_rfl)) (by unfold Func.isWrapper; first | (rw [if_pos (by decide +kernel)]; kernel_rfl) | (rw [if_neg (by decide +kernel)]; exact ⟨rfl, rfl⟩))
    (fun os started H enc _ => lifted os started H enc)

/-- ████ THE STATEMENT ████ -/
theorem proved : Rows.FixRootSaid :=
  over
#print axioms proved
end Go.Proofs.Ytdbjknljdplinaa.fixRoot
