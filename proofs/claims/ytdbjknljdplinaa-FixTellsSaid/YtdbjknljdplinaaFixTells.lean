/-
  For every two points, every step and every four ints the Go function rematchlaw05.FixTells returns true: what is between any two points, a step toward, a part of the way, and the middle of a tile, are what the document says (no condition beside the row's own).
-/
import Derived.Test.YtdbjknljdplinaaFixI
import Derived.WalkKit
import Derived.ProofKit
import Derived.OpenShut
import Derived.Lib.SmallJoins
namespace Go.Proofs.Ytdbjknljdplinaa.fixTells
open Go.ChangeShapes Go.WideShapes Go.ChangeAt Go.RowKit Go.Joins
open Go.Proofs.Ytdbjknljdplinaa.Fix (P R I32 Near pt IsRoot sqd)
set_option linter.unusedVariables false

theorem own : ownKnob Try.prog.godebug = none := by kernel_rfl
theorem cellsPoint : Try.prog.cellsOf 24 = 2 := by kernel_rfl
theorem exFar (x y u v : Int) : ∃ f, I32 f ∧ (∀ W, Calls Try.prog 15 #[P x y, P u v] W fun e w' => e = .returned (.int .i32 f) ∧ Ext W w') ∧ (∀ W, Calls Try.prog 16 #[R x y, R u v] W fun e w' => e = .returned (.int .i64 f) ∧ Ext W w') := by
  by_cases hn : Near x y ∧ Near u v
  · obtain ⟨r, hr⟩ := Fix.root_exists (sqd x y u v)
    have := Fix.root_small hr (Fix.sqd_bound hn.1 hn.2).2.2.2.2.2
    exact ⟨r, ⟨by omega, by omega⟩, fun W => Fix.far_yes x y u v r hn.1 hn.2 hr W, fun W => Fix.rfar_yes x y u v r hn.1 hn.2 hr W⟩
  · exact ⟨0, ⟨by omega, by omega⟩, fun W => Fix.far_no x y u v hn W, fun W => Fix.rfar_no x y u v hn W⟩
theorem exToward (x y u v s : Int) (hx : I32 x) (hy : I32 y) (hu : I32 u) (hv : I32 v) : ∃ tx ty tb, I32 tx ∧ I32 ty ∧ (∀ W, Calls Try.prog 13 #[P x y, P u v, .int .i32 s] W fun e w' => e = .returned (.tuple #[P tx ty, .bool tb]) ∧ Ext W w') ∧ (∀ W, Calls Try.prog 14 #[R x y, R u v, .int .i64 s] W fun e w' => e = .returned (.tuple #[R tx ty, .bool tb]) ∧ Ext W w') := by
  by_cases hn : Near x y ∧ Near u v
  · by_cases hs : s < 1 ∨ 256 < s
    · exact ⟨x, y, false, hx, hy, fun W => Fix.toward_none x y u v s hn.1 hn.2 hs W, fun W => Fix.rtoward_none x y u v s hn.1 hn.2 hs W⟩
    · obtain ⟨r, hr⟩ := Fix.root_exists (sqd x y u v)
      have hsm := Fix.root_small hr (Fix.sqd_bound hn.1 hn.2).2.2.2.2.2
      by_cases hrs : (r : Int) ≤ s
      · exact ⟨u, v, true, hu, hv, fun W => Fix.toward_there x y u v s r hn.1 hn.2 (by omega) (by omega) hr hrs W, fun W => Fix.rtoward_there x y u v s r hn.1 hn.2 (by omega) (by omega) hr hrs W⟩
      · have n1 := hn.1; have n2 := hn.2
        obtain ⟨t1, t2⟩ := Fix.pt_in (d := u - x) (a := s) (b := r) (by omega) (by omega) (by omega) (by omega) (by omega)
        obtain ⟨t3, t4⟩ := Fix.pt_in (d := v - y) (a := s) (b := r) (by omega) (by omega) (by omega) (by omega) (by omega)
        exact ⟨_, _, false, ⟨by omega, by omega⟩, ⟨by omega, by omega⟩, fun W => Fix.toward_goes x y u v s r hn.1 hn.2 (by omega) (by omega) hr (by omega) W, fun W => Fix.rtoward_goes x y u v s r hn.1 hn.2 (by omega) (by omega) hr (by omega) W⟩
  · exact ⟨0, 0, false, ⟨by omega, by omega⟩, ⟨by omega, by omega⟩, fun W => Fix.toward_far x y u v s hn W, fun W => Fix.rtoward_far x y u v s hn W⟩
theorem exBetween (x y u v a b : Int) (nb vb : Bool) (n0 : nb = true ↔ Near x y ∧ Near u v) (v0 : vb = true ↔ 1 ≤ b ∧ b ≤ 1048576 ∧ 0 ≤ a ∧ a ≤ b) (hx : I32 x) (hy : I32 y) :
    ∃ zx zy, I32 zx ∧ I32 zy ∧ (∀ W, Calls Try.prog 19 #[P x y, P u v, .int .i64 a, .int .i64 b] W fun e w' => e = .returned (P zx zy) ∧ Ext W w') ∧ (nb = false → zx = 0 ∧ zy = 0) ∧ (nb = true → vb = false → zx = x ∧ zy = y) ∧
      (nb = true → vb = true → ∀ W, Calls Try.prog 18 #[R x y, R u v, .int .i64 a, .int .i64 b] W fun e w' => e = .returned (R zx zy) ∧ Ext W w') := by
  cases nb with
  | false => exact ⟨0, 0, ⟨by omega, by omega⟩, ⟨by omega, by omega⟩, fun W => Fix.between_far x y u v a b (fun h => by have := n0.2 h; cases this) W, fun _ => ⟨rfl, rfl⟩, (fun h => by cases h), fun h => by cases h⟩
  | true =>
    have hn := n0.1 rfl
    cases vb with
    | false =>
      have hb : b < 1 ∨ 1048576 < b ∨ a < 0 ∨ b < a := by
        simp at v0
        omega
      exact ⟨x, y, hx, hy, fun W => Fix.between_none x y u v a b hn.1 hn.2 hb W, fun h => (by cases h), fun _ _ => ⟨rfl, rfl⟩, fun _ h => by cases h⟩
    | true =>
      obtain ⟨j1, j2, j3, j4⟩ := v0.1 rfl
      have n1 := hn.1; have n2 := hn.2
      obtain ⟨t1, t2⟩ := Fix.pt_in (d := u - x) (a := a) (b := b) (by omega) (by omega) j3 j4 j1
      obtain ⟨t3, t4⟩ := Fix.pt_in (d := v - y) (a := a) (b := b) (by omega) (by omega) j3 j4 j1
      exact ⟨_, _, ⟨by omega, by omega⟩, ⟨by omega, by omega⟩, fun W => Fix.between_yes x y u v a b hn.1 hn.2 j1 j2 j3 j4 W, fun h => (by cases h), fun _ h => (by cases h), fun _ _ W => Fix.rmoved x y u v a b hn.1 hn.2 j3 (by omega) j4 j1 (by omega) W⟩
theorem exMiddle (mx my : Int) (mb : Bool) (m0 : mb = true ↔ 0 ≤ mx ∧ mx < 64 ∧ 0 ≤ my ∧ my < 64) :
    ∃ cx cy, I32 cx ∧ I32 cy ∧ (∀ W, Calls Try.prog 20 #[.int .i64 mx, .int .i64 my] W fun e w' => e = .returned (P cx cy) ∧ Ext W w') ∧ (mb = false → cx = 0 ∧ cy = 0) ∧ (mb = true → cx = 256 * mx + 128 ∧ cy = 256 * my + 128) := by
  cases mb with
  | false =>
    have hb : mx < 0 ∨ 63 < mx ∨ my < 0 ∨ 63 < my := by simp at m0; omega
    exact ⟨0, 0, ⟨by omega, by omega⟩, ⟨by omega, by omega⟩, fun W => Fix.middle_no mx my hb W, fun _ => ⟨rfl, rfl⟩, fun h => by cases h⟩
  | true =>
    obtain ⟨j1, j2, j3, j4⟩ := m0.1 rfl
    exact ⟨_, _, ⟨by omega, by omega⟩, ⟨by omega, by omega⟩, fun W => Fix.middle_yes mx my (by omega) (by omega) (by omega) (by omega) W, fun h => (by cases h), fun _ => ⟨by omega, by omega⟩⟩
theorem walk (x y u v s a b mx my : Int) (hx : I32 x) (hy : I32 y) (hu : I32 u) (hv : I32 v) (hs : I32 s) (w : World) :
    Calls Try.prog 3 #[P x y, P u v, .int .i32 s, .int .i64 a, .int .i64 b, .int .i64 mx, .int .i64 my] w fun e w' => e = .returned (.bool true) ∧ Ext w w' := by
  have n0 : decide (Near x y ∧ Near u v) = true ↔ Near x y ∧ Near u v := decide_eq_true_iff
  have v0 : decide (1 ≤ b ∧ b ≤ 1048576 ∧ 0 ≤ a ∧ a ≤ b) = true ↔ 1 ≤ b ∧ b ≤ 1048576 ∧ 0 ≤ a ∧ a ≤ b := decide_eq_true_iff
  have m0 : decide (0 ≤ mx ∧ mx < 64 ∧ 0 ≤ my ∧ my < 64) = true ↔ 0 ≤ mx ∧ mx < 64 ∧ 0 ≤ my ∧ my < 64 := decide_eq_true_iff
  obtain ⟨f, f1, f2, f3⟩ := exFar x y u v
  obtain ⟨tx, ty, tb, t1, t2, t3, t4⟩ := exToward x y u v s hx hy hu hv
  obtain ⟨zx, zy, z1, z2, z3, z4, z5, z6⟩ := exBetween x y u v a b _ _ n0 v0 hx hy
  obtain ⟨cx, cy, c1, c2, c3, c4, c5⟩ := exMiddle mx my _ m0
  exact Fix.tells x y u v s a b mx my f tx ty zx zy cx cy tb _ _ _ hx hy hu hv hs f1 t1 t2 z1 z2 c1 c2 f2 f3 t3 t4 z3 c3 n0 z4 z5 z6 v0 m0 c4 c5 w
set_option maxRecDepth 100000 in
theorem lifted (os : Os) (started : os.Started) (H : Type) (enc : TypeId × Value → H) :
    ReturnsInHanded {} Try.checked os 3 .any (Rows.fixTellsSpec.pre6 enc Try.prog Try.f3 Rows.fixTellsRow.domain false) (Rows.fixTellsSpec.post enc Try.prog Try.f3 false true false false) := by
  refine returnsInHanded_of_change (C := Try.checked) own started (by kernel_rfl) Try.func3
    (ChangeSpec.witness6 (enc := enc) (C := Try.checked) false ⟨#[], #[.agg #[.int .i32 0, .int .i32 0], .agg #[.int .i32 0, .int .i32 0], .int .i32 0, .int .i64 0, .int .i64 0, .int .i64 0, .int .i64 0], []⟩ 8 (by kernel_rfl) (by kernel_rfl) (by kernel_rfl) (by kernel_rfl)) ?_
  intro W base args ds gs before hval0 hW hcnd _
  have hval : ∀ (j : Nat) t v, Try.f3.params[j]? = some t → args[j]? = some v → Value.okWide Try.prog W .any base t v := hval0
  have hW' := hW
  obtain ⟨p, q, hA0, hV, rfl, hfz, hnd⟩ := hW
  have hA : DataW.TrodAll enc Try.prog W 0 (fun _ => true) true Try.f3.params.toList args.toList ds p := hA0
  rw [Try.params3] at hA hval
  obtain ⟨v0, vs0, d0, ds0, p0, q0, hargs, rfl, rfl, h0, r0⟩ := trodAll_cons hA
  obtain ⟨v1, vs1, d1, ds1, p1, q1, rfl, rfl, rfl, h1, r1⟩ := trodAll_cons r0
  obtain ⟨v2, vs2, d2, ds2, p2, q2, rfl, rfl, rfl, h2, r2⟩ := trodAll_cons r1
  obtain ⟨v3, vs3, d3, ds3, p3, q3, rfl, rfl, rfl, h3, r3⟩ := trodAll_cons r2
  obtain ⟨v4, vs4, d4, ds4, p4, q4, rfl, rfl, rfl, h4, r4⟩ := trodAll_cons r3
  obtain ⟨v5, vs5, d5, ds5, p5, q5, rfl, rfl, rfl, h5, r5⟩ := trodAll_cons r4
  obtain ⟨v6, vs6, d6, ds6, p6, q6, rfl, rfl, rfl, h6, r6⟩ := trodAll_cons r5
  obtain ⟨rfl, rfl, rfl⟩ := trodAll_nil r6
  obtain rfl : args = #[v0, v1, v2, v3, v4, v5, v6] := by cases args; simp_all
  obtain ⟨rfl, rfl⟩ := trodVars_none hV
  obtain ⟨c0, c1, y0, y1, m, rfl, rfl, rfl, hy0, hy1⟩ := open_agg2 Try.underlying24 (by kernel_rfl) cellsPoint (hval 0 24 v0 rfl rfl) h0
  obtain ⟨x, e0, rfl, wx⟩ := DataW.trod_int Try.underlying22 hy0
  obtain ⟨y, e1, rfl, wy⟩ := DataW.trod_int Try.underlying22 hy1
  simp at e0 e1
  subst e0 e1
  obtain ⟨c0, c1, y0, y1, m2, rfl, rfl, rfl, hy0, hy1⟩ := open_agg2 Try.underlying24 (by kernel_rfl) cellsPoint (hval 1 24 v1 rfl rfl) h1
  obtain ⟨u, e0, rfl, wu⟩ := DataW.trod_int Try.underlying22 hy0
  obtain ⟨v, e1, rfl, wv⟩ := DataW.trod_int Try.underlying22 hy1
  simp at e0 e1
  subst e0 e1
  obtain ⟨a2, rfl, rfl, rfl, w2⟩ := open_int Try.underlying22 (hval 2 22 v2 rfl rfl) h2
  obtain ⟨a3, rfl, rfl, rfl, w3⟩ := open_int Try.underlying3 (hval 3 3 v3 rfl rfl) h3
  obtain ⟨a4, rfl, rfl, rfl, w4⟩ := open_int Try.underlying3 (hval 4 3 v4 rfl rfl) h4
  obtain ⟨a5, rfl, rfl, rfl, w5⟩ := open_int Try.underlying3 (hval 5 3 v5 rfl rfl) h5
  obtain ⟨a6, rfl, rfl, rfl, w6⟩ := open_int Try.underlying3 (hval 6 3 v6 rfl rfl) h6
  clear hA0 hval0
  simp only [List.append_nil] at hW'
  have reads : ∀ (W' : World) (sp : Nat → Bool) (a b : Int) (wa : (Lit.int .i32 a).wf = true) (wb : (Lit.int .i32 b).wf = true), DataW.Trod enc Try.prog W' 0 sp true 24 (.agg #[.int .i32 a, .int .i32 b]) (.agg [.lit (.int .i32 a), .lit (.int .i32 b)]) [] := fun W' sp a b wa wb =>
    shut_agg2 (y0 := (.lit (.int .i32 a), [])) (y1 := (.lit (.int .i32 b), [])) Try.underlying24 (by kernel_rfl) cellsPoint ⟨1, by simp [DataW.trod, Try.underlying22, wa]⟩ ⟨1, by simp [DataW.trod, Try.underlying22, wb]⟩
  have bd : ∀ n : Int, (Lit.int .i32 n).wf = true → I32 n := fun n h => by obtain ⟨l, u⟩ := bounds_i32 h; exact ⟨by omega, by omega⟩
  refine (walk x y u v a2 a3 a4 a5 a6 (bd _ wx) (bd _ wy) (bd _ wu) (bd _ wv) (bd _ w2) W).mono fun e W' ⟨he, hg⟩ => ?_
  subst he
  exact ⟨_, rfl, post_of_ext (pa := []) (pv := []) hW' (fun _ _ _ => (trodAll_cons_mk (shut_bool Try.underlying4 _) trodAll_mk0))
    (fun sp _ => (trodAll_cons_mk (reads _ sp _ _ wx wy) (trodAll_cons_mk (reads _ sp _ _ wu wv) (trodAll_cons_mk (shut_int Try.underlying22 w2) (trodAll_cons_mk (shut_int Try.underlying3 w3) (trodAll_cons_mk (shut_int Try.underlying3 w4) (trodAll_cons_mk (shut_int Try.underlying3 w5) (trodAll_cons_mk (shut_int Try.underlying3 w6) trodAll_mk0)))))))) (fun _ _ => rfl) rfl
    hg (ok_one (by kernel_rfl) rfl (okWide_bool_mk Try.underlying4 _))⟩

theorem over : Rows.fixTellsRow.holds Try.pinned (OpenSpec.ofChange Rows.fixTellsSpec) :=
  OpenClaim.holds_of_wide 3 Try.f3 rfl rfl rfl rfl rfl rfl rfl ⟨rfl, rfl, rfl, rfl, rfl⟩ rfl rfl rfl rfl rfl (by kernel_rfl) Try.func3 (by kernel_rfl)
    (of_decide_eq_true (by kernel_rfl)) (by unfold Func.isWrapper; first | (rw [if_pos (by decide +kernel)]; kernel_rfl) | (rw [if_neg (by decide +kernel)]; exact ⟨rfl, rfl⟩))
    (fun os started H enc _ => lifted os started H enc)
theorem proved : Rows.FixTellsSaid :=
  over
#print axioms proved
end Go.Proofs.Ytdbjknljdplinaa.fixTells
