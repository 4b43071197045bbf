/-
  For all sides, texts, tiles and distances the Go function rematchlaw07.GridTells returns true: whether there is a map, what its tiles are, which are next to one, and how far they are, is what the document says.
-/
import Derived.Test.YtdbjknljdplinaaGrdM
import Derived.Test.YtdbjknljdplinaaGrdN
import Derived.WalkKit
import Derived.ProofKit
import Derived.OpenShut
import Derived.ShutString
import Derived.ChangeMaps5
import Derived.ChangeOld
import Derived.Carry
import Derived.Stop.Joined
import Derived.Below
namespace Go.Proofs.Ytdbjknljdplinaa.gridTells
open Go.ChangeShapes Go.WideShapes Go.ChangeAt Go.RowKit
open Go.ChangeMaps (open_string shut_string)
set_option linter.unusedVariables false

open Go.Proofs.Ytdbjknljdplinaa.Grid
set_option maxHeartbeats 4000000 in
set_option maxRecDepth 100000 in
theorem great (w h t u f : Int) (T : ByteArray) (W : World) (hs : ¬ T.size ≤ 5000) (hs2 : T.size ≤ 9223372036854775807) :
    Calls Try.prog 8 #[.int .i64 w, .int .i64 h, .string T, .int .i64 t, .int .i64 u, .int .i64 f] W fun e w' => e = .returned (.bool true) ∧ Ext W w' := by
  have hq : (5000 : Int) < (T.size : Int) := by omega
  go_enter Try.func8, Try.ntmps8
  go_wp2_with fail
  refine (Grid.wakes _).mono ?_
  rintro e w1 ⟨rfl, b1⟩
  go_wp2_with fail
  go_ret
  exact ⟨rfl, b1⟩
set_option maxHeartbeats 8000000 in
set_option maxRecDepth 100000 in
theorem none_ (w h t u f : Int) (T : ByteArray) (W : World) (hs : T.size ≤ 5000) (hw1 : -9223372036854775808 ≤ w) (hw2 : w ≤ 9223372036854775807) (hh1 : -9223372036854775808 ≤ h) (hh2 : h ≤ 9223372036854775807) (hn : ¬ okm w h T) :
    Calls Try.prog 8 #[.int .i64 w, .int .i64 h, .string T, .int .i64 t, .int .i64 u, .int .i64 f] W fun e w' => e = .returned (.bool true) ∧ Ext W w' := by
  have HNEW : Hid (∀ w1, Calls Try.prog 32 #[.int .i64 w, .int .i64 h, .string T] w1 fun e w' => e = .returned (.tuple #[.agg #[.int .i64 0, .int .i64 0, .string ⟨#[]⟩], .int .i64 2]) ∧ Ext w1 w') := Lib.hid (fun w1 => (new_any w h T w1 hs hw1 hw2 hh1 hh2).mono (fun e w' h => ⟨by rw [h.1]; unfold newR; rw [if_neg hn]; rfl, h.2⟩))
  have HMAY : Hid (∀ w1, Calls Try.prog 33 #[.int .i64 w, .int .i64 h, .string T] w1 fun e w' => e = .returned (.bool false) ∧ w1 = w') := Lib.hid (fun w1 => (may_any w h T w1 hs hw1 hw2 hh1 hh2).mono (fun e w' h => ⟨by rw [h.1, decide_eq_false hn], h.2⟩))
  have hq : ¬ (5000 : Int) < (T.size : Int) := by omega
  clear hn hw1 hw2 hh1 hh2
  go_enter Try.func8, Try.ntmps8
  go_wp2_with fail
  refine (HNEW.out _).mono ?_
  rintro e w1 ⟨rfl, b1⟩
  have HE1 := Lib.hid (ext_trans b1 (ext_alloc (Ext.rfl' w1) (.cells #[.int .i64 0, .int .i64 0, .string ⟨#[]⟩] 52)))
  have KM1 := Lib.hid (Blk.new w1 52 #[.int .i64 0, .int .i64 0, .string ⟨#[]⟩])
  clear b1
  go_wp2_with fail
  refine (HMAY.out _).mono ?_
  rintro e w2 ⟨rfl, rfl⟩
  obtain ⟨w2, hw2⟩ : ∃ W2, W2 = w1.alloc (.cells #[.int .i64 0, .int .i64 0, .string ⟨#[]⟩] 52) := ⟨_, rfl⟩
  rw [← hw2] at HE1 KM1 ⊢
  clear hw2
  obtain ⟨m0, m1, m2⟩ := map_cells KM1.out
  go_wp2_with fail
  refine (len_zero _).mono ?_
  rintro e w3 ⟨rfl, b3⟩
  have KM3 := Lib.hid (KM1.out.ext b3); have HE3 := Lib.hid (ext_trans HE1.out b3)
  clear b3 m0 m1 m2
  obtain ⟨m0, m1, m2⟩ := map_cells KM3.out
  go_wp2_with fail
  refine (on_zero _ _).mono ?_
  rintro e w4 ⟨rfl, b4⟩
  have HE4 := Lib.hid (ext_trans HE3.out b4)
  clear b4 m0 m1 m2
  go_wp2_with fail
  refine (Grid.wakes _).mono ?_
  rintro e w5 ⟨rfl, b5⟩
  have HE5 := Lib.hid (ext_trans HE4.out b5)
  clear b5
  go_wp2_with fail
  go_ret
  exact ⟨rfl, HE5.out⟩
theorem walk (w h t u f : Int) (T : ByteArray) (W : World) (hs : T.size ≤ 9223372036854775807) (hw1 : -9223372036854775808 ≤ w) (hw2 : w ≤ 9223372036854775807) (hh1 : -9223372036854775808 ≤ h) (hh2 : h ≤ 9223372036854775807)
    (hu1 : -9223372036854775808 ≤ u) (hu2 : u ≤ 9223372036854775807) (hf1 : -9223372036854775808 ≤ f) (hf2 : f ≤ 9223372036854775807) :
    Calls Try.prog 8 #[.int .i64 w, .int .i64 h, .string T, .int .i64 t, .int .i64 u, .int .i64 f] W fun e w' => e = .returned (.bool true) ∧ Ext W w' := by
  by_cases h1 : T.size ≤ 5000
  · by_cases h2 : okm w h T
    · obtain ⟨a1, a2, a3, a4, a5, a6⟩ := h2
      obtain ⟨n, rfl⟩ : ∃ n : Nat, w = (n : Int) := ⟨w.toNat, by omega⟩
      obtain ⟨m, rfl⟩ : ∃ m : Nat, h = (m : Int) := ⟨h.toNat, by omega⟩
      have hP : T.size = n * m := by rw [← Int.natCast_mul] at a5; omega
      by_cases h3 : t < 0 ∨ ((n * m : Nat) : Int) ≤ t
      · exact tells_off n m (n * m) t u f T W (by omega) (by omega) (by omega) (by omega) rfl hP a6 h3
      · obtain ⟨k, rfl⟩ : ∃ k : Nat, t = (k : Int) := ⟨t.toNat, by omega⟩
        exact tells_on n m (n * m) k u f T W (by omega) (by omega) (by omega) (by omega) rfl hP a6 (by omega) hf1 hf2 hu1 hu2
    · exact none_ w h t u f T W h1 hw1 hw2 hh1 hh2 h2
  · exact great w h t u f T W h1 hs
theorem own : ownKnob Try.prog.godebug = none := by kernel_rfl
theorem laidOut : laidOutB Try.prog = true := by kernel_rfl
set_option maxRecDepth 100000 in
theorem lifted (os : Os) (started : os.Started) (H : Type) (enc : TypeId × Value → H) :
    ReturnsInHanded {} Try.checked os 8 .any (Rows.gridTellsSpec.pre6 enc Try.prog Try.f8 Rows.gridTellsRow.domain false) (Rows.gridTellsSpec.post enc Try.prog Try.f8 false true false false) := by
  refine returnsInHanded_of_change (C := Try.checked) own started (by kernel_rfl) Try.func8
    (ChangeSpec.witness6 (enc := enc) (C := Try.checked) false ⟨#[], #[.int .i64 0, .int .i64 0, .string ⟨#[]⟩, .int .i64 0, .int .i64 0, .int .i64 0], []⟩ 8 (by kernel_rfl) (by kernel_rfl) (by kernel_rfl) (by kernel_rfl)) ?_
  intro W base args ds gs before hval0 hW hcnd _
  have hval : ∀ (j : Nat) t v, Try.f8.params[j]? = some t → args[j]? = some v → Value.okWide Try.prog W .any base t v := hval0
  have hW' := hW
  obtain ⟨p, q, hA0, hV, rfl, hfz, hnd⟩ := hW
  have hA : DataW.TrodAll enc Try.prog W 0 (fun _ => true) true Try.f8.params.toList args.toList ds p := hA0
  rw [Try.params8] at hA hval
  obtain ⟨v0, vs0, d0, ds0, p0, q0, hargs, rfl, rfl, h0, r0⟩ := trodAll_cons hA
  obtain ⟨v1, vs1, d1, ds1, p1, q1, rfl, rfl, rfl, h1, r1⟩ := trodAll_cons r0
  obtain ⟨v2, vs2, d2, ds2, p2, q2, rfl, rfl, rfl, h2, r2⟩ := trodAll_cons r1
  obtain ⟨v3, vs3, d3, ds3, p3, q3, rfl, rfl, rfl, h3, r3⟩ := trodAll_cons r2
  obtain ⟨v4, vs4, d4, ds4, p4, q4, rfl, rfl, rfl, h4, r4⟩ := trodAll_cons r3
  obtain ⟨v5, vs5, d5, ds5, p5, q5, rfl, rfl, rfl, h5, r5⟩ := trodAll_cons r4
  obtain ⟨rfl, rfl, rfl⟩ := trodAll_nil r5
  obtain rfl : args = #[v0, v1, v2, v3, v4, v5] := by cases args; simp_all
  obtain ⟨rfl, rfl⟩ := trodVars_none hV
  obtain ⟨x0, rfl, rfl, rfl, w0⟩ := open_int Try.underlying3 (hval 0 3 v0 rfl rfl) h0
  have b0 := bounds_i64 w0
  obtain ⟨x1, rfl, rfl, rfl, w1⟩ := open_int Try.underlying3 (hval 1 3 v1 rfl rfl) h1
  have b1 := bounds_i64 w1
  obtain ⟨s2, rfl, rfl, rfl, w2⟩ := open_string Try.underlying9 (hval 2 9 v2 rfl rfl) h2
  obtain ⟨x3, rfl, rfl, rfl, w3⟩ := open_int Try.underlying3 (hval 3 3 v3 rfl rfl) h3
  have b3 := bounds_i64 w3
  obtain ⟨x4, rfl, rfl, rfl, w4⟩ := open_int Try.underlying3 (hval 4 3 v4 rfl rfl) h4
  have b4 := bounds_i64 w4
  obtain ⟨x5, rfl, rfl, rfl, w5⟩ := open_int Try.underlying3 (hval 5 3 v5 rfl rfl) h5
  have b5 := bounds_i64 w5
  clear hA0 hval0
  refine (walk x0 x1 x3 x4 x5 s2 W (by unfold maxLen at w2; omega) (by omega) (by omega) (by omega) (by omega) (by omega) (by omega) (by omega) (by omega)).mono fun e W' ⟨he, bel⟩ => ?_
  subst he
  exact ⟨_, rfl, _, _, _, [], _, [], hW', trodAll_mk1 (shut_bool Try.underlying4 _), (trodAll_cons_mk (shut_int Try.underlying3 w0) (trodAll_cons_mk (shut_int Try.underlying3 w1) (trodAll_cons_mk (shut_string Try.underlying9 w2) (trodAll_cons_mk (shut_int Try.underlying3 w3) (trodAll_cons_mk (shut_int Try.underlying3 w4) (trodAll_cons_mk (shut_int Try.underlying3 w5) trodAll_mk0)))))), rfl, bel.frame _, fun h => by cases h⟩

theorem over : Rows.gridTellsRow.holds Try.pinned (OpenSpec.ofChange Rows.gridTellsSpec) :=
  OpenClaim.holds_of_wide 8 Try.f8 rfl rfl rfl rfl rfl rfl rfl ⟨rfl, rfl, rfl, rfl, rfl⟩ rfl rfl rfl rfl rfl (by kernel_rfl) Try.func8 (by kernel_rfl)
    (of_decide_eq_true (by kernel_rfl)) (by unfold Func.isWrapper; first | (rw [if_pos (by decide +kernel)]; kernel_rfl) | (rw [if_neg (by decide +kernel)]; exact ⟨rfl, rfl⟩))
    (fun os started H enc _ => lifted os started H enc)
theorem proved : Rows.GridTellsSaid :=
  over
#print axioms proved
end Go.Proofs.Ytdbjknljdplinaa.gridTells
