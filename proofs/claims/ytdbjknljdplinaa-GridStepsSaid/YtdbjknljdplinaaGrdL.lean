/- The known map. -/
import Derived.Test.YtdbjknljdplinaaGrdK
import Derived.OrdersHeld
import Derived.Deep.RegionHeld
namespace Go.Proofs.Ytdbjknljdplinaa.Grid
open Go.ChangeShapes Go.WideShapes Go.ChangeAt Go.RowKit Go.Shelf
set_option linter.unusedVariables false

def SE (w0 w : World) : Prop := Ext w0 w
theorem hmx : Try.prog.follows .mixedOrders = true := by kernel_rfl
theorem okm_k : okm 4 4 ⟨#[0, 0, 0, 0, 0, 0, 0, 0, 0, 0, 0, 0, 0, 0, 0, 1]⟩ := by decide
theorem k_new (w : World) : Calls Try.prog 32 #[.int .i64 4, .int .i64 4, .string ⟨#[0, 0, 0, 0, 0, 0, 0, 0, 0, 0, 0, 0, 0, 0, 0, 1]⟩] w fun e w' => e = .returned (.tuple #[.agg #[.int .i64 4, .int .i64 4, .string ⟨#[0, 0, 0, 0, 0, 0, 0, 0, 0, 0, 0, 0, 0, 0, 0, 1]⟩], .int .i64 0]) ∧ Ext w w' := by
  have h := new_any 4 4 ⟨#[0, 0, 0, 0, 0, 0, 0, 0, 0, 0, 0, 0, 0, 0, 0, 1]⟩ w (by decide) (by decide) (by decide) (by decide) (by decide)
  refine h.mono (fun e w' h => ?_)
  obtain ⟨h1, h2⟩ := h
  unfold newR at h1
  rw [if_pos okm_k] at h1
  exact ⟨h1, h2⟩
theorem k_around (w : World) : Calls Try.prog 45 #[.agg #[.int .i64 4, .int .i64 4, .string ⟨#[0, 0, 0, 0, 0, 0, 0, 0, 0, 0, 0, 0, 0, 0, 0, 1]⟩], .int .i64 5, .int .i64 1] w (NxPost w [1, 4, 5, 6, 9]) := by
  have h := around 4 4 16 5 1 ⟨#[0, 0, 0, 0, 0, 0, 0, 0, 0, 0, 0, 0, 0, 0, 0, 1]⟩ w (by decide) (by decide) (by decide) (by decide) (by decide) (by decide) (by decide) (by decide) (by decide)
  rw [show upto 4 5 1 16 = [1, 4, 5, 6, 9] from by decide] at h
  exact h
theorem k_next (w : World) : Calls Try.prog 44 #[.agg #[.int .i64 4, .int .i64 4, .string ⟨#[0, 0, 0, 0, 0, 0, 0, 0, 0, 0, 0, 0, 0, 0, 0, 1]⟩], .int .i64 0] w (NxPost w [1, 4]) := by
  have h := next_yes 4 4 0 ⟨#[0, 0, 0, 0, 0, 0, 0, 0, 0, 0, 0, 0, 0, 0, 0, 1]⟩ w (by decide) (by decide) (by decide) (by decide) (by decide) (by decide)
  rw [show nxt 4 4 0 = [1, 4] from by decide] at h
  exact h
theorem k_xy (w : World) : Calls Try.prog 37 #[.agg #[.int .i64 4, .int .i64 4, .string ⟨#[0, 0, 0, 0, 0, 0, 0, 0, 0, 0, 0, 0, 0, 0, 0, 1]⟩], .int .i64 6] w fun e w' => e = .returned (.tuple #[.int .i64 2, .int .i64 1]) ∧ Ext w w' :=
  xy_yes 4 4 6 ⟨#[0, 0, 0, 0, 0, 0, 0, 0, 0, 0, 0, 0, 0, 0, 0, 1]⟩ w (by decide) (by decide) (by decide) (by decide)
theorem k_len (w : World) : Calls Try.prog 34 #[.agg #[.int .i64 4, .int .i64 4, .string ⟨#[0, 0, 0, 0, 0, 0, 0, 0, 0, 0, 0, 0, 0, 0, 0, 1]⟩]] w fun e w' => e = .returned (.int .i64 16) ∧ Ext w w' := len_map 4 4 ⟨#[0, 0, 0, 0, 0, 0, 0, 0, 0, 0, 0, 0, 0, 0, 0, 1]⟩ w (by decide)
theorem k_far (w : World) : Calls Try.prog 42 #[.agg #[.int .i64 4, .int .i64 4, .string ⟨#[0, 0, 0, 0, 0, 0, 0, 0, 0, 0, 0, 0, 0, 0, 0, 1]⟩], .int .i64 0, .int .i64 15] w fun e w' => e = .returned (.int .i64 6) ∧ Ext w w' := by
  have h := far_yes 4 4 0 15 ⟨#[0, 0, 0, 0, 0, 0, 0, 0, 0, 0, 0, 0, 0, 0, 0, 1]⟩ w (by decide) (by decide) (by decide) (by decide) (by decide)
  rw [show far 4 0 15 = 6 from by decide] at h
  exact h
theorem k_walk14 (w : World) : Calls Try.prog 41 #[.agg #[.int .i64 4, .int .i64 4, .string ⟨#[0, 0, 0, 0, 0, 0, 0, 0, 0, 0, 0, 0, 0, 0, 0, 1]⟩], .int .i64 14] w fun e w' => e = .returned (.bool true) ∧ Ext w w' := walk_yes 4 4 14 ⟨#[0, 0, 0, 0, 0, 0, 0, 0, 0, 0, 0, 0, 0, 0, 0, 1]⟩ w (by decide) (by decide) (by decide)
theorem k_walk15 (w : World) : Calls Try.prog 41 #[.agg #[.int .i64 4, .int .i64 4, .string ⟨#[0, 0, 0, 0, 0, 0, 0, 0, 0, 0, 0, 0, 0, 0, 0, 1]⟩], .int .i64 15] w fun e w' => e = .returned (.bool false) ∧ Ext w w' := walk_yes 4 4 15 ⟨#[0, 0, 0, 0, 0, 0, 0, 0, 0, 0, 0, 0, 0, 0, 0, 1]⟩ w (by decide) (by decide) (by decide)
set_option maxHeartbeats 8000000 in
set_option maxRecDepth 100000 in
theorem wakes (w : World) : Calls Try.prog 31 #[] w fun e w' => e = .returned (.bool true) ∧ Ext w w' := by
  go_enter Try.func31, Try.ntmps31
  go_wp2_with fail
  refine (k_new _).mono ?_
  rintro e w0 ⟨rfl, b0⟩
  have HE0 := Lib.hid (ext_trans b0 (ext_alloc (Ext.rfl' w0) (.cells #[.int .i64 4, .int .i64 4, .string ⟨#[0, 0, 0, 0, 0, 0, 0, 0, 0, 0, 0, 0, 0, 0, 0, 1]⟩] 52)))
  have KM := Lib.hid (Blk.new w0 52 #[.int .i64 4, .int .i64 4, .string ⟨#[0, 0, 0, 0, 0, 0, 0, 0, 0, 0, 0, 0, 0, 0, 0, 1]⟩])
  clear b0
  go_wp2_with fail
  obtain ⟨w1, hw1⟩ : ∃ W, W = w0.alloc (.cells #[.int .i64 4, .int .i64 4, .string ⟨#[0, 0, 0, 0, 0, 0, 0, 0, 0, 0, 0, 0, 0, 0, 0, 1]⟩] 52) := ⟨_, rfl⟩
  rw [← hw1] at HE0 KM ⊢
  clear hw1
  have HX0 := Lib.hid (show SE w1 w1.drew from ext_drew (Ext.rfl' w1))
  go_cut [3, 4] (fun a b wx => (∃ A1 c1 A2 c2, a = .slice A1 5 c1 ∧ b = .slice A2 2 c2 ∧ Ns wx A1 5 [1, 4, 5, 6, 9] ∧ Ns wx A2 2 [1, 4]) ∧ SE w1 wx)
  case first =>
    refine wp_region_held_drew (S := SE w1) hmx HX0.out (fun _ => ?_)
    (refine wpAnyH_take (i := 0) (v := ?_) rfl (by kernel_rfl) (by kernel_rfl) (by kernel_rfl) (fun _ _ _ h => h) (Or.inl ⟨by rfl, ?_⟩) HX0.out ?_); rotate_left
    · (intro w' hSw; obtain ⟨m0, m1, m2⟩ := map_cells (KM.out.ext hSw); go_simp; try with_reducible rfl)
    (refine wpAnyH_take (i := 2) (v := ?_) rfl (by kernel_rfl) (by kernel_rfl) (by kernel_rfl) (fun _ _ _ h => h) (Or.inl ⟨by rfl, ?_⟩) HX0.out ?_); rotate_left
    · (intro w' hSw; obtain ⟨m0, m1, m2⟩ := map_cells (KM.out.ext hSw); go_simp; try with_reducible rfl)
    refine wpAnyH_ready (rs := [1]) (by kernel_rfl) (by simp) ?_
    refine AllReadyH.cons rfl (fun K hK => ?_) AllReadyH.nil
    obtain ⟨m0, m1, m2⟩ := map_cells (KM.out.ext HX0.out)
    go_simp
    refine (k_around _).mono ?_
    rintro e x1 ⟨v1, rfl, hR1, b9⟩
    have HXx1 := Lib.hid (show SE w1 x1 from ext_trans HX0.out b9)
    obtain ⟨A1, c1, rfl, _⟩ := own_shape hR1
    have HR1 := Lib.hid (Row.ns hR1).2
    clear hR1
    clear b9
    (try go_wp2_with fail)
    refine hK.out _ _ HXx1.out (fun _ => ?_)
    clear hK K
    refine wpAnyH_ready (rs := [3]) (by kernel_rfl) (by simp) ?_
    refine AllReadyH.cons rfl (fun K hK => ?_) AllReadyH.nil
    go_simp
    refine (k_next _).mono ?_
    rintro e x2 ⟨v2, rfl, hR2, b9⟩
    have HXx2 := Lib.hid (show SE w1 x2 from ext_trans HXx1.out b9)
    have HR12 := Lib.hid (HR1.out.ext b9)
    obtain ⟨A2, c2, rfl, _⟩ := own_shape hR2
    have HR2 := Lib.hid (Row.ns hR2).2
    clear hR2
    clear b9
    (try go_wp2_with fail)
    refine hK.out _ _ HXx2.out (fun _ => ?_)
    clear hK K
    (refine wpAnyH_take (i := 4) (v := ?_) rfl (by kernel_rfl) (by kernel_rfl) (by kernel_rfl) (fun _ _ _ h => h) (Or.inl ⟨by rfl, ?_⟩) HXx2.out ?_); rotate_left
    · (intro w' hSw; obtain ⟨m0, m1, m2⟩ := map_cells (KM.out.ext hSw); go_simp; try with_reducible rfl)
    (refine wpAnyH_take (i := 5) (v := ?_) rfl (by kernel_rfl) (by kernel_rfl) (by kernel_rfl) (fun _ _ _ h => h) (Or.inl ⟨by rfl, ?_⟩) HXx2.out ?_); rotate_left
    · (intro w' hSw; obtain ⟨m0, m1, m2⟩ := map_cells (KM.out.ext hSw); go_simp; try with_reducible rfl)
    refine wpAnyH_done (by kernel_rfl) ?_ _
    go_wp2_with fail
    go_meet
    exact ⟨⟨_, _, _, _, rfl, rfl, HR12.out, HR2.out⟩, HXx2.out⟩
  case rest =>
  obtain ⟨⟨A1, c1, A2, c2, rfl, rfl, h1, h2⟩, he⟩ := hcut
  have H1 := Lib.hid h1; have H2 := Lib.hid h2
  have K2 := Lib.hid (KM.out.ext he)
  have HE2 := Lib.hid (ext_trans HE0.out he)
  obtain ⟨m0, m1, m2⟩ := map_cells K2.out
  clear h1 h2 he
  go_wp2_with fail
  refine (k_xy _).mono ?_
  rintro e w3 ⟨rfl, b3⟩
  have K3 := Lib.hid (K2.out.ext b3); have HE3 := Lib.hid (ext_trans HE2.out b3)
  have H13 := Lib.hid (H1.out.ext b3); have H23 := Lib.hid (H2.out.ext b3)
  clear b3 m0 m1 m2
  obtain ⟨m0, m1, m2⟩ := map_cells K3.out
  go_wp2_with fail
  refine (k_len _).mono ?_
  rintro e w4 ⟨rfl, b4⟩
  have K4 := Lib.hid (K3.out.ext b4); have HE4 := Lib.hid (ext_trans HE3.out b4)
  have H14 := Lib.hid (H13.out.ext b4); have H24 := Lib.hid (H23.out.ext b4)
  clear b4 m0 m1 m2
  obtain ⟨m0, m1, m2⟩ := map_cells K4.out
  go_wp2_with fail
  refine (k_far _).mono ?_
  rintro e w5 ⟨rfl, b5⟩
  have K5 := Lib.hid (K4.out.ext b5); have HE5 := Lib.hid (ext_trans HE4.out b5)
  obtain ⟨g1, o1, rfl, _, hc1⟩ := (H14.out.ext b5).2 (by omega)
  obtain ⟨g2, o2, rfl, _, hc2⟩ := (H24.out.ext b5).2 (by omega)
  have p0 : w5.cell? ⟨g1, o1, none⟩ = some (.int .i64 1) := hc1 0 (by omega)
  have p4 : w5.cell? ⟨g1, o1 + 4, none⟩ = some (.int .i64 9) := hc1 4 (by omega)
  have r0 : w5.cell? ⟨g2, o2, none⟩ = some (.int .i64 1) := hc2 0 (by omega)
  clear b5 m0 m1 m2 hc1 hc2
  obtain ⟨m0, m1, m2⟩ := map_cells K5.out
  go_wp2_with fail
  refine (k_walk14 _).mono ?_
  rintro e w6 ⟨rfl, b6⟩
  have K6 := Lib.hid (K5.out.ext b6); have HE6 := Lib.hid (ext_trans HE5.out b6)
  clear b6 m0 m1 m2 p0 p4 r0
  obtain ⟨m0, m1, m2⟩ := map_cells K6.out
  go_wp2_with fail
  refine (k_walk15 _).mono ?_
  rintro e w7 ⟨rfl, b7⟩
  have HE7 := Lib.hid (ext_trans HE6.out b7)
  clear b7 m0 m1 m2
  go_wp2_with fail
  go_ret
  exact ⟨rfl, HE7.out⟩
end Go.Proofs.Ytdbjknljdplinaa.Grid
