/- Contracts of package fix: a step toward a point; the known points. -/
import Derived.Test.YtdbjknljdplinaaFixC
namespace Go.Proofs.Ytdbjknljdplinaa.Fix
open Go.ChangeShapes Go.WideShapes Go.ChangeAt Go.RowKit

theorem toward_far (x y u v s : Int) (h : ¬ (Near x y ∧ Near u v)) (w : World) :
    Calls Try.prog 13 #[P x y, P u v, .int .i32 s] w fun e w' => e = .returned (.tuple #[P 0 0, .bool false]) ∧ Ext w w' := by
  by_cases hp : Near x y
  · have hq : ¬ Near u v := fun hq => h ⟨hp, hq⟩
    have Hp := Lib.hid hp; have Hq := Lib.hid hq; clear hp hq h
    go_enter Try.func13, Try.ntmps13
    go_wp2_with fail
    refine (near_yes _ _ Hp.out _).mono ?_
    rintro e w1 ⟨rfl, b1⟩
    obtain ⟨c1, f1⟩ := ecell b1
    go_wp2_with fail
    refine (near_no _ _ Hq.out _).mono ?_
    rintro e w2 ⟨rfl, b2⟩
    have b12 := ext_trans b1 b2
    obtain ⟨c2, f2⟩ := ecell b12
    clear c1 f1 b1 b2
    go_wp2_with fail
    exact bodyPost_ret (v := .tuple #[P 0 0, .bool false]) (by simp [results, Try.results13, go_sem, c2]) rfl ⟨rfl, ext_out b12 _ _⟩
  · have Hp := Lib.hid hp; clear hp h
    go_enter Try.func13, Try.ntmps13
    go_wp2_with fail
    refine (near_no _ _ Hp.out _).mono ?_
    rintro e w1 ⟨rfl, b12⟩
    obtain ⟨c2, f2⟩ := ecell b12
    go_wp2_with fail
    exact bodyPost_ret (v := .tuple #[P 0 0, .bool false]) (by simp [results, Try.results13, go_sem, c2]) rfl ⟨rfl, ext_out b12 _ _⟩
set_option maxHeartbeats 400000 in
theorem toward_none (x y u v s : Int) (hp : Near x y) (hq : Near u v) (h : s < 1 ∨ 256 < s) (w : World) :
    Calls Try.prog 13 #[P x y, P u v, .int .i32 s] w fun e w' => e = .returned (.tuple #[P x y, .bool false]) ∧ Ext w w' := by
  have Hp := Lib.hid hp; have Hq := Lib.hid hq; clear hp hq
  have hall : s < 1 ∨ (¬ s < 1 ∧ 256 < s) := by omega
  clear h
  rcases hall with h1 | ⟨h1, h2⟩
  all_goals
    go_enter Try.func13, Try.ntmps13
    go_wp2_with fail
    refine (near_yes _ _ Hp.out _).mono ?_
    rintro e w1 ⟨rfl, b1⟩
    obtain ⟨c1, f1⟩ := ecell b1
    go_wp2_with fail
    refine (near_yes _ _ Hq.out _).mono ?_
    rintro e w2 ⟨rfl, b2⟩
    have b12 := ext_trans b1 b2
    obtain ⟨c2, f2⟩ := ecell b12
    clear c1 f1 b1 b2
    go_wp2_with fail
    exact bodyPost_ret (v := .tuple #[P x y, .bool false]) (by simp [results, Try.results13, go_sem, c2]) rfl ⟨rfl, ext_out b12 _ _⟩
set_option maxHeartbeats 400000 in
theorem toward_there (x y u v s : Int) (r : Nat) (hp : Near x y) (hq : Near u v) (h1 : 1 ≤ s) (h2 : s ≤ 256) (hr : IsRoot (sqd x y u v) r) (hs : (r : Int) ≤ s) (w : World) :
    Calls Try.prog 13 #[P x y, P u v, .int .i32 s] w fun e w' => e = .returned (.tuple #[P u v, .bool true]) ∧ Ext w w' := by
  have Hp := Lib.hid hp; have Hq := Lib.hid hq; clear hp hq
  have HR := Lib.hid hr; clear hr
  go_enter Try.func13, Try.ntmps13
  go_wp2_with fail
  refine (near_yes _ _ Hp.out _).mono ?_
  rintro e w1 ⟨rfl, b1⟩
  obtain ⟨c1, f1⟩ := ecell b1
  go_wp2_with fail
  refine (near_yes _ _ Hq.out _).mono ?_
  rintro e w2 ⟨rfl, b2⟩
  have b12 := ext_trans b1 b2
  obtain ⟨c2, f2⟩ := ecell b12
  clear c1 f1 b1 b2
  go_wp2_with fail
  refine (far_yes _ _ _ _ r Hp.out Hq.out HR.out _).mono ?_
  rintro e w3 ⟨rfl, b3⟩
  have b13 := ext_trans b12 b3
  obtain ⟨c3, f3⟩ := ecell b13
  clear c2 f2 b12 b3
  go_wp2_with fail
  all_goals exact bodyPost_ret (v := .tuple #[P u v, .bool true]) (by simp [results, Try.results13, go_sem, c3]) rfl ⟨rfl, ext_out b13 _ _⟩
theorem sqd_same (x y : Int) : sqd x y x y = 0 := by simp [sqd]
theorem root_zero {r : Nat} (h : IsRoot 0 r) : r = 0 := by
  have := h.1
  rcases Nat.eq_zero_or_pos r with h0 | h0
  · exact h0
  · have := Nat.mul_pos h0 h0; omega
set_option maxHeartbeats 1000000 in
theorem toward_goes (x y u v s : Int) (r : Nat) (hp : Near x y) (hq : Near u v) (h1 : 1 ≤ s) (h2 : s ≤ 256) (hr : IsRoot (sqd x y u v) r) (hs : s < (r : Int)) (w : World) :
    Calls Try.prog 13 #[P x y, P u v, .int .i32 s] w fun e w' => e = .returned (.tuple #[P (x + pt (u - x) s r) (y + pt (v - y) s r), .bool false]) ∧ Ext w w' := by
  have hrs := root_small hr (sqd_bound hp hq).2.2.2.2.2
  have hparts : (x == u) = false ∨ ((x == u) = true ∧ (y == v) = false) := by
    by_cases e1 : x = u
    · by_cases e2 : y = v
      · subst e1 e2; rw [sqd_same] at hr; have := root_zero hr; omega
      · exact .inr ⟨beq_iff_eq.2 e1, beq_eq_false_iff_ne.2 e2⟩
    · exact .inl (beq_eq_false_iff_ne.2 e1)
  have Hp := Lib.hid hp; have Hq := Lib.hid hq; clear hp hq
  have HR := Lib.hid hr; clear hr
  rcases hparts with hxy | ⟨hx, hxy⟩
  all_goals
    go_enter Try.func13, Try.ntmps13
    go_wp2_with fail
    refine (near_yes _ _ Hp.out _).mono ?_
    rintro e w1 ⟨rfl, b1⟩
    obtain ⟨c1, f1⟩ := ecell b1
    go_wp2_with fail
    refine (near_yes _ _ Hq.out _).mono ?_
    rintro e w2 ⟨rfl, b2⟩
    have b12 := ext_trans b1 b2
    obtain ⟨c2, f2⟩ := ecell b12
    clear c1 f1 b1 b2
    go_wp2_with fail
    refine (far_yes _ _ _ _ r Hp.out Hq.out HR.out _).mono ?_
    rintro e w3 ⟨rfl, b3⟩
    have b13 := ext_trans b12 b3
    obtain ⟨c3, f3⟩ := ecell b13
    clear c2 f2 b12 b3
    go_wp2_with fail
    refine (part _ _ _ _ _).mono ?_
    rintro e w4 ⟨rfl, rfl⟩
    go_wp2_with fail
    refine (part1_at _ _ _ _ s r w3.heap.size (w3.heap.size + 1) Hp.out Hq.out (by omega) (by omega) (by omega) (by omega) (by omega) _ (pair_cells w3 _ _ _ _ _).1 (pair_cells w3 _ _ _ _ _).2.1 (pair_cells w3 _ _ _ _ _).2.2.1 (pair_cells w3 _ _ _ _ _).2.2.2 (by simp; omega) (by simp)).mono ?_
    rintro e w5 ⟨rfl, b5⟩
    have b15 := ext_trans b13 (ext_trans (ext_alloc (ext_alloc (Ext.rfl' w3) _) _) b5)
    obtain ⟨c5, f5⟩ := ecell b15
    clear c3 f3 b13 b5
    go_wp2_with fail
    exact bodyPost_ret (v := .tuple #[P (x + pt (u - x) s r) (y + pt (v - y) s r), .bool false]) (by simp [results, Try.results13, go_sem, c5]) rfl ⟨rfl, ext_out b15 _ _⟩
set_option maxHeartbeats 1000000 in
theorem wakes (w : World) : Calls Try.prog 21 #[] w fun e w' => e = .returned (.bool true) ∧ Ext w w' := by
  have hr : IsRoot (sqd 0 0 768 1024) 1280 := by constructor <;> decide
  have hr9 : IsRoot 99 9 := by constructor <;> decide
  have HR := Lib.hid hr; clear hr
  have H9 := Lib.hid hr9; clear hr9
  go_enter Try.func21, Try.ntmps21
  go_wp2_with fail
  refine (toward_goes 0 0 768 1024 256 1280 (by decide) (by decide) (by decide) (by decide) HR.out (by decide) _).mono ?_
  rintro e w1 ⟨rfl, b1⟩
  rw [show (0 : Int) + pt (768 - 0) 256 (1280 : Nat) = 153 from by decide, show (0 : Int) + pt (1024 - 0) 256 (1280 : Nat) = 204 from by decide]
  have z1 : w.heap.size + 2 ≤ w1.heap.size := by have := b1.size; simp at this; omega
  have p0 : w1.cell? ⟨w.heap.size, 0, none⟩ = some (.int .i32 0) := (b1.cell (p := ⟨w.heap.size, 0, none⟩) (by simp; omega)).trans (pair_cells w _ _ _ _ _).1
  have p1 : w1.cell? ⟨w.heap.size, 1, none⟩ = some (.int .i32 0) := (b1.cell (p := ⟨w.heap.size, 1, none⟩) (by simp; omega)).trans (pair_cells w _ _ _ _ _).2.1
  have q0 : w1.cell? ⟨w.heap.size + 1, 0, none⟩ = some (.int .i32 768) := (b1.cell (p := ⟨w.heap.size + 1, 0, none⟩) (by simp)).trans (pair_cells w _ _ _ _ _).2.2.1
  have q1 : w1.cell? ⟨w.heap.size + 1, 1, none⟩ = some (.int .i32 1024) := (b1.cell (p := ⟨w.heap.size + 1, 1, none⟩) (by simp)).trans (pair_cells w _ _ _ _ _).2.2.2
  have g1 : Ext w w1 := ext_trans (ext_alloc (ext_alloc (Ext.rfl' _) _) _) b1
  clear b1
  go_wp2_with fail
  refine (middle_yes 1 0 (by decide) (by decide) (by decide) (by decide) _).mono ?_
  rintro e w2 ⟨rfl, b2⟩
  have z2 : w1.heap.size + 1 ≤ w2.heap.size := by have := b2.size; simp at this; omega
  have p0' : w2.cell? ⟨w.heap.size, 0, none⟩ = some (.int .i32 0) := (b2.cell (p := ⟨w.heap.size, 0, none⟩) (by simp; omega)).trans ((World.cell?_alloc_lt _ _ _ (by show w.heap.size < w1.heap.size; omega)).trans p0)
  have p1' : w2.cell? ⟨w.heap.size, 1, none⟩ = some (.int .i32 0) := (b2.cell (p := ⟨w.heap.size, 1, none⟩) (by simp; omega)).trans ((World.cell?_alloc_lt _ _ _ (by show w.heap.size < w1.heap.size; omega)).trans p1)
  have q0' : w2.cell? ⟨w.heap.size + 1, 0, none⟩ = some (.int .i32 768) := (b2.cell (p := ⟨w.heap.size + 1, 0, none⟩) (by simp; omega)).trans ((World.cell?_alloc_lt _ _ _ (by show w.heap.size + 1 < w1.heap.size; omega)).trans q0)
  have q1' : w2.cell? ⟨w.heap.size + 1, 1, none⟩ = some (.int .i32 1024) := (b2.cell (p := ⟨w.heap.size + 1, 1, none⟩) (by simp; omega)).trans ((World.cell?_alloc_lt _ _ _ (by show w.heap.size + 1 < w1.heap.size; omega)).trans q1)
  have r0 : w2.cell? ⟨w1.heap.size, 0, none⟩ = some (.int .i32 153) := (b2.cell (p := ⟨w1.heap.size, 0, none⟩) (by simp)).trans (by clear p0 p1 q0 q1 p0' p1' q0' q1' b2; go_simp)
  have r1 : w2.cell? ⟨w1.heap.size, 1, none⟩ = some (.int .i32 204) := (b2.cell (p := ⟨w1.heap.size, 1, none⟩) (by simp)).trans (by clear p0 p1 q0 q1 p0' p1' q0' q1' b2; go_simp)
  have g2 : Ext w w2 := ext_trans g1 (ext_trans (ext_alloc (Ext.rfl' _) _) b2)
  clear b2 g1 p0 p1 q0 q1
  go_wp2_with fail
  refine (far_yes 0 0 768 1024 1280 (by decide) (by decide) HR.out _).mono ?_
  rintro e w3 ⟨rfl, b3⟩
  obtain ⟨c3, f3⟩ := ecell b3
  have l0 : w.heap.size < w2.heap.size := by omega
  have l1 : w.heap.size + 1 < w2.heap.size := by omega
  have l2 : w1.heap.size < w2.heap.size := by omega
  go_wp2_with fail
  refine (between_yes 0 0 768 1024 1 2 (by decide) (by decide) (by decide) (by decide) (by decide) (by decide) _).mono ?_
  rintro e w4 ⟨rfl, b4⟩
  rw [show (0 : Int) + pt (768 - 0) 1 2 = 384 from by decide, show (0 : Int) + pt (1024 - 0) 1 2 = 512 from by decide]
  clear c3 f3
  go_wp2_with fail
  refine (root_at (n := 99) (r := 9) rfl (by decide) H9.out _).mono ?_
  rintro e w5 ⟨rfl, rfl⟩
  go_wp2_with fail
  go_ret
  exact ⟨rfl, ext_trans g2 (ext_trans b3 b4)⟩
end Go.Proofs.Ytdbjknljdplinaa.Fix
