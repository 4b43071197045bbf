/- Contracts of package fix: how far, a part of the way, a step. -/
import Derived.Test.YtdbjknljdplinaaFixB
namespace Go.Proofs.Ytdbjknljdplinaa.Fix
open Go.ChangeShapes Go.WideShapes Go.ChangeAt Go.RowKit

set_option maxHeartbeats 400000 in
theorem far_yes (x y u v : Int) (r : Nat) (hp : Near x y) (hq : Near u v) (hr : IsRoot (sqd x y u v) r) (w : World) :
    Calls Try.prog 15 #[P x y, P u v] w fun e w' => e = .returned (.int .i32 (r : Int)) ∧ Ext w w' := by
  obtain ⟨s1, s2, s3, s4, s5, s6⟩ := sqd_bound hp hq
  have hrs := root_small hr s6
  have S5 := Lib.hid s5; clear s5
  have HR := Lib.hid hr; clear hr
  have S6 := Lib.hid s6; clear s6
  have Hp := Lib.hid hp; have Hq := Lib.hid hq
  obtain ⟨hp1, hp2, hp3, hp4⟩ := hp
  obtain ⟨hq1, hq2, hq3, hq4⟩ := hq
  go_enter Try.func15, Try.ntmps15
  go_wp2_with fail
  refine (near_yes _ _ Hp.out _).mono ?_
  rintro e w1 ⟨rfl, b1⟩
  obtain ⟨c1, f1⟩ := ecell b1
  go_wp2_with fail
  refine (near_yes _ _ Hq.out _).mono ?_
  rintro e w2 ⟨rfl, b2⟩
  obtain ⟨c2, f2⟩ := ecell (ext_trans b1 b2)
  have b12 := ext_trans b1 b2
  clear c1 f1 b1 b2
  go_wp2_with fail
  go_quiet (fail)
  go_wp2_with fail
  refine (root_at (n := sqd x y u v) (r := r) S5.out.symm (by have := S6.out; omega) HR.out _).mono ?_
  rintro e w3 ⟨rfl, rfl⟩
  go_wp2_with fail
  go_ret
  exact ⟨rfl, ext_drewN (ext_trans (ext_alloc (ext_alloc (Ext.rfl' _) _) _) b12) _⟩
/-- So much of a number, rounded to 0. -/
abbrev pt (d a b : Int) : Int := (d * a).tdiv b
set_option maxHeartbeats 1000000 in
theorem part1 (x y u v a b : Int) (kp kq : Nat) (hp : Near x y) (hq : Near u v) (hb0 : 1 ≤ b) (hb1 : b ≤ 4194304)
    (m1 : -2199023255552 ≤ (u - x) * a) (m2 : (u - x) * a ≤ 2199023255552) (m3 : -2199023255552 ≤ (v - y) * a) (m4 : (v - y) * a ≤ 2199023255552)
    (t1 : -2097152 ≤ ((u - x) * a).tdiv b) (t2 : ((u - x) * a).tdiv b ≤ 2097152) (t3 : -2097152 ≤ ((v - y) * a).tdiv b) (t4 : ((v - y) * a).tdiv b ≤ 2097152) (w : World)
    (p0 : w.cell? ⟨kp, 0, none⟩ = some (.int .i32 x)) (p1 : w.cell? ⟨kp, 1, none⟩ = some (.int .i32 y)) (q0 : w.cell? ⟨kq, 0, none⟩ = some (.int .i32 u)) (q1 : w.cell? ⟨kq, 1, none⟩ = some (.int .i32 v)) (lp : kp < w.heap.size) (lq : kq < w.heap.size) :
    Calls Try.prog 72 #[.int .i64 a, .int .i64 b, .pointer (some ⟨kq, 0, none⟩), .pointer (some ⟨kp, 0, none⟩)] w fun e w' => e = .returned (P (x + pt (u - x) a b) (y + pt (v - y) a b)) ∧ Ext w w' := by
  obtain ⟨hp1, hp2, hp3, hp4⟩ := hp
  obtain ⟨hq1, hq2, hq3, hq4⟩ := hq
  have hbz : (b == 0) = false := beq_eq_false_iff_ne.2 (by omega)
  go_enter Try.func72, Try.ntmps72
  go_wp2_with fail
  go_quiet (fail)
  go_wp2_with fail
  go_region
  go_wp2_with fail
  refine bodyPost_ret (v := P (x + pt (u - x) a b) (y + pt (v - y) a b)) (by simp [results, Try.results72, go_sem]) rfl ⟨rfl, ?_⟩
  exact ext_set (ext_set (ext_drewN (ext_alloc (Ext.rfl' _) _) _) (Nat.le_refl _) _) (Nat.le_refl _) _
theorem part1_at (x y u v a b : Int) (kp kq : Nat) (hp : Near x y) (hq : Near u v) (ha : 0 ≤ a) (ha2 : a ≤ 1048576) (hab : a ≤ b) (hb0 : 1 ≤ b) (hb1 : b ≤ 4194304) (w : World)
    (p0 : w.cell? ⟨kp, 0, none⟩ = some (.int .i32 x)) (p1 : w.cell? ⟨kp, 1, none⟩ = some (.int .i32 y)) (q0 : w.cell? ⟨kq, 0, none⟩ = some (.int .i32 u)) (q1 : w.cell? ⟨kq, 1, none⟩ = some (.int .i32 v)) (lp : kp < w.heap.size) (lq : kq < w.heap.size) :
    Calls Try.prog 72 #[.int .i64 a, .int .i64 b, .pointer (some ⟨kq, 0, none⟩), .pointer (some ⟨kp, 0, none⟩)] w fun e w' => e = .returned (P (x + pt (u - x) a b) (y + pt (v - y) a b)) ∧ Ext w w' := by
  obtain ⟨a1, a2⟩ := mul_bound (d := u - x) (D := 2097152) (A := 1048576) (a := a) (by omega) (by omega) ha ha2
  obtain ⟨a3, a4⟩ := mul_bound (d := v - y) (D := 2097152) (A := 1048576) (a := a) (by omega) (by omega) ha ha2
  obtain ⟨b1, b2⟩ := part_bound (d := u - x) (D := 2097152) (by omega) (by omega) ha hab hb0
  obtain ⟨b3, b4⟩ := part_bound (d := v - y) (D := 2097152) (by omega) (by omega) ha hab hb0
  exact part1 x y u v a b kp kq hp hq hb0 hb1 (by omega) (by omega) (by omega) (by omega) b1 b2 b3 b4 w p0 p1 q0 q1 lp lq
theorem part (x y u v : Int) (w : World) :
    Calls Try.prog 61 #[P x y, P u v] w fun e w' => e = .returned (.func (.func 72) #[] #[.pointer (some ⟨w.heap.size + 1, 0, none⟩), .pointer (some ⟨w.heap.size, 0, none⟩)]) ∧
      (w.alloc (.cells #[.int .i32 x, .int .i32 y] 24)).alloc (.cells #[.int .i32 u, .int .i32 v] 24) = w' := by
  go_enter Try.func61, Try.ntmps61
  go_wp2
  go_ret
  exact ⟨rfl, rfl⟩
theorem pair_cells (W : World) (a b c d : Value) (t : TypeId) :
    ((W.alloc (.cells #[a, b] t)).alloc (.cells #[c, d] t)).cell? ⟨W.heap.size, 0, none⟩ = some a ∧ ((W.alloc (.cells #[a, b] t)).alloc (.cells #[c, d] t)).cell? ⟨W.heap.size, 1, none⟩ = some b ∧
    ((W.alloc (.cells #[a, b] t)).alloc (.cells #[c, d] t)).cell? ⟨W.heap.size + 1, 0, none⟩ = some c ∧ ((W.alloc (.cells #[a, b] t)).alloc (.cells #[c, d] t)).cell? ⟨W.heap.size + 1, 1, none⟩ = some d := by
  refine ⟨?_, ?_, ?_, ?_⟩ <;> go_simp
theorem above3 (n : Nat) : n ≤ n + 1 + 1 := by omega
theorem ext_out {w w2 : World} {A B C : Obj} (b12 : Ext (((w.alloc A).alloc B).alloc C) w2) (x y : Value) :
    Ext w ((w2.setCell ⟨w.heap.size + 1 + 1, 0, none⟩ x).setCell ⟨w.heap.size + 1 + 1, 1, none⟩ y) :=
  ext_set (ext_set (ext_trans (ext_alloc (ext_alloc (ext_alloc (Ext.rfl' _) _) _) _) b12) (above3 _) _) (above3 _) _
theorem between_far (x y u v a b : Int) (h : ¬ (Near x y ∧ Near u v)) (w : World) :
    Calls Try.prog 19 #[P x y, P u v, .int .i64 a, .int .i64 b] w fun e w' => e = .returned (P 0 0) ∧ Ext w w' := by
  by_cases hp : Near x y
  · have hq : ¬ Near u v := fun hq => h ⟨hp, hq⟩
    have Hp := Lib.hid hp; have Hq := Lib.hid hq; clear hp hq h
    go_enter Try.func19, Try.ntmps19
    go_wp2_with fail
    refine (near_yes _ _ Hp.out _).mono ?_
    rintro e w1 ⟨rfl, b1⟩
    obtain ⟨c1, f1⟩ := ecell b1
    go_wp2_with fail
    refine (near_no _ _ Hq.out _).mono ?_
    rintro e w2 ⟨rfl, b2⟩
    have b12 := ext_trans b1 b2
    obtain ⟨c2, f2⟩ := ecell b12
    clear c1 f1 b1 b2
    go_wp2_with fail
    refine bodyPost_ret (v := P 0 0) (by simp [results, Try.results19, go_sem, c2]) rfl ⟨rfl, ?_⟩
    exact ext_out b12 _ _
  · have Hp := Lib.hid hp; clear hp h
    go_enter Try.func19, Try.ntmps19
    go_wp2_with fail
    refine (near_no _ _ Hp.out _).mono ?_
    rintro e w1 ⟨rfl, b12⟩
    obtain ⟨c2, f2⟩ := ecell b12
    go_wp2_with fail
    refine bodyPost_ret (v := P 0 0) (by simp [results, Try.results19, go_sem, c2]) rfl ⟨rfl, ?_⟩
    exact ext_out b12 _ _
set_option maxHeartbeats 400000 in
theorem between_none (x y u v a b : Int) (hp : Near x y) (hq : Near u v) (h : b < 1 ∨ 1048576 < b ∨ a < 0 ∨ b < a) (w : World) :
    Calls Try.prog 19 #[P x y, P u v, .int .i64 a, .int .i64 b] w fun e w' => e = .returned (P x y) ∧ Ext w w' := by
  have Hp := Lib.hid hp; have Hq := Lib.hid hq; clear hp hq
  have hall : (b < 1) ∨ (¬ b < 1 ∧ 1048576 < b) ∨ (¬ b < 1 ∧ ¬ 1048576 < b ∧ a < 0) ∨ (¬ b < 1 ∧ ¬ 1048576 < b ∧ ¬ a < 0 ∧ b < a) := by omega
  clear h
  rcases hall with h1 | ⟨h1, h2⟩ | ⟨h1, h2, h3⟩ | ⟨h1, h2, h3, h4⟩
  all_goals
    go_enter Try.func19, Try.ntmps19
    go_wp2_with fail
    refine (near_yes _ _ Hp.out _).mono ?_
    rintro e w1 ⟨rfl, b1⟩
    obtain ⟨c1, f1⟩ := ecell b1
    go_wp2_with fail
    refine (near_yes _ _ Hq.out _).mono ?_
    rintro e w2 ⟨rfl, b2⟩
    have b12 := ext_trans b1 b2
    obtain ⟨c2, f2⟩ := ecell b12
    clear c1 f1 b1 b2
    go_wp2_with fail
    refine bodyPost_ret (v := P x y) (by simp [results, Try.results19, go_sem, c2]) rfl ⟨rfl, ext_out b12 _ _⟩
set_option maxHeartbeats 400000 in
theorem between_yes (x y u v a b : Int) (hp : Near x y) (hq : Near u v) (h1 : 1 ≤ b) (h2 : b ≤ 1048576) (h3 : 0 ≤ a) (h4 : a ≤ b) (w : World) :
    Calls Try.prog 19 #[P x y, P u v, .int .i64 a, .int .i64 b] w fun e w' => e = .returned (P (x + pt (u - x) a b) (y + pt (v - y) a b)) ∧ Ext w w' := by
  have Hp := Lib.hid hp; have Hq := Lib.hid hq; clear hp hq
  go_enter Try.func19, Try.ntmps19
  go_wp2_with fail
  refine (near_yes _ _ Hp.out _).mono ?_
  rintro e w1 ⟨rfl, b1⟩
  obtain ⟨c1, f1⟩ := ecell b1
  go_wp2_with fail
  refine (near_yes _ _ Hq.out _).mono ?_
  rintro e w2 ⟨rfl, b2⟩
  have b12 := ext_trans b1 b2
  obtain ⟨c2, f2⟩ := ecell b12
  clear c1 f1 b1 b2
  go_wp2_with fail
  refine (part x y u v _).mono ?_
  rintro e w3 ⟨rfl, rfl⟩
  go_wp2_with fail
  refine (part1_at x y u v a b w2.heap.size (w2.heap.size + 1) Hp.out Hq.out h3 (by omega) h4 h1 (by omega) _ (pair_cells w2 _ _ _ _ _).1 (pair_cells w2 _ _ _ _ _).2.1 (pair_cells w2 _ _ _ _ _).2.2.1 (pair_cells w2 _ _ _ _ _).2.2.2 (by simp; omega) (by simp)).mono ?_
  rintro e w4 ⟨rfl, b4⟩
  have b5 := ext_trans b12 (ext_trans (ext_alloc (ext_alloc (Ext.rfl' w2) _) _) b4)
  obtain ⟨c5, f5⟩ := ecell b5
  clear c2 f2 b12 b4
  go_wp2_with fail
  refine bodyPost_ret (v := P (x + pt (u - x) a b) (y + pt (v - y) a b)) (by simp [results, Try.results19, go_sem, c5]) rfl ⟨rfl, ext_out b5 _ _⟩
end Go.Proofs.Ytdbjknljdplinaa.Fix
