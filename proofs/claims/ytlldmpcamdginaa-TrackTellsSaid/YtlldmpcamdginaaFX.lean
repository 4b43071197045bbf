
import Derived.Test.YtlldmpcamdginaaRows
import Derived.Test.YtlldmpcamdginaaG1
import Derived.WalkKit
import Derived.ProofKit
import Derived.OpenShut
import Derived.Outline
import Derived.Lib.Hide
import Derived.BigQuiet
import Derived.Deep.QuietTactic
import Derived.RegionTactic
import Derived.BigRegion
/- Plain numbers: the root bit by bit. -/
namespace Go.Proofs.Ytlldmpcamdginaa.Fix
theorem four_le {j : Nat} : 1 ≤ 4 ^ j := Nat.pow_pos (by omega)
theorem sq (r : Nat) : (2 * r + 1) * (2 * r + 1) = 4 * (r * r) + 4 * r + 1 := by
  have h : 2 * r * (2 * r) = 4 * (r * r) := by rw [Nat.mul_mul_mul_comm]
  simp only [Nat.add_mul, Nat.mul_add]
  omega
theorem room {r j : Nat} (hj : j ≤ 31) (hr : r < 2 ^ (31 - j)) : r * 4 ^ (j + 1) + 4 ^ j + 3 ≤ 18446744073709551616 := by
  have h1 : (r + 1) * 4 ^ j ≤ 2 ^ 62 := by
    have e : (4 : Nat) ^ j = 2 ^ j * 2 ^ j := by rw [← Nat.pow_add, show (4 : Nat) = 2 ^ 2 from rfl, ← Nat.pow_mul]; congr 1; omega
    have h2 : (r + 1) * 2 ^ j ≤ 2 ^ 31 := by
      calc (r + 1) * 2 ^ j ≤ 2 ^ (31 - j) * 2 ^ j := Nat.mul_le_mul_right _ hr
        _ = 2 ^ 31 := by rw [← Nat.pow_add]; congr 1; omega
    calc (r + 1) * 4 ^ j = (r + 1) * 2 ^ j * 2 ^ j := by rw [e, Nat.mul_assoc]
      _ ≤ 2 ^ 31 * 2 ^ 31 := Nat.mul_le_mul h2 (Nat.pow_le_pow_right (by omega) hj)
      _ = 2 ^ 62 := by decide
  have h3 : r * 4 ^ (j + 1) = 4 * (r * 4 ^ j) := by rw [Nat.pow_succ]; ac_rfl
  have h4 : (r + 1) * 4 ^ j = r * 4 ^ j + 4 ^ j := by rw [Nat.add_mul, Nat.one_mul]
  have h5 := @four_le j
  rw [h3]; rw [h4] at h1
  have : (2 : Nat) ^ 62 = 4611686018427387904 := by decide
  omega
/-- What holds ahead of the round at 4^k/4. -/
def Inv (n0 k r : Nat) : Prop := k ≤ 32 ∧ r < 2 ^ (32 - k) ∧ r * r * 4 ^ k ≤ n0 ∧ n0 < (r + 1) * (r + 1) * 4 ^ k
theorem inv_start {n0 : Nat} (h : n0 < 18446744073709551616) : Inv n0 32 0 := by
  refine ⟨by omega, by decide, by simp, ?_⟩
  have : (4 : Nat) ^ 32 = 18446744073709551616 := by decide
  simp only [this]; omega
theorem bit_succ (j : Nat) : 4 ^ (j + 1) / 4 = 4 ^ j := by rw [Nat.pow_succ]; omega
theorem inv_yes {n0 j r : Nat} (h : Inv n0 (j + 1) r) (ht : r * 4 ^ (j + 1) + 4 ^ j ≤ n0 - r * r * 4 ^ (j + 1)) :
    Inv n0 j (2 * r + 1) ∧ (2 * r + 1) * 4 ^ j = r * 4 ^ (j + 1) / 2 + 4 ^ j ∧
      n0 - (2 * r + 1) * (2 * r + 1) * 4 ^ j = n0 - r * r * 4 ^ (j + 1) - (r * 4 ^ (j + 1) + 4 ^ j) := by
  obtain ⟨hk, hr, hlo, hhi⟩ := h
  have e1 : r * 4 ^ (j + 1) = 4 * (r * 4 ^ j) := by rw [Nat.pow_succ]; ac_rfl
  have e2 : r * r * 4 ^ (j + 1) = 4 * (r * r * 4 ^ j) := by rw [Nat.pow_succ]; ac_rfl
  have e3 : (2 * r + 1) * 4 ^ j = 2 * (r * 4 ^ j) + 4 ^ j := by rw [Nat.add_mul, Nat.one_mul, Nat.mul_assoc]
  have e4 : (2 * r + 1) * (2 * r + 1) * 4 ^ j = 4 * (r * r * 4 ^ j) + 4 * (r * 4 ^ j) + 4 ^ j := by
    rw [sq, Nat.add_mul, Nat.add_mul, Nat.one_mul, Nat.mul_assoc 4, Nat.mul_assoc 4]
  have e5 : (2 * r + 1 + 1) * (2 * r + 1 + 1) * 4 ^ j = (r + 1) * (r + 1) * 4 ^ (j + 1) := by
    rw [Nat.pow_succ, show 2 * r + 1 + 1 = 2 * (r + 1) from by omega, Nat.mul_mul_mul_comm, show 2 * 2 = 4 from rfl]; ac_rfl
  have e6 : 2 ^ (32 - j) = 2 * 2 ^ (32 - (j + 1)) := by rw [← Nat.pow_succ']; congr 1; omega
  rw [e1, e2] at ht
  rw [e2] at hlo
  refine ⟨⟨by omega, by rw [e6]; omega, by rw [e4]; omega, by rw [e5]; exact hhi⟩, ?_, ?_⟩
  · rw [e3, e1]; omega
  · rw [e4, e1, e2]; omega
theorem inv_no {n0 j r : Nat} (h : Inv n0 (j + 1) r) (ht : ¬ r * 4 ^ (j + 1) + 4 ^ j ≤ n0 - r * r * 4 ^ (j + 1)) :
    Inv n0 j (2 * r) ∧ (2 * r) * 4 ^ j = r * 4 ^ (j + 1) / 2 ∧ n0 - (2 * r) * (2 * r) * 4 ^ j = n0 - r * r * 4 ^ (j + 1) := by
  obtain ⟨hk, hr, hlo, hhi⟩ := h
  have e1 : r * 4 ^ (j + 1) = 4 * (r * 4 ^ j) := by rw [Nat.pow_succ]; ac_rfl
  have e2 : r * r * 4 ^ (j + 1) = 4 * (r * r * 4 ^ j) := by rw [Nat.pow_succ]; ac_rfl
  have e3 : (2 * r) * 4 ^ j = 2 * (r * 4 ^ j) := by rw [Nat.mul_assoc]
  have e4 : (2 * r) * (2 * r) * 4 ^ j = 4 * (r * r * 4 ^ j) := by rw [Nat.mul_mul_mul_comm, Nat.mul_assoc]
  have e4' : (2 * r + 1) * (2 * r + 1) * 4 ^ j = 4 * (r * r * 4 ^ j) + 4 * (r * 4 ^ j) + 4 ^ j := by
    rw [sq, Nat.add_mul, Nat.add_mul, Nat.one_mul, Nat.mul_assoc 4, Nat.mul_assoc 4]
  have e6 : 2 ^ (32 - j) = 2 * 2 ^ (32 - (j + 1)) := by rw [← Nat.pow_succ']; congr 1; omega
  rw [e1, e2] at ht
  rw [e2] at hlo
  refine ⟨⟨by omega, by rw [e6]; omega, by rw [e4]; omega, by rw [e4']; omega⟩, ?_, ?_⟩
  · rw [e3, e1]; omega
  · rw [e4, e2]
/-- The greatest number whose square is not greater. -/
def IsRoot (n r : Nat) : Prop := r * r ≤ n ∧ n < (r + 1) * (r + 1)
theorem root_end {n0 r : Nat} (h : Inv n0 0 r) : IsRoot n0 r ∧ r < 4294967296 := by
  obtain ⟨_, hr, hlo, hhi⟩ := h
  refine ⟨⟨by simpa using hlo, by simpa using hhi⟩, ?_⟩
  have : (2 : Nat) ^ (32 - 0) = 4294967296 := by decide
  omega
theorem isRoot_unique {n r s : Nat} (h : IsRoot n r) (k : IsRoot n s) : r = s := by
  rcases Nat.lt_trichotomy r s with hl | hl | hl
  · have := Nat.mul_le_mul (Nat.succ_le_of_lt hl) (Nat.succ_le_of_lt hl)
    have h2 := h.2; have h3 := k.1
    simp only [Nat.succ_eq_add_one] at this
    omega
  · exact hl
  · have := Nat.mul_le_mul (Nat.succ_le_of_lt hl) (Nat.succ_le_of_lt hl)
    have h2 := k.2; have h3 := h.1
    simp only [Nat.succ_eq_add_one] at this
    omega
theorem root_exists (n : Nat) : ∃ r, IsRoot n r := by
  induction n with
  | zero => exact ⟨0, by decide, by decide⟩
  | succ n ih =>
    obtain ⟨r, h1, h2⟩ := ih
    by_cases h : n + 1 < (r + 1) * (r + 1)
    · exact ⟨r, by omega, h⟩
    · refine ⟨r + 1, by omega, ?_⟩
      have : (r + 1) * (r + 1) < (r + 1 + 1) * (r + 1 + 1) := Nat.mul_lt_mul'' (by omega) (by omega)
      omega
/-- The square of how far two points are apart. -/
def sqd (x y u v : Int) : Nat := ((u - x) * (u - x) + (v - y) * (v - y)).toNat
theorem sq_bound {d b : Int} (h1 : -b ≤ d) (h2 : d ≤ b) : 0 ≤ d * d ∧ d * d ≤ b * b := by
  refine ⟨?_, ?_⟩
  · rcases Int.le_total 0 d with h | h
    · exact Int.mul_nonneg h h
    · exact Int.mul_nonneg_of_nonpos_of_nonpos h h
  · have : 0 ≤ (b - d) * (b + d) := Int.mul_nonneg (by omega) (by omega)
    rw [Int.sub_mul, Int.mul_add, Int.mul_add, Int.mul_comm d b] at this
    omega
theorem sqd_bound {x y u v : Int} (h : -1048576 ≤ x ∧ x ≤ 1048576 ∧ -1048576 ≤ y ∧ y ≤ 1048576) (k : -1048576 ≤ u ∧ u ≤ 1048576 ∧ -1048576 ≤ v ∧ v ≤ 1048576) :
    0 ≤ (u - x) * (u - x) ∧ (u - x) * (u - x) ≤ 4398046511104 ∧ 0 ≤ (v - y) * (v - y) ∧ (v - y) * (v - y) ≤ 4398046511104 ∧ ((sqd x y u v : Nat) : Int) = (u - x) * (u - x) + (v - y) * (v - y) ∧ sqd x y u v ≤ 8796093022208 := by
  obtain ⟨a1, a2⟩ := sq_bound (d := u - x) (b := 2097152) (by omega) (by omega)
  obtain ⟨b1, b2⟩ := sq_bound (d := v - y) (b := 2097152) (by omega) (by omega)
  unfold sqd
  refine ⟨a1, by omega, b1, by omega, by omega, by omega⟩
theorem root_small {n r : Nat} (h : IsRoot n r) (hn : n ≤ 8796093022208) : r ≤ 2965821 := by
  rcases Nat.lt_or_ge 2965821 r with hl | hl
  · have := Nat.mul_le_mul (Nat.succ_le_of_lt hl) (Nat.succ_le_of_lt hl)
    have h1 := h.1
    simp only [Nat.succ_eq_add_one] at this
    omega
  · exact hl
theorem part_pos {d a b : Int} (hd : 0 ≤ d) (ha : 0 ≤ a) (hab : a ≤ b) (hb : 1 ≤ b) : 0 ≤ (d * a).tdiv b ∧ (d * a).tdiv b ≤ d ∧ (d * a).tdiv b = d * a / b := by
  have h0 : 0 ≤ d * a := Int.mul_nonneg hd ha
  have e : (d * a).tdiv b = d * a / b := Int.tdiv_eq_ediv_of_nonneg h0
  have h1 : d * a ≤ d * b := Int.mul_le_mul_of_nonneg_left hab hd
  refine ⟨by rw [e]; exact Int.ediv_nonneg h0 (by omega), ?_, e⟩
  rw [e]
  exact Int.ediv_le_of_le_mul (by omega) h1
theorem part_neg {d a b : Int} (hd : d ≤ 0) (ha : 0 ≤ a) (hab : a ≤ b) (hb : 1 ≤ b) : d ≤ (d * a).tdiv b ∧ (d * a).tdiv b ≤ 0 ∧ (d * a).tdiv b = -(-d * a / b) := by
  obtain ⟨h1, h2, h3⟩ := part_pos (d := -d) (by omega) ha hab hb
  have e : (d * a).tdiv b = -((-d * a).tdiv b) := by
    rw [Int.neg_mul, Int.neg_tdiv, Int.neg_neg]
  rw [e]
  refine ⟨by omega, by omega, by rw [h3]⟩
theorem part_bound {d a b D : Int} (h1 : -D ≤ d) (h2 : d ≤ D) (ha : 0 ≤ a) (hab : a ≤ b) (hb : 1 ≤ b) : -D ≤ (d * a).tdiv b ∧ (d * a).tdiv b ≤ D := by
  rcases Int.le_total 0 d with h | h
  · have := part_pos h ha hab hb; omega
  · have := part_neg h ha hab hb; omega
theorem mul_bound {d a D A : Int} (h1 : -D ≤ d) (h2 : d ≤ D) (ha : 0 ≤ a) (hA : a ≤ A) : -(D * A) ≤ d * a ∧ d * a ≤ D * A := by
  have hD : 0 ≤ D := by omega
  have a1 : d * a ≤ D * a := Int.mul_le_mul_of_nonneg_right h2 ha
  have a2 : D * a ≤ D * A := Int.mul_le_mul_of_nonneg_left hA hD
  have a3 : -D * a ≤ d * a := Int.mul_le_mul_of_nonneg_right h1 ha
  rw [Int.neg_mul] at a3
  omega
end Go.Proofs.Ytlldmpcamdginaa.Fix
namespace Go.Proofs.Ytlldmpcamdginaa.Fix
open Go.ChangeShapes Go.WideShapes Go.ChangeAt Go.RowKit

def RootPost (n : Nat) (w : World) (e : Ending) (w' : World) : Prop := ∃ r : Nat, IsRoot n r ∧ r < 4294967296 ∧ e = .returned (.int .u64 (r : Int)) ∧ w = w'
def RootRel (n0 : Nat) (n root bit : Value) : Prop :=
  ∃ k r : Nat, Inv n0 k r ∧ n = .int .u64 ((n0 - r * r * 4 ^ k : Nat) : Int) ∧ root = .int .u64 ((r * 4 ^ k : Nat) : Int) ∧ bit = .int .u64 ((4 ^ k / 4 : Nat) : Int)
theorem rel_start {n0 : Nat} (h : n0 < 18446744073709551616) : RootRel n0 (.int .u64 (n0 : Int)) (.int .u64 0) (.int .u64 4611686018427387904) :=
  ⟨32, 0, inv_start h, by simp, by simp, by simp⟩
theorem meas (C : Nat) (h : 1 ≤ C) : (intOf (Value.int IntKind.u64 ((C : Int) / 4))).toNat < (intOf (Value.int IntKind.u64 (C : Int))).toNat := by
  simp only [intOf]; omega
end Go.Proofs.Ytlldmpcamdginaa.Fix
namespace Go.Proofs.Ytlldmpcamdginaa.Fix
open Go.ChangeShapes Go.WideShapes Go.ChangeAt Go.RowKit

abbrev P (x y : Int) : Value := .agg #[.int .i32 x, .int .i32 y]
/-- Is a point one that is asked of? -/
def nearB (x y : Int) : Bool := decide (-1048576 ≤ x ∧ x ≤ 1048576 ∧ -1048576 ≤ y ∧ y ≤ 1048576)
theorem near_yes (x y : Int) (h : -1048576 ≤ x ∧ x ≤ 1048576 ∧ -1048576 ≤ y ∧ y ≤ 1048576) (w : World) :
    Calls Try.prog 77 #[P x y] w fun e w' => e = .returned (.bool true) ∧ Ext w w' := by
  obtain ⟨h1, h2, h3, h4⟩ := h
  go_enter Try.func77, Try.ntmps77
  go_wp2
  go_ret
  exact ⟨rfl, ext_alloc (Ext.rfl' _) _⟩
theorem near_no (x y : Int) (h : ¬ (-1048576 ≤ x ∧ x ≤ 1048576 ∧ -1048576 ≤ y ∧ y ≤ 1048576)) (w : World) :
    Calls Try.prog 77 #[P x y] w fun e w' => e = .returned (.bool false) ∧ Ext w w' := by
  by_cases h1 : -1048576 ≤ x
  · by_cases h2 : x ≤ 1048576
    · by_cases h3 : -1048576 ≤ y
      · have h4 : ¬ y ≤ 1048576 := fun h4 => h ⟨h1, h2, h3, h4⟩
        clear h
        go_enter Try.func77, Try.ntmps77
        go_wp2
        go_ret
        exact ⟨rfl, ext_alloc (Ext.rfl' _) _⟩
      · clear h
        go_enter Try.func77, Try.ntmps77
        go_wp2
        go_ret
        exact ⟨rfl, ext_alloc (Ext.rfl' _) _⟩
    · clear h
      go_enter Try.func77, Try.ntmps77
      go_wp2
      go_ret
      exact ⟨rfl, ext_alloc (Ext.rfl' _) _⟩
  · clear h
    go_enter Try.func77, Try.ntmps77
    go_wp2
    go_ret
    exact ⟨rfl, ext_alloc (Ext.rfl' _) _⟩
abbrev Near (x y : Int) : Prop := -1048576 ≤ x ∧ x ≤ 1048576 ∧ -1048576 ≤ y ∧ y ≤ 1048576
end Go.Proofs.Ytlldmpcamdginaa.Fix
namespace Go.Proofs.Ytlldmpcamdginaa.Fix
open Go.ChangeShapes Go.WideShapes Go.ChangeAt Go.RowKit

/-- So much of a number, rounded to 0. -/
abbrev pt (d a b : Int) : Int := (d * a).tdiv b
set_option maxHeartbeats 1000000 in
theorem part1 (x y u v a b : Int) (kp kq : Nat) (hp : Near x y) (hq : Near u v) (hb0 : 1 ≤ b) (hb1 : b ≤ 4194304)
    (m1 : -2199023255552 ≤ (u - x) * a) (m2 : (u - x) * a ≤ 2199023255552) (m3 : -2199023255552 ≤ (v - y) * a) (m4 : (v - y) * a ≤ 2199023255552)
    (t1 : -2097152 ≤ ((u - x) * a).tdiv b) (t2 : ((u - x) * a).tdiv b ≤ 2097152) (t3 : -2097152 ≤ ((v - y) * a).tdiv b) (t4 : ((v - y) * a).tdiv b ≤ 2097152) (w : World)
    (p0 : w.cell? ⟨kp, 0, none⟩ = some (.int .i32 x)) (p1 : w.cell? ⟨kp, 1, none⟩ = some (.int .i32 y)) (q0 : w.cell? ⟨kq, 0, none⟩ = some (.int .i32 u)) (q1 : w.cell? ⟨kq, 1, none⟩ = some (.int .i32 v)) (lp : kp < w.heap.size) (lq : kq < w.heap.size) :
    Calls Try.prog 91 #[.int .i64 a, .int .i64 b, .pointer (some ⟨kq, 0, none⟩), .pointer (some ⟨kp, 0, none⟩)] w fun e w' => e = .returned (P (x + pt (u - x) a b) (y + pt (v - y) a b)) ∧ Ext w w' := by
  obtain ⟨hp1, hp2, hp3, hp4⟩ := hp
  obtain ⟨hq1, hq2, hq3, hq4⟩ := hq
  have hbz : (b == 0) = false := beq_eq_false_iff_ne.2 (by omega)
  go_enter Try.func91, Try.ntmps91
  go_wp2_with fail
  go_quiet (fail)
  go_wp2_with fail
  go_region
  go_wp2_with fail
  refine bodyPost_ret (v := P (x + pt (u - x) a b) (y + pt (v - y) a b)) (by simp [results, Try.results91, go_sem]) rfl ⟨rfl, ?_⟩
  exact ext_set (ext_set (ext_drewN (ext_alloc (Ext.rfl' _) _) _) (Nat.le_refl _) _) (Nat.le_refl _) _
theorem part1_at (x y u v a b : Int) (kp kq : Nat) (hp : Near x y) (hq : Near u v) (ha : 0 ≤ a) (ha2 : a ≤ 1048576) (hab : a ≤ b) (hb0 : 1 ≤ b) (hb1 : b ≤ 4194304) (w : World)
    (p0 : w.cell? ⟨kp, 0, none⟩ = some (.int .i32 x)) (p1 : w.cell? ⟨kp, 1, none⟩ = some (.int .i32 y)) (q0 : w.cell? ⟨kq, 0, none⟩ = some (.int .i32 u)) (q1 : w.cell? ⟨kq, 1, none⟩ = some (.int .i32 v)) (lp : kp < w.heap.size) (lq : kq < w.heap.size) :
    Calls Try.prog 91 #[.int .i64 a, .int .i64 b, .pointer (some ⟨kq, 0, none⟩), .pointer (some ⟨kp, 0, none⟩)] w fun e w' => e = .returned (P (x + pt (u - x) a b) (y + pt (v - y) a b)) ∧ Ext w w' := by
  obtain ⟨a1, a2⟩ := mul_bound (d := u - x) (D := 2097152) (A := 1048576) (a := a) (by omega) (by omega) ha ha2
  obtain ⟨a3, a4⟩ := mul_bound (d := v - y) (D := 2097152) (A := 1048576) (a := a) (by omega) (by omega) ha ha2
  obtain ⟨b1, b2⟩ := part_bound (d := u - x) (D := 2097152) (by omega) (by omega) ha hab hb0
  obtain ⟨b3, b4⟩ := part_bound (d := v - y) (D := 2097152) (by omega) (by omega) ha hab hb0
  exact part1 x y u v a b kp kq hp hq hb0 hb1 (by omega) (by omega) (by omega) (by omega) b1 b2 b3 b4 w p0 p1 q0 q1 lp lq
theorem part (x y u v : Int) (w : World) :
    Calls Try.prog 78 #[P x y, P u v] w fun e w' => e = .returned (.func (.func 91) #[] #[.pointer (some ⟨w.heap.size + 1, 0, none⟩), .pointer (some ⟨w.heap.size, 0, none⟩)]) ∧
      (w.alloc (.cells #[.int .i32 x, .int .i32 y] 61)).alloc (.cells #[.int .i32 u, .int .i32 v] 61) = w' := by
  go_enter Try.func78, Try.ntmps78
  go_wp2
  go_ret
  exact ⟨rfl, rfl⟩
theorem pair_cells (W : World) (a b c d : Value) (t : TypeId) :
    ((W.alloc (.cells #[a, b] t)).alloc (.cells #[c, d] t)).cell? ⟨W.heap.size, 0, none⟩ = some a ∧ ((W.alloc (.cells #[a, b] t)).alloc (.cells #[c, d] t)).cell? ⟨W.heap.size, 1, none⟩ = some b ∧
    ((W.alloc (.cells #[a, b] t)).alloc (.cells #[c, d] t)).cell? ⟨W.heap.size + 1, 0, none⟩ = some c ∧ ((W.alloc (.cells #[a, b] t)).alloc (.cells #[c, d] t)).cell? ⟨W.heap.size + 1, 1, none⟩ = some d := by
  refine ⟨?_, ?_, ?_, ?_⟩ <;> go_simp
theorem above3 (n : Nat) : n ≤ n + 1 + 1 := by omega
theorem ext_out {w w2 : World} {A B C : Obj} (b12 : Ext (((w.alloc A).alloc B).alloc C) w2) (x y : Value) :
    Ext w ((w2.setCell ⟨w.heap.size + 1 + 1, 0, none⟩ x).setCell ⟨w.heap.size + 1 + 1, 1, none⟩ y) :=
  ext_set (ext_set (ext_trans (ext_alloc (ext_alloc (ext_alloc (Ext.rfl' _) _) _) _) b12) (above3 _) _) (above3 _) _
theorem between_far (x y u v a b : Int) (h : ¬ (Near x y ∧ Near u v)) (w : World) :
    Calls Try.prog 49 #[P x y, P u v, .int .i64 a, .int .i64 b] w fun e w' => e = .returned (P 0 0) ∧ Ext w w' := by
  by_cases hp : Near x y
  · have hq : ¬ Near u v := fun hq => h ⟨hp, hq⟩
    have Hp := Lib.hid hp; have Hq := Lib.hid hq; clear hp hq h
    go_enter Try.func49, Try.ntmps49
    go_wp2_with fail
    refine (near_yes _ _ Hp.out _).mono ?_
    rintro e w1 ⟨rfl, b1⟩
    obtain ⟨c1, f1⟩ := ecell b1
    go_wp2_with fail
    refine (near_no _ _ Hq.out _).mono ?_
    rintro e w2 ⟨rfl, b2⟩
    have b12 := ext_trans b1 b2
    obtain ⟨c2, f2⟩ := ecell b12
    clear c1 f1 b1 b2
    go_wp2_with fail
    refine bodyPost_ret (v := P 0 0) (by simp [results, Try.results49, go_sem, c2]) rfl ⟨rfl, ?_⟩
    exact ext_out b12 _ _
  · have Hp := Lib.hid hp; clear hp h
    go_enter Try.func49, Try.ntmps49
    go_wp2_with fail
    refine (near_no _ _ Hp.out _).mono ?_
    rintro e w1 ⟨rfl, b12⟩
    obtain ⟨c2, f2⟩ := ecell b12
    go_wp2_with fail
    refine bodyPost_ret (v := P 0 0) (by simp [results, Try.results49, go_sem, c2]) rfl ⟨rfl, ?_⟩
    exact ext_out b12 _ _
set_option maxHeartbeats 400000 in
theorem between_none (x y u v a b : Int) (hp : Near x y) (hq : Near u v) (h : b < 1 ∨ 1048576 < b ∨ a < 0 ∨ b < a) (w : World) :
    Calls Try.prog 49 #[P x y, P u v, .int .i64 a, .int .i64 b] w fun e w' => e = .returned (P x y) ∧ Ext w w' := by
  have Hp := Lib.hid hp; have Hq := Lib.hid hq; clear hp hq
  have hall : (b < 1) ∨ (¬ b < 1 ∧ 1048576 < b) ∨ (¬ b < 1 ∧ ¬ 1048576 < b ∧ a < 0) ∨ (¬ b < 1 ∧ ¬ 1048576 < b ∧ ¬ a < 0 ∧ b < a) := by omega
  clear h
  rcases hall with h1 | ⟨h1, h2⟩ | ⟨h1, h2, h3⟩ | ⟨h1, h2, h3, h4⟩
  all_goals
    go_enter Try.func49, Try.ntmps49
    go_wp2_with fail
    refine (near_yes _ _ Hp.out _).mono ?_
    rintro e w1 ⟨rfl, b1⟩
    obtain ⟨c1, f1⟩ := ecell b1
    go_wp2_with fail
    refine (near_yes _ _ Hq.out _).mono ?_
    rintro e w2 ⟨rfl, b2⟩
    have b12 := ext_trans b1 b2
    obtain ⟨c2, f2⟩ := ecell b12
    clear c1 f1 b1 b2
    go_wp2_with fail
    refine bodyPost_ret (v := P x y) (by simp [results, Try.results49, go_sem, c2]) rfl ⟨rfl, ext_out b12 _ _⟩
set_option maxHeartbeats 400000 in
theorem between_yes (x y u v a b : Int) (hp : Near x y) (hq : Near u v) (h1 : 1 ≤ b) (h2 : b ≤ 1048576) (h3 : 0 ≤ a) (h4 : a ≤ b) (w : World) :
    Calls Try.prog 49 #[P x y, P u v, .int .i64 a, .int .i64 b] w fun e w' => e = .returned (P (x + pt (u - x) a b) (y + pt (v - y) a b)) ∧ Ext w w' := by
  have Hp := Lib.hid hp; have Hq := Lib.hid hq; clear hp hq
  go_enter Try.func49, Try.ntmps49
  go_wp2_with fail
  refine (near_yes _ _ Hp.out _).mono ?_
  rintro e w1 ⟨rfl, b1⟩
  obtain ⟨c1, f1⟩ := ecell b1
  go_wp2_with fail
  refine (near_yes _ _ Hq.out _).mono ?_
  rintro e w2 ⟨rfl, b2⟩
  have b12 := ext_trans b1 b2
  obtain ⟨c2, f2⟩ := ecell b12
  clear c1 f1 b1 b2
  go_wp2_with fail
  refine (part x y u v _).mono ?_
  rintro e w3 ⟨rfl, rfl⟩
  go_wp2_with fail
  refine (part1_at x y u v a b w2.heap.size (w2.heap.size + 1) Hp.out Hq.out h3 (by omega) h4 h1 (by omega) _ (pair_cells w2 _ _ _ _ _).1 (pair_cells w2 _ _ _ _ _).2.1 (pair_cells w2 _ _ _ _ _).2.2.1 (pair_cells w2 _ _ _ _ _).2.2.2 (by simp; omega) (by simp)).mono ?_
  rintro e w4 ⟨rfl, b4⟩
  have b5 := ext_trans b12 (ext_trans (ext_alloc (ext_alloc (Ext.rfl' w2) _) _) b4)
  obtain ⟨c5, f5⟩ := ecell b5
  clear c2 f2 b12 b4
  go_wp2_with fail
  refine bodyPost_ret (v := P (x + pt (u - x) a b) (y + pt (v - y) a b)) (by simp [results, Try.results49, go_sem, c5]) rfl ⟨rfl, ext_out b5 _ _⟩
end Go.Proofs.Ytlldmpcamdginaa.Fix
namespace Go.Proofs.Ytlldmpcamdginaa.Fix
theorem two_sq (a b : Nat) : (a + b) * (a + b) ≤ 2 * (a * a + b * b) := by
  rcases Nat.le_total a b with h | h
  · obtain ⟨c, rfl⟩ := Nat.le.dest h
    simp only [Nat.add_mul, Nat.mul_add]
    have := Nat.mul_comm a c
    omega
  · obtain ⟨c, rfl⟩ := Nat.le.dest h
    simp only [Nat.add_mul, Nat.mul_add]
    have := Nat.mul_comm b c
    omega
theorem sum_le {a b r : Nat} (h : a * a + b * b < (r + 1) * (r + 1)) : 2 * (a + b) ≤ 3 * (r + 1) := by
  rcases Nat.lt_or_ge (3 * (r + 1)) (2 * (a + b)) with hl | hl
  · have h1 := Nat.mul_le_mul (Nat.le_of_lt hl) (Nat.le_of_lt hl)
    have h2 := two_sq a b
    have e1 : 3 * (r + 1) * (3 * (r + 1)) = 9 * ((r + 1) * (r + 1)) := by rw [Nat.mul_mul_mul_comm]
    have e2 : 2 * (a + b) * (2 * (a + b)) = 4 * ((a + b) * (a + b)) := by rw [Nat.mul_mul_mul_comm]
    rw [e1, e2] at h1
    omega
  · exact hl
theorem sq_le (x y : Nat) (h : x ≤ y) : x * x ≤ y * y := Nat.mul_le_mul h h
/-- A step of 256 along a way of r leaves less than r - 253. -/
theorem step_sq {a b a' b' r t : Nat} (hr : 1 ≤ r) (h2 : a * a + b * b < (r + 1) * (r + 1)) (ht : t ≤ r) (ha : r * a' ≤ a * t + r) (hb : r * b' ≤ b * t + r) :
    a' * a' + b' * b' < (t + 3) * (t + 3) := by
  have hs := sum_le h2
  have A := sq_le _ _ ha
  have B := sq_le _ _ hb
  have eA : r * a' * (r * a') = r * r * (a' * a') := Nat.mul_mul_mul_comm _ _ _ _
  have eB : r * b' * (r * b') = r * r * (b' * b') := Nat.mul_mul_mul_comm _ _ _ _
  have fA : (a * t + r) * (a * t + r) = a * a * (t * t) + 2 * (t * r * a) + r * r := by
    simp only [Nat.add_mul, Nat.mul_add, Nat.mul_mul_mul_comm a t a t]
    have e1 : a * t * r = t * r * a := by ac_rfl
    have e2 : r * (a * t) = t * r * a := by ac_rfl
    rw [e1, e2]; omega
  have fB : (b * t + r) * (b * t + r) = b * b * (t * t) + 2 * (t * r * b) + r * r := by
    simp only [Nat.add_mul, Nat.mul_add, Nat.mul_mul_mul_comm b t b t]
    have e1 : b * t * r = t * r * b := by ac_rfl
    have e2 : r * (b * t) = t * r * b := by ac_rfl
    rw [e1, e2]; omega
  rw [eA, fA] at A
  rw [eB, fB] at B
  have h3 : (a * a + b * b) * (t * t) ≤ (r * r + 2 * r) * (t * t) := Nat.mul_le_mul_right _ (by
    have : (r + 1) * (r + 1) = r * r + 2 * r + 1 := by simp only [Nat.add_mul, Nat.mul_add]; omega
    omega)
  have h4 : t * r * (2 * (a + b)) ≤ t * r * (3 * (r + 1)) := Nat.mul_le_mul_left _ hs
  have e4 : t * r * (2 * (a + b)) = 2 * (t * r * a) + 2 * (t * r * b) := by
    rw [Nat.mul_left_comm, Nat.mul_add]; omega
  have e5 : t * r * (3 * (r + 1)) = 3 * (t * (r * r)) + 3 * (t * r) := by
    rw [Nat.mul_left_comm, Nat.mul_add, Nat.mul_one, Nat.mul_assoc t r r]; omega
  rw [e4, e5] at h4
  have e6 : (r * r + 2 * r) * (t * t) = t * t * (r * r) + 2 * (t * (t * r)) := by
    rw [Nat.add_mul]
    have e1 : r * r * (t * t) = t * t * (r * r) := Nat.mul_comm _ _
    have e2 : 2 * r * (t * t) = 2 * (t * (t * r)) := by ac_rfl
    rw [e1, e2]
  rw [Nat.add_mul, e6] at h3
  have h7 : t * (t * r) ≤ t * (r * r) := Nat.mul_le_mul_left _ (Nat.mul_le_mul_right _ ht)
  have h8 : t * r ≤ r * r := Nat.mul_le_mul_right _ ht
  have h9 : 1 ≤ r * r := Nat.mul_le_mul hr hr
  have key : r * r * (a' * a' + b' * b') < r * r * ((t + 3) * (t + 3)) := by
    have e8 : r * r * ((t + 3) * (t + 3)) = t * t * (r * r) + 6 * (t * (r * r)) + 9 * (r * r) := by
      have e1 : (t + 3) * (t + 3) = t * t + 6 * t + 9 := by simp only [Nat.add_mul, Nat.mul_add]; omega
      rw [e1, Nat.mul_add, Nat.mul_add]
      have e2 : r * r * (t * t) = t * t * (r * r) := Nat.mul_comm _ _
      have e3 : r * r * (6 * t) = 6 * (t * (r * r)) := by ac_rfl
      have e4 : r * r * 9 = 9 * (r * r) := Nat.mul_comm _ _
      rw [e2, e3, e4]
    rw [e8, Nat.mul_add]
    omega
  exact Nat.lt_of_mul_lt_mul_left key
/-- What is left of a number behind a part of it. -/
theorem left_pos {d s r : Int} (hd : 0 ≤ d) (hs : 0 ≤ s) (hsr : s ≤ r) (hr : 1 ≤ r) : 0 ≤ d - (d * s).tdiv r ∧ d - (d * s).tdiv r ≤ d ∧ r * (d - (d * s).tdiv r) ≤ d * (r - s) + r := by
  obtain ⟨h1, h2, h3⟩ := part_pos hd hs hsr hr
  rw [h3] at h1 h2 ⊢
  refine ⟨by omega, by omega, ?_⟩
  have h4 : d * s < r * (d * s / r) + r := by
    have := Int.emod_lt_of_pos (d * s) (show 0 < r by omega)
    have := Int.mul_ediv_add_emod (d * s) r
    omega
  rw [Int.mul_sub, Int.mul_sub, Int.mul_comm r d]
  omega
theorem left_sq (d s r : Int) (hs : 0 ≤ s) (hsr : s ≤ r) (hr : 1 ≤ r) :
    ∃ a a' : Nat, ((a * a : Nat) : Int) = d * d ∧ ((a' * a' : Nat) : Int) = (d - (d * s).tdiv r) * (d - (d * s).tdiv r) ∧ r * (a' : Int) ≤ (a : Int) * (r - s) + r := by
  rcases Int.le_total 0 d with h | h
  · obtain ⟨h1, _, h3⟩ := left_pos h hs hsr hr
    generalize (d * s).tdiv r = e at *
    obtain ⟨a, rfl⟩ := Int.eq_ofNat_of_zero_le h
    obtain ⟨a', ha'⟩ := Int.eq_ofNat_of_zero_le h1
    rw [ha'] at h3 ⊢
    exact ⟨a, a', by rw [Int.natCast_mul], by rw [Int.natCast_mul], h3⟩
  · obtain ⟨h1, _, h3⟩ := left_pos (d := -d) (by omega) hs hsr hr
    have e : (d * s).tdiv r = -((-d * s).tdiv r) := by rw [Int.neg_mul, Int.neg_tdiv, Int.neg_neg]
    rw [e]
    generalize (-d * s).tdiv r = f at *
    obtain ⟨a, ha⟩ := Int.eq_ofNat_of_zero_le (show 0 ≤ -d by omega)
    obtain ⟨a', ha'⟩ := Int.eq_ofNat_of_zero_le h1
    rw [ha'] at h3
    rw [ha] at h3
    have e1 : d = -(a : Int) := by omega
    have e2 : d - -f = -(a' : Int) := by omega
    refine ⟨a, a', ?_, ?_, h3⟩
    · rw [e1, Int.neg_mul_neg, Int.natCast_mul]
    · rw [e2, Int.neg_mul_neg, Int.natCast_mul]
theorem sqd_cast (x y u v : Int) : ((sqd x y u v : Nat) : Int) = (u - x) * (u - x) + (v - y) * (v - y) := by
  have h : ∀ d : Int, 0 ≤ d * d := fun d => by
    rcases Int.le_total 0 d with h | h
    · exact Int.mul_nonneg h h
    · exact Int.mul_nonneg_of_nonpos_of_nonpos h h
  have := h (u - x); have := h (v - y)
  unfold sqd; omega
/-- Who goes a step is nearer by 254 at least. -/
theorem step_root {x y u v : Int} {r r' : Nat} (hr : IsRoot (sqd x y u v) r) (hlt : 256 < r)
    (hr' : IsRoot (sqd (x + ((u - x) * 256).tdiv r) (y + ((v - y) * 256).tdiv r) u v) r') : r' + 254 ≤ r := by
  obtain ⟨a, a', ha, ha', hA⟩ := left_sq (u - x) 256 r (by omega) (by omega) (by omega)
  obtain ⟨b, b', hb, hb', hB⟩ := left_sq (v - y) 256 r (by omega) (by omega) (by omega)
  have e1 := sqd_cast x y u v
  have e2 := sqd_cast (x + ((u - x) * 256).tdiv r) (y + ((v - y) * 256).tdiv r) u v
  rw [show u - (x + ((u - x) * 256).tdiv r) = u - x - ((u - x) * 256).tdiv r from by omega, show v - (y + ((v - y) * 256).tdiv r) = v - y - ((v - y) * 256).tdiv r from by omega, ← ha', ← hb'] at e2
  rw [← ha, ← hb] at e1
  have e3 : sqd x y u v = a * a + b * b := by omega
  have e4 : sqd (x + ((u - x) * 256).tdiv r) (y + ((v - y) * 256).tdiv r) u v = a' * a' + b' * b' := by omega
  rw [e3] at hr
  rw [e4] at hr'
  have et : ((r : Int) - 256) = ((r - 256 : Nat) : Int) := by omega
  rw [et, ← Int.natCast_mul, ← Int.natCast_mul] at hA hB
  have hk := step_sq (a := a) (b := b) (a' := a') (b' := b') (r := r) (t := r - 256) (by omega) hr.2 (by omega) (by omega) (by omega)
  have h1 := hr'.1
  rcases Nat.lt_or_ge r' (r - 256 + 3) with h | h
  · omega
  · have := sq_le _ _ h
    omega
/-- A step stays between. -/
theorem step_in {d s r : Int} (hs : 0 ≤ s) (hsr : s ≤ r) (hr : 1 ≤ r) {x lo hi : Int} (h1 : lo ≤ x) (h2 : x ≤ hi) (h3 : lo ≤ x + d) (h4 : x + d ≤ hi) : lo ≤ x + (d * s).tdiv r ∧ x + (d * s).tdiv r ≤ hi := by
  rcases Int.le_total 0 d with h | h
  · have := part_pos h hs hsr hr; omega
  · have := part_neg h hs hsr hr; omega
theorem mono_pos {d a b n : Int} (hd : 0 ≤ d) (ha : 0 ≤ a) (hab : a ≤ b) (hbn : b ≤ n) (hn : 1 ≤ n) : 0 ≤ (d * a).tdiv n ∧ (d * a).tdiv n ≤ (d * b).tdiv n ∧ (d * b).tdiv n ≤ d := by
  obtain ⟨h1, h2, h3⟩ := part_pos hd ha (by omega) hn
  obtain ⟨k1, k2, k3⟩ := part_pos hd (show 0 ≤ b by omega) hbn hn
  refine ⟨h1, ?_, k2⟩
  rw [h3, k3]
  exact Int.ediv_le_ediv (by omega) (Int.mul_le_mul_of_nonneg_left hab hd)
/-- Parts of a way go one way. -/
def nearer (a b c d : Int) : Prop := (a ≤ b ∧ b ≤ c ∧ c ≤ d) ∨ (a ≥ b ∧ b ≥ c ∧ c ≥ d)
theorem goes {x u a b n : Int} (ha : 0 ≤ a) (hab : a ≤ b) (hbn : b ≤ n) (hn : 1 ≤ n) : nearer x (x + ((u - x) * a).tdiv n) (x + ((u - x) * b).tdiv n) u := by
  rcases Int.le_total 0 (u - x) with h | h
  · obtain ⟨h1, h2, h3⟩ := mono_pos h ha hab hbn hn
    exact .inl ⟨by omega, by omega, by omega⟩
  · obtain ⟨h1, h2, h3⟩ := mono_pos (d := -(u - x)) (by omega) ha hab hbn hn
    have e : ∀ c : Int, ((u - x) * c).tdiv n = -((-(u - x) * c).tdiv n) := fun c => by rw [Int.neg_mul, Int.neg_tdiv, Int.neg_neg]
    rw [e a, e b]
    exact .inr ⟨by omega, by omega, by omega⟩
theorem part_all (x u n : Int) (hn : 1 ≤ n) : x + ((u - x) * n).tdiv n = u := by
  rw [Int.mul_tdiv_cancel _ (by omega)]; omega
theorem part_zero (x u n : Int) : x + ((u - x) * 0).tdiv n = x := by simp
end Go.Proofs.Ytlldmpcamdginaa.Fix
