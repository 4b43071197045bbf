/- The document's answers for fix. -/
import Derived.Test.YtdbjknljdplinaaFixE
import Derived.IntWalk
namespace Go.Proofs.Ytdbjknljdplinaa.Fix
open Go.ChangeShapes Go.WideShapes Go.ChangeAt Go.RowKit
set_option linter.unusedVariables false

abbrev R (x y : Int) : Value := .agg #[.int .i64 x, .int .i64 y]
abbrev I32 (x : Int) : Prop := -2147483648 ≤ x ∧ x ≤ 2147483647
theorem back (x y : Int) (hx : I32 x) (hy : I32 y) (w : World) :
    Calls Try.prog 12 #[P x y] w fun e w' => e = .returned (R x y) ∧ Ext w w' := by
  obtain ⟨h1, h2⟩ := hx
  obtain ⟨h3, h4⟩ := hy
  go_enter Try.func12, Try.ntmps12
  go_wp2
  exact bodyPost_ret (v := R x y) (by simp [results, Try.results12, go_sem]) rfl ⟨rfl, ext_alloc (ext_alloc (Ext.rfl' _) _) _⟩
theorem may_yes (x y : Int) (h : Near x y) (w : World) :
    Calls Try.prog 17 #[R x y] w fun e w' => e = .returned (.bool true) ∧ Ext w w' := by
  obtain ⟨h1, h2, h3, h4⟩ := h
  go_enter Try.func17, Try.ntmps17
  go_wp2
  go_ret
  exact ⟨rfl, ext_alloc (Ext.rfl' _) _⟩
theorem may_no (x y : Int) (h : ¬ Near x y) (w : World) :
    Calls Try.prog 17 #[R x y] w fun e w' => e = .returned (.bool false) ∧ Ext w w' := by
  have hall : (¬ -1048576 ≤ x) ∨ (-1048576 ≤ x ∧ ¬ x ≤ 1048576) ∨ (-1048576 ≤ x ∧ x ≤ 1048576 ∧ ¬ -1048576 ≤ y) ∨ (-1048576 ≤ x ∧ x ≤ 1048576 ∧ -1048576 ≤ y ∧ ¬ y ≤ 1048576) := by unfold Near at h; omega
  clear h
  rcases hall with h1 | ⟨h1, h2⟩ | ⟨h1, h2, h3⟩ | ⟨h1, h2, h3, h4⟩
  all_goals
    go_enter Try.func17, Try.ntmps17
    go_wp2
    go_ret
    exact ⟨rfl, ext_alloc (Ext.rfl' _) _⟩
def HRel (n : Nat) (lo hi : Value) : Prop := ∃ a b : Nat, a < b ∧ b ≤ 2147483648 ∧ a * a ≤ n ∧ n < b * b ∧ lo = .int .i64 (a : Int) ∧ hi = .int .i64 (b : Int)
set_option maxHeartbeats 1000000 in
theorem rroot (n r : Nat) (hn : n ≤ 8796093022208) (hr : IsRoot n r) (w : World) :
    Calls Try.prog 62 #[.int .i64 (n : Int)] w fun e w' => e = .returned (.int .i64 (r : Int)) ∧ w = w' := by
  have HR := Lib.hid hr; clear hr
  go_enter Try.func62, Try.ntmps62
  go_wp2
  go_loop [3, 4] (fun lo hi => HRel n lo hi) (fun lo hi => (intOf hi - intOf lo).toNat)
  case atStart => exact ⟨0, 2147483648, by omega, by omega, by omega, by omega, rfl, rfl⟩
  case round =>
    obtain ⟨a, b, hab, hb, h1, h2, rfl, rfl⟩ := hrel
    have H1 := Lib.hid h1; have H2 := Lib.hid h2; clear h1 h2
    by_cases hlt : (1 : Int) < (b : Int) - (a : Int)
    · obtain ⟨m, hm⟩ : ∃ m : Nat, m = (a + b) / 2 := ⟨_, rfl⟩
      have e1 : ((a : Int) + (b : Int)) / 2 = (m : Int) := by omega
      have m1 : a < m := by omega
      have m2 : m < b := by omega
      have HM := Lib.hid hm; clear hm
      have q0 : 0 ≤ (m : Int) * (m : Int) := Int.mul_nonneg (by omega) (by omega)
      obtain ⟨M, q1, q2⟩ : ∃ M : Nat, (m : Int) * (m : Int) ≤ (M : Int) ∧ M ≤ 4611686018427387904 := by
        have : m * m ≤ 2147483648 * 2147483648 := Nat.mul_le_mul (by omega) (by omega)
        exact ⟨m * m, by rw [← Int.natCast_mul]; omega, by omega⟩
      by_cases hc : (m : Int) * (m : Int) ≤ (n : Int)
      · go_wp2
        go_round
        case rel => exact ⟨m, b, m2, hb, by rw [← Int.natCast_mul] at hc; omega, H2.out, int_eq e1, rfl⟩
        case measure => simp [intOf]; omega
      · go_wp2
        go_round
        case rel => exact ⟨a, m, m1, by omega, H1.out, by rw [← Int.natCast_mul] at hc; omega, rfl, int_eq e1⟩
        case measure => simp [intOf]; omega
    · have hb1 : b = a + 1 := by omega
      have HE := Lib.hid (isRoot_unique (n := n) (r := a) (s := r) ⟨H1.out, by rw [← hb1]; exact H2.out⟩ HR.out)
      clear hb1
      go_wp2
      go_ret
      exact ⟨by rw [HE.out]; rfl, rfl⟩
set_option maxHeartbeats 1000000 in
theorem rfar_yes (x y u v : Int) (r : Nat) (hp : Near x y) (hq : Near u v) (hr : IsRoot (sqd x y u v) r) (w : World) :
    Calls Try.prog 16 #[R x y, R u v] w fun e w' => e = .returned (.int .i64 (r : Int)) ∧ Ext w w' := by
  obtain ⟨s1, s2, s3, s4, s5, s6⟩ := sqd_bound hp hq
  have S5 := Lib.hid s5; clear s5
  have HR := Lib.hid hr; clear hr
  have S6 := Lib.hid s6; clear s6
  have Hp := Lib.hid hp; have Hq := Lib.hid hq
  obtain ⟨hp1, hp2, hp3, hp4⟩ := hp
  obtain ⟨hq1, hq2, hq3, hq4⟩ := hq
  go_enter Try.func16, Try.ntmps16
  go_wp2_with fail
  refine (may_yes _ _ Hp.out _).mono ?_
  rintro e w1 ⟨rfl, b1⟩
  obtain ⟨c1, f1⟩ := ecell b1
  go_wp2_with fail
  refine (may_yes _ _ Hq.out _).mono ?_
  rintro e w2 ⟨rfl, b2⟩
  obtain ⟨c2, f2⟩ := ecell (ext_trans b1 b2)
  have b12 := ext_trans b1 b2
  clear c1 f1 b1 b2
  go_wp2_with fail
  go_quiet (fail)
  go_wp2_with fail
  rw [← S5.out]
  refine (rroot (sqd x y u v) r S6.out HR.out _).mono ?_
  rintro e w3 ⟨rfl, rfl⟩
  go_wp2_with fail
  go_ret
  exact ⟨rfl, ext_drewN (ext_trans (ext_alloc (ext_alloc (Ext.rfl' _) _) _) b12) _⟩
theorem rfar_no (x y u v : Int) (h : ¬ (Near x y ∧ Near u v)) (w : World) :
    Calls Try.prog 16 #[R x y, R u v] w fun e w' => e = .returned (.int .i64 0) ∧ Ext w w' := by
  by_cases hp : Near x y
  · have hq : ¬ Near u v := fun hq => h ⟨hp, hq⟩
    have Hp := Lib.hid hp; have Hq := Lib.hid hq; clear hp hq h
    go_enter Try.func16, Try.ntmps16
    go_wp2_with fail
    refine (may_yes _ _ Hp.out _).mono ?_
    rintro e w1 ⟨rfl, b1⟩
    obtain ⟨c1, f1⟩ := ecell b1
    go_wp2_with fail
    refine (may_no _ _ Hq.out _).mono ?_
    rintro e w2 ⟨rfl, b2⟩
    go_wp2_with fail
    go_ret
    exact ⟨rfl, ext_trans (ext_alloc (ext_alloc (Ext.rfl' _) _) _) (ext_trans b1 b2)⟩
  · have Hp := Lib.hid hp; clear hp h
    go_enter Try.func16, Try.ntmps16
    go_wp2_with fail
    refine (may_no _ _ Hp.out _).mono ?_
    rintro e w1 ⟨rfl, b1⟩
    go_wp2_with fail
    go_ret
    exact ⟨rfl, ext_trans (ext_alloc (ext_alloc (Ext.rfl' _) _) _) b1⟩
set_option maxHeartbeats 1000000 in
theorem rpart (d a b : Int) (d1 : -2097152 ≤ d) (d2 : d ≤ 2097152) (ha : 0 ≤ a) (ha2 : a ≤ 1048576) (hab : a ≤ b) (hb0 : 1 ≤ b) (hb1 : b ≤ 4194304) (w : World) :
    Calls Try.prog 63 #[.int .i64 d, .int .i64 a, .int .i64 b] w fun e w' => e = .returned (.int .i64 (pt d a b)) ∧ w = w' := by
  have hbz : (b == 0) = false := beq_eq_false_iff_ne.2 (by omega)
  by_cases hd : d < 0
  · have hp := part_neg (d := d) (by omega) ha hab hb0
    obtain ⟨m1, m2⟩ := mul_bound (d := -d) (D := 2097152) (A := 1048576) (a := a) (by omega) (by omega) ha ha2
    have m0 : 0 ≤ -d * a := Int.mul_nonneg (by omega) ha
    have q := part_pos (d := -d) (by omega) ha hab hb0
    rw [q.2.2] at q
    obtain ⟨q1, q2, _⟩ := q
    have e : pt d a b = -(-d * a / b) := hp.2.2
    rw [e]
    clear hp e
    go_enter Try.func63, Try.ntmps63
    go_wp2
    go_ret
    exact ⟨rfl, rfl⟩
  · have hp := part_pos (d := d) (by omega) ha hab hb0
    obtain ⟨m1, m2⟩ := mul_bound (d := d) (D := 2097152) (A := 1048576) (a := a) (by omega) (by omega) ha ha2
    have m0 : 0 ≤ d * a := Int.mul_nonneg (by omega) ha
    have e : pt d a b = d * a / b := hp.2.2
    rw [e]
    clear hp e
    go_enter Try.func63, Try.ntmps63
    go_wp2
    go_ret
    exact ⟨rfl, rfl⟩
end Go.Proofs.Ytdbjknljdplinaa.Fix
