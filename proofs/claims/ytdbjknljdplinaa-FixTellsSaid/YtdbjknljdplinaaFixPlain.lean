/- Plain numbers: the root bit by bit. -/
namespace Go.Proofs.Ytdbjknljdplinaa.Fix
theorem four_le {j : Nat} : 1 ≤ 4 ^ j := Nat.pow_pos (by omega)
theorem sq (r : Nat) : (2 * r + 1) * (2 * r + 1) = 4 * (r * r) + 4 * r + 1 := by
  have h : 2 * r * (2 * r) = 4 * (r * r) := by rw [Nat.mul_mul_mul_comm]
  simp only [Nat.add_mul, Nat.mul_add]
  omega
theorem room {r j : Nat} (hj : j ≤ 31) (hr : r < 2 ^ (31 - j)) : r * 4 ^ (j + 1) + 4 ^ j + 3 ≤ 18446744073709551616 := by
  have h1 : (r + 1) * 4 ^ j ≤ 2 ^ 62 := by
    have e : (4 : Nat) ^ j = 2 ^ j * 2 ^ j := by rw [← Nat.pow_add, show (4 : Nat) = 2 ^ 2 from rfl, ← Nat.pow_mul]; congr 1; omega
    have h2 : (r + 1) * 2 ^ j ≤ 2 ^ 31 := by
      calc (r + 1) * 2 ^ j ≤ 2 ^ (31 - j) * 2 ^ j := Nat.mul_le_mul_right _ hr
        _ = 2 ^ 31 := by rw [← Nat.pow_add]; congr 1; omega
    calc (r + 1) * 4 ^ j = (r + 1) * 2 ^ j * 2 ^ j := by rw [e, Nat.mul_assoc]
      _ ≤ 2 ^ 31 * 2 ^ 31 := Nat.mul_le_mul h2 (Nat.pow_le_pow_right (by omega) hj)
      _ = 2 ^ 62 := by decide
  have h3 : r * 4 ^ (j + 1) = 4 * (r * 4 ^ j) := by rw [Nat.pow_succ]; ac_rfl
  have h4 : (r + 1) * 4 ^ j = r * 4 ^ j + 4 ^ j := by rw [Nat.add_mul, Nat.one_mul]
  have h5 := @four_le j
  rw [h3]; rw [h4] at h1
  have : (2 : Nat) ^ 62 = 4611686018427387904 := by decide
  omega
/-- What holds ahead of the round at 4^k/4. -/
def Inv (n0 k r : Nat) : Prop := k ≤ 32 ∧ r < 2 ^ (32 - k) ∧ r * r * 4 ^ k ≤ n0 ∧ n0 < (r + 1) * (r + 1) * 4 ^ k
theorem inv_start {n0 : Nat} (h : n0 < 18446744073709551616) : Inv n0 32 0 := by
  refine ⟨by omega, by decide, by simp, ?_⟩
  have : (4 : Nat) ^ 32 = 18446744073709551616 := by decide
  simp only [this]; omega
theorem bit_succ (j : Nat) : 4 ^ (j + 1) / 4 = 4 ^ j := by rw [Nat.pow_succ]; omega
theorem inv_yes {n0 j r : Nat} (h : Inv n0 (j + 1) r) (ht : r * 4 ^ (j + 1) + 4 ^ j ≤ n0 - r * r * 4 ^ (j + 1)) :
    Inv n0 j (2 * r + 1) ∧ (2 * r + 1) * 4 ^ j = r * 4 ^ (j + 1) / 2 + 4 ^ j ∧
      n0 - (2 * r + 1) * (2 * r + 1) * 4 ^ j = n0 - r * r * 4 ^ (j + 1) - (r * 4 ^ (j + 1) + 4 ^ j) := by
  obtain ⟨hk, hr, hlo, hhi⟩ := h
  have e1 : r * 4 ^ (j + 1) = 4 * (r * 4 ^ j) := by rw [Nat.pow_succ]; ac_rfl
  have e2 : r * r * 4 ^ (j + 1) = 4 * (r * r * 4 ^ j) := by rw [Nat.pow_succ]; ac_rfl
  have e3 : (2 * r + 1) * 4 ^ j = 2 * (r * 4 ^ j) + 4 ^ j := by rw [Nat.add_mul, Nat.one_mul, Nat.mul_assoc]
  have e4 : (2 * r + 1) * (2 * r + 1) * 4 ^ j = 4 * (r * r * 4 ^ j) + 4 * (r * 4 ^ j) + 4 ^ j := by
    rw [sq, Nat.add_mul, Nat.add_mul, Nat.one_mul, Nat.mul_assoc 4, Nat.mul_assoc 4]
  have e5 : (2 * r + 1 + 1) * (2 * r + 1 + 1) * 4 ^ j = (r + 1) * (r + 1) * 4 ^ (j + 1) := by
    rw [Nat.pow_succ, show 2 * r + 1 + 1 = 2 * (r + 1) from by omega, Nat.mul_mul_mul_comm, show 2 * 2 = 4 from rfl]; ac_rfl
  have e6 : 2 ^ (32 - j) = 2 * 2 ^ (32 - (j + 1)) := by rw [← Nat.pow_succ']; congr 1; omega
  rw [e1, e2] at ht
  rw [e2] at hlo
  refine ⟨⟨by omega, by rw [e6]; omega, by rw [e4]; omega, by rw [e5]; exact hhi⟩, ?_, ?_⟩
  · rw [e3, e1]; omega
  · rw [e4, e1, e2]; omega
theorem inv_no {n0 j r : Nat} (h : Inv n0 (j + 1) r) (ht : ¬ r * 4 ^ (j + 1) + 4 ^ j ≤ n0 - r * r * 4 ^ (j + 1)) :
    Inv n0 j (2 * r) ∧ (2 * r) * 4 ^ j = r * 4 ^ (j + 1) / 2 ∧ n0 - (2 * r) * (2 * r) * 4 ^ j = n0 - r * r * 4 ^ (j + 1) := by
  obtain ⟨hk, hr, hlo, hhi⟩ := h
  have e1 : r * 4 ^ (j + 1) = 4 * (r * 4 ^ j) := by rw [Nat.pow_succ]; ac_rfl
  have e2 : r * r * 4 ^ (j + 1) = 4 * (r * r * 4 ^ j) := by rw [Nat.pow_succ]; ac_rfl
  have e3 : (2 * r) * 4 ^ j = 2 * (r * 4 ^ j) := by rw [Nat.mul_assoc]
  have e4 : (2 * r) * (2 * r) * 4 ^ j = 4 * (r * r * 4 ^ j) := by rw [Nat.mul_mul_mul_comm, Nat.mul_assoc]
  have e4' : (2 * r + 1) * (2 * r + 1) * 4 ^ j = 4 * (r * r * 4 ^ j) + 4 * (r * 4 ^ j) + 4 ^ j := by
    rw [sq, Nat.add_mul, Nat.add_mul, Nat.one_mul, Nat.mul_assoc 4, Nat.mul_assoc 4]
  have e6 : 2 ^ (32 - j) = 2 * 2 ^ (32 - (j + 1)) := by rw [← Nat.pow_succ']; congr 1; omega
  rw [e1, e2] at ht
  rw [e2] at hlo
  refine ⟨⟨by omega, by rw [e6]; omega, by rw [e4]; omega, by rw [e4']; omega⟩, ?_, ?_⟩
  · rw [e3, e1]; omega
  · rw [e4, e2]
/-- The greatest number whose square is not greater. -/
def IsRoot (n r : Nat) : Prop := r * r ≤ n ∧ n < (r + 1) * (r + 1)
theorem root_end {n0 r : Nat} (h : Inv n0 0 r) : IsRoot n0 r ∧ r < 4294967296 := by
  obtain ⟨_, hr, hlo, hhi⟩ := h
  refine ⟨⟨by simpa using hlo, by simpa using hhi⟩, ?_⟩
  have : (2 : Nat) ^ (32 - 0) = 4294967296 := by decide
  omega
theorem isRoot_unique {n r s : Nat} (h : IsRoot n r) (k : IsRoot n s) : r = s := by
  rcases Nat.lt_trichotomy r s with hl | hl | hl
  · have := Nat.mul_le_mul (Nat.succ_le_of_lt hl) (Nat.succ_le_of_lt hl)
    have h2 := h.2; have h3 := k.1
    simp only [Nat.succ_eq_add_one] at this
    omega
  · exact hl
  · have := Nat.mul_le_mul (Nat.succ_le_of_lt hl) (Nat.succ_le_of_lt hl)
    have h2 := k.2; have h3 := h.1
    simp only [Nat.succ_eq_add_one] at this
    omega
theorem root_exists (n : Nat) : ∃ r, IsRoot n r := by
  induction n with
  | zero => exact ⟨0, by decide, by decide⟩
  | succ n ih =>
    obtain ⟨r, h1, h2⟩ := ih
    by_cases h : n + 1 < (r + 1) * (r + 1)
    · exact ⟨r, by omega, h⟩
    · refine ⟨r + 1, by omega, ?_⟩
      have : (r + 1) * (r + 1) < (r + 1 + 1) * (r + 1 + 1) := Nat.mul_lt_mul'' (by omega) (by omega)
      omega
/-- The square of how far two points are apart. -/
def sqd (x y u v : Int) : Nat := ((u - x) * (u - x) + (v - y) * (v - y)).toNat
theorem sq_bound {d b : Int} (h1 : -b ≤ d) (h2 : d ≤ b) : 0 ≤ d * d ∧ d * d ≤ b * b := by
  refine ⟨?_, ?_⟩
  · rcases Int.le_total 0 d with h | h
    · exact Int.mul_nonneg h h
    · exact Int.mul_nonneg_of_nonpos_of_nonpos h h
  · have : 0 ≤ (b - d) * (b + d) := Int.mul_nonneg (by omega) (by omega)
    rw [Int.sub_mul, Int.mul_add, Int.mul_add, Int.mul_comm d b] at this
    omega
theorem sqd_bound {x y u v : Int} (h : -1048576 ≤ x ∧ x ≤ 1048576 ∧ -1048576 ≤ y ∧ y ≤ 1048576) (k : -1048576 ≤ u ∧ u ≤ 1048576 ∧ -1048576 ≤ v ∧ v ≤ 1048576) :
    0 ≤ (u - x) * (u - x) ∧ (u - x) * (u - x) ≤ 4398046511104 ∧ 0 ≤ (v - y) * (v - y) ∧ (v - y) * (v - y) ≤ 4398046511104 ∧ ((sqd x y u v : Nat) : Int) = (u - x) * (u - x) + (v - y) * (v - y) ∧ sqd x y u v ≤ 8796093022208 := by
  obtain ⟨a1, a2⟩ := sq_bound (d := u - x) (b := 2097152) (by omega) (by omega)
  obtain ⟨b1, b2⟩ := sq_bound (d := v - y) (b := 2097152) (by omega) (by omega)
  unfold sqd
  refine ⟨a1, by omega, b1, by omega, by omega, by omega⟩
theorem root_small {n r : Nat} (h : IsRoot n r) (hn : n ≤ 8796093022208) : r ≤ 2965821 := by
  rcases Nat.lt_or_ge 2965821 r with hl | hl
  · have := Nat.mul_le_mul (Nat.succ_le_of_lt hl) (Nat.succ_le_of_lt hl)
    have h1 := h.1
    simp only [Nat.succ_eq_add_one] at this
    omega
  · exact hl
theorem part_pos {d a b : Int} (hd : 0 ≤ d) (ha : 0 ≤ a) (hab : a ≤ b) (hb : 1 ≤ b) : 0 ≤ (d * a).tdiv b ∧ (d * a).tdiv b ≤ d ∧ (d * a).tdiv b = d * a / b := by
  have h0 : 0 ≤ d * a := Int.mul_nonneg hd ha
  have e : (d * a).tdiv b = d * a / b := Int.tdiv_eq_ediv_of_nonneg h0
  have h1 : d * a ≤ d * b := Int.mul_le_mul_of_nonneg_left hab hd
  refine ⟨by rw [e]; exact Int.ediv_nonneg h0 (by omega), ?_, e⟩
  rw [e]
  exact Int.ediv_le_of_le_mul (by omega) h1
theorem part_neg {d a b : Int} (hd : d ≤ 0) (ha : 0 ≤ a) (hab : a ≤ b) (hb : 1 ≤ b) : d ≤ (d * a).tdiv b ∧ (d * a).tdiv b ≤ 0 ∧ (d * a).tdiv b = -(-d * a / b) := by
  obtain ⟨h1, h2, h3⟩ := part_pos (d := -d) (by omega) ha hab hb
  have e : (d * a).tdiv b = -((-d * a).tdiv b) := by
    rw [Int.neg_mul, Int.neg_tdiv, Int.neg_neg]
  rw [e]
  refine ⟨by omega, by omega, by rw [h3]⟩
theorem part_bound {d a b D : Int} (h1 : -D ≤ d) (h2 : d ≤ D) (ha : 0 ≤ a) (hab : a ≤ b) (hb : 1 ≤ b) : -D ≤ (d * a).tdiv b ∧ (d * a).tdiv b ≤ D := by
  rcases Int.le_total 0 d with h | h
  · have := part_pos h ha hab hb; omega
  · have := part_neg h ha hab hb; omega
theorem mul_bound {d a D A : Int} (h1 : -D ≤ d) (h2 : d ≤ D) (ha : 0 ≤ a) (hA : a ≤ A) : -(D * A) ≤ d * a ∧ d * a ≤ D * A := by
  have hD : 0 ≤ D := by omega
  have a1 : d * a ≤ D * a := Int.mul_le_mul_of_nonneg_right h2 ha
  have a2 : D * a ≤ D * A := Int.mul_le_mul_of_nonneg_left hA hD
  have a3 : -D * a ≤ d * a := Int.mul_le_mul_of_nonneg_right h1 ha
  rw [Int.neg_mul] at a3
  omega
end Go.Proofs.Ytdbjknljdplinaa.Fix
