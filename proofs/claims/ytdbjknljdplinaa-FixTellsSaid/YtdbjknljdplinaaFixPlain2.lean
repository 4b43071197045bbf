/- Plain numbers: a step toward a point brings nearer by nearly its length; parts of a way rise. -/
import Derived.Test.YtdbjknljdplinaaFixPlain
namespace Go.Proofs.Ytdbjknljdplinaa.Fix
theorem two_sq (a b : Nat) : (a + b) * (a + b) ≤ 2 * (a * a + b * b) := by
  rcases Nat.le_total a b with h | h
  · obtain ⟨c, rfl⟩ := Nat.le.dest h
    simp only [Nat.add_mul, Nat.mul_add]
    have := Nat.mul_comm a c
    omega
  · obtain ⟨c, rfl⟩ := Nat.le.dest h
    simp only [Nat.add_mul, Nat.mul_add]
    have := Nat.mul_comm b c
    omega
theorem sum_le {a b r : Nat} (h : a * a + b * b < (r + 1) * (r + 1)) : 2 * (a + b) ≤ 3 * (r + 1) := by
  rcases Nat.lt_or_ge (3 * (r + 1)) (2 * (a + b)) with hl | hl
  · have h1 := Nat.mul_le_mul (Nat.le_of_lt hl) (Nat.le_of_lt hl)
    have h2 := two_sq a b
    have e1 : 3 * (r + 1) * (3 * (r + 1)) = 9 * ((r + 1) * (r + 1)) := by rw [Nat.mul_mul_mul_comm]
    have e2 : 2 * (a + b) * (2 * (a + b)) = 4 * ((a + b) * (a + b)) := by rw [Nat.mul_mul_mul_comm]
    rw [e1, e2] at h1
    omega
  · exact hl
theorem sq_le (x y : Nat) (h : x ≤ y) : x * x ≤ y * y := Nat.mul_le_mul h h
/-- A step of 256 along a way of r leaves less than r - 253. -/
theorem step_sq {a b a' b' r t : Nat} (hr : 1 ≤ r) (h2 : a * a + b * b < (r + 1) * (r + 1)) (ht : t ≤ r) (ha : r * a' ≤ a * t + r) (hb : r * b' ≤ b * t + r) :
    a' * a' + b' * b' < (t + 3) * (t + 3) := by
  have hs := sum_le h2
  have A := sq_le _ _ ha
  have B := sq_le _ _ hb
  have eA : r * a' * (r * a') = r * r * (a' * a') := Nat.mul_mul_mul_comm _ _ _ _
  have eB : r * b' * (r * b') = r * r * (b' * b') := Nat.mul_mul_mul_comm _ _ _ _
  have fA : (a * t + r) * (a * t + r) = a * a * (t * t) + 2 * (t * r * a) + r * r := by
    simp only [Nat.add_mul, Nat.mul_add, Nat.mul_mul_mul_comm a t a t]
    have e1 : a * t * r = t * r * a := by ac_rfl
    have e2 : r * (a * t) = t * r * a := by ac_rfl
    rw [e1, e2]; omega
  have fB : (b * t + r) * (b * t + r) = b * b * (t * t) + 2 * (t * r * b) + r * r := by
    simp only [Nat.add_mul, Nat.mul_add, Nat.mul_mul_mul_comm b t b t]
    have e1 : b * t * r = t * r * b := by ac_rfl
    have e2 : r * (b * t) = t * r * b := by ac_rfl
    rw [e1, e2]; omega
  rw [eA, fA] at A
  rw [eB, fB] at B
  have h3 : (a * a + b * b) * (t * t) ≤ (r * r + 2 * r) * (t * t) := Nat.mul_le_mul_right _ (by
    have : (r + 1) * (r + 1) = r * r + 2 * r + 1 := by simp only [Nat.add_mul, Nat.mul_add]; omega
    omega)
  have h4 : t * r * (2 * (a + b)) ≤ t * r * (3 * (r + 1)) := Nat.mul_le_mul_left _ hs
  have e4 : t * r * (2 * (a + b)) = 2 * (t * r * a) + 2 * (t * r * b) := by
    rw [Nat.mul_left_comm, Nat.mul_add]; omega
  have e5 : t * r * (3 * (r + 1)) = 3 * (t * (r * r)) + 3 * (t * r) := by
    rw [Nat.mul_left_comm, Nat.mul_add, Nat.mul_one, Nat.mul_assoc t r r]; omega
  rw [e4, e5] at h4
  have e6 : (r * r + 2 * r) * (t * t) = t * t * (r * r) + 2 * (t * (t * r)) := by
    rw [Nat.add_mul]
    have e1 : r * r * (t * t) = t * t * (r * r) := Nat.mul_comm _ _
    have e2 : 2 * r * (t * t) = 2 * (t * (t * r)) := by ac_rfl
    rw [e1, e2]
  rw [Nat.add_mul, e6] at h3
  have h7 : t * (t * r) ≤ t * (r * r) := Nat.mul_le_mul_left _ (Nat.mul_le_mul_right _ ht)
  have h8 : t * r ≤ r * r := Nat.mul_le_mul_right _ ht
  have h9 : 1 ≤ r * r := Nat.mul_le_mul hr hr
  have key : r * r * (a' * a' + b' * b') < r * r * ((t + 3) * (t + 3)) := by
    have e8 : r * r * ((t + 3) * (t + 3)) = t * t * (r * r) + 6 * (t * (r * r)) + 9 * (r * r) := by
      have e1 : (t + 3) * (t + 3) = t * t + 6 * t + 9 := by simp only [Nat.add_mul, Nat.mul_add]; omega
      rw [e1, Nat.mul_add, Nat.mul_add]
      have e2 : r * r * (t * t) = t * t * (r * r) := Nat.mul_comm _ _
      have e3 : r * r * (6 * t) = 6 * (t * (r * r)) := by ac_rfl
      have e4 : r * r * 9 = 9 * (r * r) := Nat.mul_comm _ _
      rw [e2, e3, e4]
    rw [e8, Nat.mul_add]
    omega
  exact Nat.lt_of_mul_lt_mul_left key
/-- What is left of a number behind a part of it. -/
theorem left_pos {d s r : Int} (hd : 0 ≤ d) (hs : 0 ≤ s) (hsr : s ≤ r) (hr : 1 ≤ r) : 0 ≤ d - (d * s).tdiv r ∧ d - (d * s).tdiv r ≤ d ∧ r * (d - (d * s).tdiv r) ≤ d * (r - s) + r := by
  obtain ⟨h1, h2, h3⟩ := part_pos hd hs hsr hr
  rw [h3] at h1 h2 ⊢
  refine ⟨by omega, by omega, ?_⟩
  have h4 : d * s < r * (d * s / r) + r := by
    have := Int.emod_lt_of_pos (d * s) (show 0 < r by omega)
    have := Int.mul_ediv_add_emod (d * s) r
    omega
  rw [Int.mul_sub, Int.mul_sub, Int.mul_comm r d]
  omega
theorem left_sq (d s r : Int) (hs : 0 ≤ s) (hsr : s ≤ r) (hr : 1 ≤ r) :
    ∃ a a' : Nat, ((a * a : Nat) : Int) = d * d ∧ ((a' * a' : Nat) : Int) = (d - (d * s).tdiv r) * (d - (d * s).tdiv r) ∧ r * (a' : Int) ≤ (a : Int) * (r - s) + r := by
  rcases Int.le_total 0 d with h | h
  · obtain ⟨h1, _, h3⟩ := left_pos h hs hsr hr
    generalize (d * s).tdiv r = e at *
    obtain ⟨a, rfl⟩ := Int.eq_ofNat_of_zero_le h
    obtain ⟨a', ha'⟩ := Int.eq_ofNat_of_zero_le h1
    rw [ha'] at h3 ⊢
    exact ⟨a, a', by rw [Int.natCast_mul], by rw [Int.natCast_mul], h3⟩
  · obtain ⟨h1, _, h3⟩ := left_pos (d := -d) (by omega) hs hsr hr
    have e : (d * s).tdiv r = -((-d * s).tdiv r) := by rw [Int.neg_mul, Int.neg_tdiv, Int.neg_neg]
    rw [e]
    generalize (-d * s).tdiv r = f at *
    obtain ⟨a, ha⟩ := Int.eq_ofNat_of_zero_le (show 0 ≤ -d by omega)
    obtain ⟨a', ha'⟩ := Int.eq_ofNat_of_zero_le h1
    rw [ha'] at h3
    rw [ha] at h3
    have e1 : d = -(a : Int) := by omega
    have e2 : d - -f = -(a' : Int) := by omega
    refine ⟨a, a', ?_, ?_, h3⟩
    · rw [e1, Int.neg_mul_neg, Int.natCast_mul]
    · rw [e2, Int.neg_mul_neg, Int.natCast_mul]
theorem sqd_cast (x y u v : Int) : ((sqd x y u v : Nat) : Int) = (u - x) * (u - x) + (v - y) * (v - y) := by
  have h : ∀ d : Int, 0 ≤ d * d := fun d => by
    rcases Int.le_total 0 d with h | h
    · exact Int.mul_nonneg h h
    · exact Int.mul_nonneg_of_nonpos_of_nonpos h h
  have := h (u - x); have := h (v - y)
  unfold sqd; omega
/-- Who goes a step is nearer by 254 at least. -/
theorem step_root {x y u v : Int} {r r' : Nat} (hr : IsRoot (sqd x y u v) r) (hlt : 256 < r)
    (hr' : IsRoot (sqd (x + ((u - x) * 256).tdiv r) (y + ((v - y) * 256).tdiv r) u v) r') : r' + 254 ≤ r := by
  obtain ⟨a, a', ha, ha', hA⟩ := left_sq (u - x) 256 r (by omega) (by omega) (by omega)
  obtain ⟨b, b', hb, hb', hB⟩ := left_sq (v - y) 256 r (by omega) (by omega) (by omega)
  have e1 := sqd_cast x y u v
  have e2 := sqd_cast (x + ((u - x) * 256).tdiv r) (y + ((v - y) * 256).tdiv r) u v
  rw [show u - (x + ((u - x) * 256).tdiv r) = u - x - ((u - x) * 256).tdiv r from by omega, show v - (y + ((v - y) * 256).tdiv r) = v - y - ((v - y) * 256).tdiv r from by omega, ← ha', ← hb'] at e2
  rw [← ha, ← hb] at e1
  have e3 : sqd x y u v = a * a + b * b := by omega
  have e4 : sqd (x + ((u - x) * 256).tdiv r) (y + ((v - y) * 256).tdiv r) u v = a' * a' + b' * b' := by omega
  rw [e3] at hr
  rw [e4] at hr'
  have et : ((r : Int) - 256) = ((r - 256 : Nat) : Int) := by omega
  rw [et, ← Int.natCast_mul, ← Int.natCast_mul] at hA hB
  have hk := step_sq (a := a) (b := b) (a' := a') (b' := b') (r := r) (t := r - 256) (by omega) hr.2 (by omega) (by omega) (by omega)
  have h1 := hr'.1
  rcases Nat.lt_or_ge r' (r - 256 + 3) with h | h
  · omega
  · have := sq_le _ _ h
    omega
/-- A step stays between. -/
theorem step_in {d s r : Int} (hs : 0 ≤ s) (hsr : s ≤ r) (hr : 1 ≤ r) {x lo hi : Int} (h1 : lo ≤ x) (h2 : x ≤ hi) (h3 : lo ≤ x + d) (h4 : x + d ≤ hi) : lo ≤ x + (d * s).tdiv r ∧ x + (d * s).tdiv r ≤ hi := by
  rcases Int.le_total 0 d with h | h
  · have := part_pos h hs hsr hr; omega
  · have := part_neg h hs hsr hr; omega
theorem mono_pos {d a b n : Int} (hd : 0 ≤ d) (ha : 0 ≤ a) (hab : a ≤ b) (hbn : b ≤ n) (hn : 1 ≤ n) : 0 ≤ (d * a).tdiv n ∧ (d * a).tdiv n ≤ (d * b).tdiv n ∧ (d * b).tdiv n ≤ d := by
  obtain ⟨h1, h2, h3⟩ := part_pos hd ha (by omega) hn
  obtain ⟨k1, k2, k3⟩ := part_pos hd (show 0 ≤ b by omega) hbn hn
  refine ⟨h1, ?_, k2⟩
  rw [h3, k3]
  exact Int.ediv_le_ediv (by omega) (Int.mul_le_mul_of_nonneg_left hab hd)
/-- Parts of a way go one way. -/
def nearer (a b c d : Int) : Prop := (a ≤ b ∧ b ≤ c ∧ c ≤ d) ∨ (a ≥ b ∧ b ≥ c ∧ c ≥ d)
theorem goes {x u a b n : Int} (ha : 0 ≤ a) (hab : a ≤ b) (hbn : b ≤ n) (hn : 1 ≤ n) : nearer x (x + ((u - x) * a).tdiv n) (x + ((u - x) * b).tdiv n) u := by
  rcases Int.le_total 0 (u - x) with h | h
  · obtain ⟨h1, h2, h3⟩ := mono_pos h ha hab hbn hn
    exact .inl ⟨by omega, by omega, by omega⟩
  · obtain ⟨h1, h2, h3⟩ := mono_pos (d := -(u - x)) (by omega) ha hab hbn hn
    have e : ∀ c : Int, ((u - x) * c).tdiv n = -((-(u - x) * c).tdiv n) := fun c => by rw [Int.neg_mul, Int.neg_tdiv, Int.neg_neg]
    rw [e a, e b]
    exact .inr ⟨by omega, by omega, by omega⟩
theorem part_all (x u n : Int) (hn : 1 ≤ n) : x + ((u - x) * n).tdiv n = u := by
  rw [Int.mul_tdiv_cancel _ (by omega)]; omega
theorem part_zero (x u n : Int) : x + ((u - x) * 0).tdiv n = x := by simp
end Go.Proofs.Ytdbjknljdplinaa.Fix
