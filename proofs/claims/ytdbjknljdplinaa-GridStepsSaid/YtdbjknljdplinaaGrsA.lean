/- A search in breadth, by steps of one (plain): behind it what was counted is how far each is. -/
import Derived.Test.YtdbjknljdplinaaGrdA2
namespace Go.Proofs.Ytdbjknljdplinaa.Grid
set_option linter.unusedVariables false

def vis (f : Nat) (s : List Nat) (x : Nat) : Prop := x = f ∨ s.getD x 0 ≠ 0
instance (f : Nat) (s : List Nat) (x : Nat) : Decidable (vis f s x) := inferInstanceAs (Decidable (_ ∨ _))
/-- What holds while the search goes on: Q: those whose neighbours are not all counted yet. -/
structure Bfs (D : Nat → Nat) (nb : Nat → List Nat) (P f : Nat) (s Q : List Nat) : Prop where
  len : s.length = P
  own : s.getD f 0 = 0
  right : ∀ x, vis f s x → x < P ∧ s.getD x 0 = D x
  done : ∀ x, vis f s x → x ∈ Q ∨ ∀ j ∈ nb x, vis f s j
  seen : ∀ x ∈ Q, vis f s x
  rise : Q.Pairwise fun x y => D x ≤ D y ∧ D y ≤ D x + 1
section
variable {D : Nat → Nat} {nb : Nat → List Nat} {P f : Nat} {s Q : List Nat}
theorem Bfs.start (hf : f < P) (h0 : D f = 0) : Bfs D nb P f (List.replicate P 0) [f] := by
  have hz : ∀ x, (List.replicate P 0).getD x 0 = 0 := fun x => by
    rw [List.getD_eq_getElem?_getD, List.getElem?_replicate]; split <;> rfl
  have hv : ∀ x, vis f (List.replicate P 0) x → x = f := fun x h => by
    rcases h with h | h
    · exact h
    · exact absurd (hz x) h
  refine ⟨by simp, hz f, fun x h => ?_, fun x h => .inl (by rw [hv x h]; exact List.mem_singleton.2 rfl), fun x h => .inl (by simpa using h), List.pairwise_singleton _ _⟩
  rw [hv x h]; exact ⟨hf, by rw [hz, h0]⟩
/-- Whoever is not farther than the first in the row has been counted. -/
theorem Bfs.near (h : Bfs D nb P f s Q) (hcl : ∀ j, j < P → 0 < D j → ∃ i, i < P ∧ j ∈ nb i ∧ D i + 1 = D j) (h0 : ∀ j, j < P → D j = 0 → j = f) :
    ∀ n j, j < P → D j = n → (∀ i ∈ Q, n ≤ D i) → vis f s j := by
  intro n
  induction n with
  | zero => intro j hj hd _; exact .inl (h0 j hj hd)
  | succ n ih =>
    intro j hj hd hq
    obtain ⟨i, hi, hji, hdi⟩ := hcl j hj (by omega)
    have hv := ih i hi (by omega) (fun x hx => by have := hq x hx; omega)
    rcases h.done i hv with hm | hm
    · have := hq i hm; omega
    · exact hm j hji
theorem Bfs.step {i j : Nat} (h : Bfs D nb P f s (i :: Q)) (hcl : ∀ j, j < P → 0 < D j → ∃ i, i < P ∧ j ∈ nb i ∧ D i + 1 = D j) (h0 : ∀ j, j < P → D j = 0 → j = f) (hj : j < P) (hjd : D j ≤ D i + 1) (hn : ¬ vis f s j) :
    Bfs D nb P f (s.set j (s.getD i 0 + 1)) (i :: (Q ++ [j])) := by
  have hri := (h.right i (h.seen i (List.mem_cons_self ..))).2
  have hlow : ∀ x ∈ i :: Q, D i ≤ D x ∧ D x ≤ D i + 1 := by
    intro x hx
    rcases List.mem_cons.1 hx with rfl | hx
    · exact ⟨Nat.le_refl _, by omega⟩
    · exact (List.pairwise_cons.1 h.rise).1 x hx
  have hD : D j = D i + 1 := by
    rcases Nat.lt_or_ge (D i) (D j) with hl | hl
    · omega
    · exact absurd (h.near hcl h0 (D j) j hj rfl (fun x hx => Nat.le_trans hl (hlow x hx).1)) hn
  have hjf : j ≠ f := fun e => hn (.inl e)
  have hg : ∀ x, (s.set j (s.getD i 0 + 1)).getD x 0 = if x = j then s.getD i 0 + 1 else s.getD x 0 := by
    intro x
    rw [List.getD_eq_getElem?_getD, List.getElem?_set]
    by_cases e : j = x
    · subst e; rw [if_pos rfl, if_pos (by rw [h.len]; exact hj), if_pos rfl]; rfl
    · rw [if_neg e, if_neg (fun e' => e e'.symm), List.getD_eq_getElem?_getD]
  have hv : ∀ x, vis f (s.set j (s.getD i 0 + 1)) x ↔ vis f s x ∨ x = j := by
    intro x
    unfold vis
    rw [hg]
    by_cases e : x = j
    · rw [if_pos e]; simp [e]
    · rw [if_neg e]; simp [e]
  refine ⟨by rw [List.length_set]; exact h.len, by rw [hg, if_neg (fun e => hjf e.symm)]; exact h.own, ?_, ?_, ?_, ?_⟩
  · intro x hx
    rw [hg]
    by_cases e : x = j
    · subst e; rw [if_pos rfl]; exact ⟨hj, by omega⟩
    · rw [if_neg e]
      rcases (hv x).1 hx with h1 | h1
      · exact h.right x h1
      · exact absurd h1 e
  · intro x hx
    rcases (hv x).1 hx with h1 | h1
    · rcases h.done x h1 with h2 | h2
      · left
        rcases List.mem_cons.1 h2 with rfl | h2
        · exact List.mem_cons_self ..
        · exact List.mem_cons_of_mem _ (List.mem_append_left _ h2)
      · exact .inr fun y hy => (hv y).2 (.inl (h2 y hy))
    · exact .inl (by rw [h1]; exact List.mem_cons_of_mem _ (List.mem_append_right _ (List.mem_singleton.2 rfl)))
  · intro x hx
    rcases List.mem_cons.1 hx with rfl | hx
    · exact (hv x).2 (.inl (h.seen x (List.mem_cons_self ..)))
    · rcases List.mem_append.1 hx with hx | hx
      · exact (hv x).2 (.inl (h.seen x (List.mem_cons_of_mem _ hx)))
      · exact (hv x).2 (.inr (List.mem_singleton.1 hx))
  · rw [← List.cons_append]
    refine List.pairwise_append.2 ⟨h.rise, List.pairwise_singleton _ _, fun x hx y hy => ?_⟩
    obtain rfl := List.mem_singleton.1 hy
    have := hlow x hx
    omega
theorem Bfs.next {i : Nat} (h : Bfs D nb P f s (i :: Q)) (hall : ∀ j ∈ nb i, vis f s j) : Bfs D nb P f s Q :=
  ⟨h.len, h.own, h.right, fun x hx => by
    rcases h.done x hx with h1 | h1
    · rcases List.mem_cons.1 h1 with rfl | h1
      · exact .inr hall
      · exact .inl h1
    · exact .inr h1, fun x hx => h.seen x (List.mem_cons_of_mem _ hx), (List.pairwise_cons.1 h.rise).2⟩
theorem Bfs.end_ (h : Bfs D nb P f s []) (hcl : ∀ j, j < P → 0 < D j → ∃ i, i < P ∧ j ∈ nb i ∧ D i + 1 = D j) (h0 : ∀ j, j < P → D j = 0 → j = f) : ∀ j, j < P → s.getD j 0 = D j :=
  fun j hj => (h.right j (h.near hcl h0 (D j) j hj rfl (fun _ hx => by cases hx))).2
theorem count_set {j v : Nat} (hj : j < s.length) (hz : s.getD j 0 = 0) (hv : v ≠ 0) : (s.set j v).count 0 + 1 = s.count 0 := by
  induction s generalizing j with
  | nil => cases hj
  | cons a s ih =>
    cases j with
    | zero =>
      have : a = 0 := hz
      subst this
      rw [List.set_cons_zero, List.count_cons_of_ne hv, List.count_cons_self]
    | succ j =>
      rw [List.set_cons_succ, List.count_cons, List.count_cons]
      have := ih (j := j) (by simpa using hj) (by simpa using hz)
      omega
end
theorem vis_set {f x j n : Nat} {s : List Nat} (h : vis f s x) : vis f (s.set j (n + 1)) x := by
  rcases h with h | h
  · exact .inl h
  · right
    rw [List.getD_eq_getElem?_getD, List.getElem?_set]
    by_cases e : j = x
    · subst e; rw [if_pos rfl]; split
      · simp
      · rename_i hl; rw [List.getD_eq_getElem?_getD, List.getElem?_eq_none (by omega)] at h; exact absurd rfl h
    · rw [if_neg e, ← List.getD_eq_getElem?_getD]; exact h
theorem vis_new {f j n : Nat} {s : List Nat} (h : j < s.length) : vis f (s.set j (n + 1)) j := by
  right
  rw [List.getD_eq_getElem?_getD, List.getElem?_set, if_pos rfl, if_pos h]
  simp
/-- Each tile but the first has one next to it that is nearer. -/
theorem nxt_mem {W H t : Nat} : ∀ j, j ∈ nxt W H t ↔ (0 < t / W ∧ j = t - W) ∨ (t % W + 1 < W ∧ j = t + 1) ∨ (t / W + 1 < H ∧ j = t + W) ∨ (0 < t % W ∧ j = t - 1) := by
  intro j
  unfold nxt
  simp only [List.mem_append]
  by_cases h1 : 0 < t / W <;> by_cases h2 : t % W + 1 < W <;> by_cases h3 : t / W + 1 < H <;> by_cases h4 : 0 < t % W <;> simp [h1, h2, h3, h4] <;> omega
theorem nxt_far {W H f t j : Nat} (hW : 4 ≤ W) (ht : t < W * H) (h : j ∈ nxt W H t) : j < W * H ∧ far W f j ≤ far W f t + 1 := by
  have hW0 : 0 < W := by omega
  have hrow := div_lt' hW0 ht
  rcases (nxt_mem j).1 h with ⟨h1, rfl⟩ | ⟨h1, rfl⟩ | ⟨h1, rfl⟩ | ⟨h1, rfl⟩
  · have hw := (row_pos hW0).1 h1
    refine ⟨by omega, ?_⟩
    unfold far
    rw [sub_div, sub_mod hw]
    omega
  · obtain ⟨e1, e2⟩ := right_same hW0 h1
    have hd := div_mod' W (t + 1)
    rw [e1, e2] at hd
    refine ⟨?_, ?_⟩
    · have : (t / W + 1) * W ≤ W * H := by rw [Nat.mul_comm W H]; exact Nat.mul_le_mul_right _ hrow
      rw [Nat.add_mul] at this
      omega
    · unfold far
      rw [e1, e2]
      omega
  · refine ⟨(row_more hW0).1 h1, ?_⟩
    unfold far
    rw [add_div' hW0, Nat.add_mod_right]
    omega
  · obtain ⟨e1, e2⟩ := left_same hW0 h1
    refine ⟨by omega, ?_⟩
    unfold far
    rw [e1, e2]
    omega
theorem far_zero {W f j : Nat} (h : far W f j = 0) : j = f := by
  have h1 := div_mod' W f; have h2 := div_mod' W j
  unfold far at h
  have e1 : f / W = j / W := by omega
  have e2 : f % W = j % W := by omega
  rw [e1, e2] at h1
  omega
theorem nxt_closer {W H f j : Nat} (hW : 4 ≤ W) (hf : f < W * H) (hj : j < W * H) (h : 0 < far W f j) : ∃ i, i < W * H ∧ j ∈ nxt W H i ∧ far W f i + 1 = far W f j := by
  have hW0 : 0 < W := by omega
  have hrf := div_lt' hW0 hf; have hrj := div_lt' hW0 hj
  have hcf := Nat.mod_lt f hW0; have hcj := Nat.mod_lt j hW0
  have z1 := Nat.zero_le (j / W); have z2 := Nat.zero_le (f / W)
  by_cases h1 : j / W < f / W
  · have hm : j / W + 1 < H := by omega
    refine ⟨j + W, (row_more hW0).1 hm, (nxt_mem j).2 (.inl ⟨by rw [add_div' hW0]; omega, by omega⟩), ?_⟩
    unfold far
    rw [add_div' hW0, Nat.add_mod_right]
    omega
  · by_cases h2 : f / W < j / W
    · have hw := (row_pos hW0).1 (show 0 < j / W by omega)
      refine ⟨j - W, by omega, (nxt_mem j).2 (.inr (.inr (.inl ⟨by rw [sub_div]; omega, by omega⟩))), ?_⟩
      unfold far
      rw [sub_div, sub_mod hw]
      omega
    · by_cases h3 : j % W < f % W
      · obtain ⟨e1, e2⟩ := right_same hW0 (show j % W + 1 < W by omega)
        have hd := div_mod' W (j + 1)
        rw [e1, e2] at hd
        refine ⟨j + 1, ?_, (nxt_mem j).2 (.inr (.inr (.inr ⟨by rw [e2]; omega, by omega⟩))), ?_⟩
        · have : (j / W + 1) * W ≤ W * H := by rw [Nat.mul_comm W H]; exact Nat.mul_le_mul_right _ hrj
          rw [Nat.add_mul] at this
          omega
        · unfold far
          rw [e1, e2]
          omega
      · have h4 : f % W < j % W := by unfold far at h; omega
        obtain ⟨e1, e2⟩ := left_same hW0 (show 0 < j % W by omega)
        have : j ≠ 0 := by intro e; subst e; simp at h4
        refine ⟨j - 1, by omega, (nxt_mem j).2 (.inr (.inl ⟨by rw [e2]; omega, by omega⟩)), ?_⟩
        unfold far
        rw [e1, e2]
        omega
/-- Those that are not farther, one by one. -/
theorem upto_get {W t n i : Nat} {F : Int} (hi : i < n) (h : (far W t i : Int) ≤ F) : (upto W t F n).getD (upto W t F i).length 0 = i ∧ (upto W t F i).length < (upto W t F n).length := by
  obtain ⟨m, rfl⟩ : ∃ m, n = i + 1 + m := ⟨n - (i + 1), by omega⟩
  have hp : ∀ m, ∃ R, upto W t F (i + 1 + m) = upto W t F i ++ i :: R := by
    intro m
    induction m with
    | zero => exact ⟨[], upto_yes h⟩
    | succ m ih =>
      obtain ⟨R, hR⟩ := ih
      by_cases hk : (far W t (i + 1 + m) : Int) ≤ F
      · exact ⟨R ++ [i + 1 + m], by rw [← Nat.add_assoc, upto_yes hk, hR]; simp⟩
      · exact ⟨R, by rw [← Nat.add_assoc, upto_no hk, hR]⟩
  obtain ⟨R, hR⟩ := hp m
  rw [hR]
  exact ⟨by simp [List.getD_eq_getElem?_getD], by simp⟩
end Go.Proofs.Ytdbjknljdplinaa.Grid
