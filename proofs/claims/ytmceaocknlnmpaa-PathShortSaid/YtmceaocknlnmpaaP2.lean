
import Derived.Test.YtmceaocknlnmpaaP1
/- Path, plain: heaps; the search over open tiles; what the heap has to do with it; how tiles were come to. -/
namespace Go.Proofs.Ytmceaocknlnmpaa.Pth
set_option linter.unusedVariables false

/-- An open tile: which one, by how many steps, how much farther. -/
abbrev Nd := Nat × Nat × Nat
def Nd.t (a : Nd) : Nat := a.1
def Nd.g (a : Nd) : Nat := a.2.1
def Nd.h (a : Nd) : Nat := a.2.2
/-- a is taken ahead of b. -/
def lt (a b : Nd) : Prop := a.g + a.h < b.g + b.h ∨ a.g + a.h = b.g + b.h ∧ (a.h < b.h ∨ a.h = b.h ∧ a.t < b.t)
instance (a b : Nd) : Decidable (lt a b) := inferInstanceAs (Decidable (_ ∨ _))
theorem lt_irr (a : Nd) : ¬ lt a a := by unfold lt; omega
theorem nlt_trans {a b c : Nd} (h : ¬ lt b a) (h' : ¬ lt c b) : ¬ lt c a := by unfold lt at *; omega
theorem lt_asym {a b : Nd} (h : lt a b) : ¬ lt b a := by unfold lt at *; omega
theorem nlt_of_lt_nlt {a b c : Nd} (h : lt a b) (h' : ¬ lt c b) : ¬ lt c a := nlt_trans (lt_asym h) h'

def at' (xs : List Nd) (k : Nat) : Nd := xs.getD k (0, 0, 0)
def swap (xs : List Nd) (i j : Nat) : List Nd := (xs.set i (at' xs j)).set j (at' xs i)
theorem swap_len (xs : List Nd) (i j : Nat) : (swap xs i j).length = xs.length := by simp [swap]
theorem at_set {xs : List Nd} {i : Nat} {a : Nd} (hi : i < xs.length) (k : Nat) : at' (xs.set i a) k = if k = i then a else at' xs k := by
  unfold at'
  rw [List.getD_eq_getElem?_getD, List.getElem?_set]
  by_cases e : i = k
  · subst e; rw [if_pos rfl, if_pos hi, if_pos rfl]; rfl
  · rw [if_neg e, if_neg (fun e' => e e'.symm), List.getD_eq_getElem?_getD]
theorem swap_at {xs : List Nd} {i j : Nat} (hi : i < xs.length) (hj : j < xs.length) (k : Nat) :
    at' (swap xs i j) k = if k = j then at' xs i else if k = i then at' xs j else at' xs k := by
  unfold swap
  rw [at_set (by simpa using hj), at_set hi]
theorem at_get {xs : List Nd} {k : Nat} (h : k < xs.length) : at' xs k = xs[k] := by
  unfold at'; rw [List.getD_eq_getElem?_getD, List.getElem?_eq_getElem h]; rfl
theorem swap_perm {xs : List Nd} {i j : Nat} (hi : i < xs.length) (hj : j < xs.length) : (swap xs i j).Perm xs := by
  unfold swap; rw [at_get hi, at_get hj]; exact List.set_set_perm hi hj

/-- Whoever stands above somebody is not behind him, among the first n. -/
def Heap (xs : List Nd) (n : Nat) : Prop := ∀ k, 0 < k → k < n → ¬ lt (at' xs k) (at' xs ((k - 1) / 2))
theorem heap_min {xs : List Nd} {n : Nat} (h : Heap xs n) : ∀ k, k < n → ¬ lt (at' xs k) (at' xs 0) := by
  intro k
  induction k using Nat.strongRecOn with
  | _ k ih =>
    intro hk
    rcases Nat.eq_zero_or_pos k with e | e
    · subst e; exact lt_irr _
    · exact nlt_trans (ih ((k - 1) / 2) (by omega) (by omega)) (h k e hk)
/-- A heap but for one that may have to rise. -/
def Up (xs : List Nd) (n j : Nat) : Prop :=
  (∀ k, 0 < k → k < n → k ≠ j → ¬ lt (at' xs k) (at' xs ((k - 1) / 2))) ∧ (0 < j → ∀ k, 0 < k → k < n → (k - 1) / 2 = j → ¬ lt (at' xs k) (at' xs ((j - 1) / 2)))
theorem up_done {xs : List Nd} {n j : Nat} (h : Up xs n j) (hd : j = 0 ∨ ¬ lt (at' xs j) (at' xs ((j - 1) / 2))) : Heap xs n := by
  intro k h0 hk
  by_cases e : k = j
  · subst e; rcases hd with hd | hd
    · omega
    · exact hd
  · exact h.1 k h0 hk e
theorem up_step {xs : List Nd} {j : Nat} (h : Up xs xs.length j) (hj : j < xs.length) (h0 : 0 < j) (hl : lt (at' xs j) (at' xs ((j - 1) / 2))) :
    Up (swap xs ((j - 1) / 2) j) xs.length ((j - 1) / 2) := by
  have hp : (j - 1) / 2 < xs.length := by omega
  have hs := swap_at hp hj
  refine ⟨fun k k0 hk hne => ?_, fun i0 k k0 hk e => ?_⟩
  · rw [hs k, hs ((k - 1) / 2)]
    by_cases e1 : k = j
    · subst e1
      rw [if_pos rfl, if_neg (by omega), if_pos rfl]; exact lt_asym hl
    · rw [if_neg e1, if_neg hne]
      by_cases e2 : (k - 1) / 2 = j
      · rw [if_pos e2]; exact h.2 h0 k k0 hk e2
      · rw [if_neg e2]
        by_cases e3 : (k - 1) / 2 = (j - 1) / 2
        · rw [if_pos e3]
          have := h.1 k k0 hk e1
          rw [e3] at this; exact nlt_of_lt_nlt hl this
        · rw [if_neg e3]; exact h.1 k k0 hk e1
  · rw [hs k, hs (((j - 1) / 2 - 1) / 2)]
    have hup := h.1 ((j - 1) / 2) i0 hp (by omega)
    rw [if_neg (show ((j - 1) / 2 - 1) / 2 ≠ j by omega), if_neg (show ((j - 1) / 2 - 1) / 2 ≠ (j - 1) / 2 by omega)]
    by_cases e1 : k = j
    · rw [if_pos e1]; exact hup
    · rw [if_neg e1, if_neg (show k ≠ (j - 1) / 2 by omega)]
      have := h.1 k k0 hk e1
      rw [e] at this; exact nlt_trans hup this
theorem up_begin {xs : List Nd} (x : Nd) (h : Heap xs xs.length) : Up (xs ++ [x]) (xs ++ [x]).length xs.length := by
  have hat : ∀ k, k < xs.length → at' (xs ++ [x]) k = at' xs k := fun k hk => by
    unfold at'; rw [List.getD_eq_getElem?_getD, List.getElem?_append_left hk, List.getD_eq_getElem?_getD]
  refine ⟨fun k k0 hk hne => ?_, fun _ k k0 hk e => ?_⟩
  · rw [List.length_append, List.length_singleton] at hk
    rw [hat k (by omega), hat _ (by omega)]; exact h k k0 (by omega)
  · rw [List.length_append, List.length_singleton] at hk; omega
/-- A heap but for one that may have to sink. -/
def Dn (xs : List Nd) (n i : Nat) : Prop :=
  (∀ k, 0 < k → k < n → (k - 1) / 2 ≠ i → ¬ lt (at' xs k) (at' xs ((k - 1) / 2))) ∧ (0 < i → ∀ k, 0 < k → k < n → (k - 1) / 2 = i → ¬ lt (at' xs k) (at' xs ((i - 1) / 2)))
theorem dn_done {xs : List Nd} {n i : Nat} (h : Dn xs n i) (hd : ∀ k, 0 < k → k < n → (k - 1) / 2 = i → ¬ lt (at' xs k) (at' xs i)) : Heap xs n := by
  intro k h0 hk
  by_cases e : (k - 1) / 2 = i
  · have := hd k h0 hk e; rwa [e]
  · exact h.1 k h0 hk e
/-- The lesser of the two below. -/
def low (xs : List Nd) (n i : Nat) : Nat := if 2 * i + 2 < n ∧ lt (at' xs (2 * i + 2)) (at' xs (2 * i + 1)) then 2 * i + 2 else 2 * i + 1
theorem low_le (xs : List Nd) {n i : Nat} (h : 2 * i + 1 < n) : low xs n i < n ∧ (low xs n i - 1) / 2 = i ∧ i < low xs n i ∧ ∀ k, 0 < k → k < n → (k - 1) / 2 = i → ¬ lt (at' xs k) (at' xs (low xs n i)) := by
  unfold low
  split
  · rename_i hc
    refine ⟨hc.1, by omega, by omega, fun k k0 hk e => ?_⟩
    rcases (show k = 2 * i + 1 ∨ k = 2 * i + 2 by omega) with rfl | rfl
    · exact lt_asym hc.2
    · exact lt_irr _
  · rename_i hc
    refine ⟨h, by omega, by omega, fun k k0 hk e => ?_⟩
    rcases (show k = 2 * i + 1 ∨ k = 2 * i + 2 by omega) with rfl | rfl
    · exact lt_irr _
    · exact fun h' => hc ⟨hk, h'⟩
theorem dn_leaf {xs : List Nd} {n i : Nat} (h : Dn xs n i) (hl : n ≤ 2 * i + 1) : Heap xs n :=
  dn_done h fun k k0 hk e => by omega
theorem dn_stop {xs : List Nd} {n i : Nat} (h : Dn xs n i) (hi : 2 * i + 1 < n) (hl : ¬ lt (at' xs (low xs n i)) (at' xs i)) : Heap xs n :=
  dn_done h fun k k0 hk e => nlt_trans hl ((low_le xs hi).2.2.2 k k0 hk e)
theorem dn_step {xs : List Nd} {n i : Nat} (h : Dn xs n i) (hn : n ≤ xs.length) (hi : 2 * i + 1 < n) (hl : lt (at' xs (low xs n i)) (at' xs i)) :
    Dn (swap xs i (low xs n i)) n (low xs n i) := by
  obtain ⟨h1, h2, h3, h4⟩ := low_le xs hi
  generalize low xs n i = j at *
  have hs := swap_at (xs := xs) (i := i) (j := j) (by omega) (by omega)
  refine ⟨fun k k0 hk hne => ?_, fun _ k k0 hk e => ?_⟩
  · rw [hs k, hs ((k - 1) / 2), if_neg hne]
    by_cases e1 : k = j
    · subst e1; rw [if_pos rfl, if_pos h2]; exact lt_asym hl
    · rw [if_neg e1]
      by_cases e2 : (k - 1) / 2 = i
      · rw [if_pos e2, if_neg (by omega)]; exact h4 k k0 hk e2
      · rw [if_neg e2]
        by_cases e3 : k = i
        · rw [if_pos e3]
          have := h.2 (by omega) j (by omega) h1 h2
          rw [e3]; exact this
        · rw [if_neg e3]; exact h.1 k k0 hk e2
  · rw [h2, hs k, hs i, if_neg (by omega), if_neg (by omega), if_neg (show i ≠ j by omega), if_pos rfl]
    have := h.1 k k0 hk (by omega)
    rw [e] at this; exact this
/-- The last one stands at the top, the top one behind the others. -/
theorem dn_begin {xs : List Nd} (h : Heap xs xs.length) (h0 : 0 < xs.length) : Dn (swap xs 0 (xs.length - 1)) (xs.length - 1) 0 := by
  have hs := swap_at (xs := xs) (i := 0) (j := xs.length - 1) (by omega) (by omega)
  refine ⟨fun k k0 hk hne => ?_, fun h => absurd h (by omega)⟩
  rw [hs k, hs ((k - 1) / 2), if_neg (by omega), if_neg (by omega), if_neg (by omega), if_neg hne]
  exact h k k0 (by omega)
theorem heap_take {xs : List Nd} {n : Nat} (h : Heap xs n) (hn : n ≤ xs.length) : Heap (xs.take n) (xs.take n).length := by
  have hat : ∀ k, k < n → at' (xs.take n) k = at' xs k := fun k hk => by
    unfold at'; rw [List.getD_eq_getElem?_getD, List.getElem?_take, if_pos hk, List.getD_eq_getElem?_getD]
  intro k k0 hk
  rw [List.length_take] at hk
  rw [hat k (by omega), hat _ (by omega)]; exact h k k0 (by omega)
/-- What sinks stays among the first n: the others stand as they stood. -/
theorem swap_far {xs : List Nd} {i j n : Nat} (hi : i < n) (hj : j < n) (hn : n ≤ xs.length) : ∀ k, n ≤ k → at' (swap xs i j) k = at' xs k := by
  intro k hk; rw [swap_at (by omega) (by omega), if_neg (by omega), if_neg (by omega)]
theorem heap_nil : Heap [] 0 := fun k _ h => absurd h (by omega)
/-- A tile as the search knows it: seen, open, by how many steps, from where. -/
abbrev Ti := Bool × Bool × Nat × Nat
def ti (all : List Ti) (t : Nat) : Ti := all.getD t (false, false, 0, 0)
def Ti.seen (x : Ti) : Bool := x.1
def Ti.opn (x : Ti) : Bool := x.2.1
def Ti.g (x : Ti) : Nat := x.2.2.1
def Ti.by' (x : Ti) : Nat := x.2.2.2
theorem ti_set {all : List Ti} {i : Nat} {a : Ti} (hi : i < all.length) (k : Nat) : ti (all.set i a) k = if k = i then a else ti all k := by
  unfold ti
  rw [List.getD_eq_getElem?_getD, List.getElem?_set]
  by_cases e : i = k
  · subst e; rw [if_pos rfl, if_pos hi, if_pos rfl]; rfl
  · rw [if_neg e, if_neg (fun e' => e e'.symm), List.getD_eq_getElem?_getD]
/-- The open one among the first k that is taken. -/
def best (h : Nat → Nat) (all : List Ti) : Nat → Option Nat
  | 0 => none
  | k + 1 => if (ti all k).opn = false then best h all k else
    match best h all k with
    | none => some k
    | some o => if (ti all k).g + h k < (ti all o).g + h o ∨ (ti all k).g + h k = (ti all o).g + h o ∧ h k < h o then some k else some o
def relax (free : Nat → Bool) (t : Nat) (all : List Ti) (x : Nat) : List Ti :=
  if free x = false ∨ (ti all x).seen = true ∧ (ti all x).g ≤ (ti all t).g + 1 then all else all.set x (true, true, (ti all t).g + 1, t)
def shut (all : List Ti) (t : Nat) : List Ti := all.set t ((ti all t).seen, false, (ti all t).g, (ti all t).by')
def back (all : List Ti) (f : Nat) : Nat → Nat → List Nat → List Nat
  | 0, _, out => out
  | n + 1, t, out => if t = f then out else back all f n ((ti all t).by') (t :: out)
def afind (h : Nat → Nat) (nb : Nat → List Nat) (free : Nat → Bool) (f : Nat) : Nat → List Ti → Option (List Nat)
  | 0, _ => none
  | n + 1, all => match best h all all.length with
    | none => none
    | some t => if h t = 0 then some (back (shut all t) f ((ti all t).g + 1) t []) else
      afind h nb free f n ((nb t).foldl (relax free t) (shut all t))
def first (P f : Nat) : List Ti := (List.replicate P (false, false, 0, 0)).set f (true, true, 0, 0)

def nd (h : Nat → Nat) (all : List Ti) (t : Nat) : Nd := (t, (ti all t).g, h t)
theorem best_none {h : Nat → Nat} {all : List Ti} : ∀ k, best h all k = none → ∀ t, t < k → (ti all t).opn = false := by
  intro k
  induction k with
  | zero => intro _ t ht; omega
  | succ k ih =>
    intro e t ht
    unfold best at e
    by_cases hk : (ti all k).opn = false
    · rw [if_pos hk] at e
      rcases Nat.lt_or_eq_of_le (Nat.le_of_lt_succ ht) with h' | h'
      · exact ih e t h'
      · subst h'; exact hk
    · rw [if_neg hk] at e
      split at e
      · cases e
      · split at e <;> cases e
theorem best_none_of {h : Nat → Nat} {all : List Ti} : ∀ k, (∀ t, t < k → (ti all t).opn = false) → best h all k = none := by
  intro k
  induction k with
  | zero => intro _; rfl
  | succ k ih => intro hk; unfold best; rw [if_pos (hk k (by omega))]; exact ih fun t ht => hk t (by omega)
theorem best_some {h : Nat → Nat} {all : List Ti} : ∀ k o, best h all k = some o →
    o < k ∧ (ti all o).opn = true ∧ ∀ t, t < k → (ti all t).opn = true → ¬ lt (nd h all t) (nd h all o) := by
  intro k
  induction k with
  | zero => intro o e; cases e
  | succ k ih =>
    intro o e
    unfold best at e
    by_cases hk : (ti all k).opn = false
    · rw [if_pos hk] at e
      obtain ⟨a, b, c⟩ := ih o e
      refine ⟨by omega, b, fun t ht ho => ?_⟩
      rcases Nat.lt_or_eq_of_le (Nat.le_of_lt_succ ht) with h' | h'
      · exact c t h' ho
      · subst h'; rw [hk] at ho; cases ho
    · rw [if_neg hk] at e
      have hk' : (ti all k).opn = true := by simpa using hk
      split at e
      · rename_i hn
        cases e
        refine ⟨by omega, hk', fun t ht ho => ?_⟩
        rcases Nat.lt_or_eq_of_le (Nat.le_of_lt_succ ht) with h' | h'
        · rw [best_none k hn t h'] at ho; cases ho
        · subst h'; exact lt_irr _
      · rename_i o' hn
        obtain ⟨a, b, c⟩ := ih o' hn
        split at e
        · rename_i hc
          cases e
          refine ⟨by omega, hk', fun t ht ho => ?_⟩
          rcases Nat.lt_or_eq_of_le (Nat.le_of_lt_succ ht) with h' | h'
          · refine nlt_trans (a := nd h all k) (b := nd h all o') ?_ (c t h' ho)
            unfold lt nd Nd.g Nd.h Nd.t; dsimp only; omega
          · subst h'; exact lt_irr _
        · rename_i hc
          cases e
          refine ⟨by omega, b, fun t ht ho => ?_⟩
          rcases Nat.lt_or_eq_of_le (Nat.le_of_lt_succ ht) with h' | h'
          · exact c t h' ho
          · subst h'; unfold lt nd Nd.g Nd.h Nd.t; dsimp only; omega
theorem best_is {h : Nat → Nat} {all : List Ti} {k t : Nat} (ht : t < k) (ho : (ti all t).opn = true) (hm : ∀ u, u < k → (ti all u).opn = true → ¬ lt (nd h all u) (nd h all t)) :
    best h all k = some t := by
  cases e : best h all k with
  | none => rw [best_none k e t ht] at ho; cases ho
  | some o =>
    obtain ⟨a, b, c⟩ := best_some k o e
    have h1 := c t ht ho
    have h2 := hm o a b
    have : o = t := by unfold lt nd Nd.g Nd.h Nd.t at h1 h2; dsimp only at h1 h2; omega
    rw [this]

/-- What the heap of open tiles has to do with the tiles. -/
structure Hp (h : Nat → Nat) (all : List Ti) (q : List Nd) : Prop where
  once : q.Nodup
  known : ∀ n ∈ q, n.t < all.length ∧ (ti all n.t).seen = true ∧ (ti all n.t).g ≤ n.g ∧ n.h = h n.t ∧ (n.g = (ti all n.t).g → (ti all n.t).opn = true)
  has : ∀ t, (ti all t).opn = true → nd h all t ∈ q
theorem Hp.perm {h : Nat → Nat} {all : List Ti} {q q' : List Nd} (H : Hp h all q) (p : q'.Perm q) : Hp h all q' :=
  ⟨p.nodup_iff.2 H.once, fun n hn => H.known n (p.mem_iff.1 hn), fun t ht => p.mem_iff.2 (H.has t ht)⟩
theorem Hp.empty {h : Nat → Nat} {all : List Ti} (H : Hp h all []) (k : Nat) : best h all k = none :=
  best_none_of k fun t _ => by
    cases e : (ti all t).opn with
    | false => rfl
    | true => exact absurd (H.has t e) (by simp)
/-- One that was come to by fewer steps since: it is passed over. -/
theorem Hp.stale {h : Nat → Nat} {all : List Ti} {x : Nd} {q : List Nd} (H : Hp h all (x :: q)) (hx : x.g ≠ (ti all x.t).g) : Hp h all q := by
  refine ⟨(List.nodup_cons.1 H.once).2, fun n hn => H.known n (List.mem_cons_of_mem _ hn), fun t ht => ?_⟩
  rcases List.mem_cons.1 (H.has t ht) with e | e
  · exact absurd (by rw [← e]; rfl) hx
  · exact e
theorem Hp.best {h : Nat → Nat} {all : List Ti} {x : Nd} {q : List Nd} (H : Hp h all (x :: q)) (hm : ∀ n ∈ q, ¬ lt n x) (hx : x.g = (ti all x.t).g) : best h all all.length = some x.t := by
  obtain ⟨a, b, c, d, e⟩ := H.known x (List.mem_cons_self ..)
  have hnd : nd h all x.t = x := by
    unfold nd; rw [← d, ← hx]; rfl
  refine best_is a (e hx) fun u hu ho => ?_
  rw [hnd]
  rcases List.mem_cons.1 (H.has u ho) with e' | e'
  · rw [e']; exact lt_irr _
  · exact hm _ e'
theorem Hp.taken {h : Nat → Nat} {all : List Ti} {x : Nd} {q : List Nd} (H : Hp h all (x :: q)) (hx : x.g = (ti all x.t).g) : Hp h (shut all x.t) q := by
  obtain ⟨a, b, c, d, e⟩ := H.known x (List.mem_cons_self ..)
  have hs := ti_set (all := all) (i := x.t) (a := ((ti all x.t).seen, false, (ti all x.t).g, (ti all x.t).by')) a
  have hnx : ∀ n ∈ q, n ≠ x := fun n hn e => (List.nodup_cons.1 H.once).1 (e ▸ hn)
  refine ⟨(List.nodup_cons.1 H.once).2, fun n hn => ?_, fun t ht => ?_⟩
  · obtain ⟨a', b', c', d', e'⟩ := H.known n (List.mem_cons_of_mem _ hn)
    refine ⟨by unfold shut; rw [List.length_set]; exact a', ?_⟩
    unfold shut; rw [hs n.t]
    by_cases ex : n.t = x.t
    · rw [if_pos ex, ← ex]
      refine ⟨b', c', d', fun eg => ?_⟩
      exfalso
      refine hnx n hn ?_
      have e1 : n.g = x.g := by rw [hx, ← ex]; exact eg
      have e2 : n.h = x.h := by rw [d, d', ex]
      exact Prod.ext ex (Prod.ext e1 e2)
    · rw [if_neg ex]; exact ⟨b', c', d', e'⟩
  · unfold shut at ht; rw [hs t] at ht
    by_cases ex : t = x.t
    · rw [if_pos ex] at ht; cases ht
    · rw [if_neg ex] at ht
      have hn : nd h (shut all x.t) t = nd h all t := by unfold nd shut; rw [hs t, if_neg ex]
      rw [hn]
      rcases List.mem_cons.1 (H.has t ht) with e' | e'
      · exact absurd (by rw [← e']; rfl) ex
      · exact e'
/-- A tile is come to by fewer steps. -/
theorem Hp.reach {h : Nat → Nat} {all : List Ti} {q : List Nd} {x g b : Nat} (H : Hp h all q) (hx : x < all.length) (hg : (ti all x).seen = true → g < (ti all x).g) :
    Hp h (all.set x (true, true, g, b)) ((x, g, h x) :: q) := by
  have hs := ti_set (all := all) (i := x) (a := (true, true, g, b)) hx
  refine ⟨List.nodup_cons.2 ⟨fun hm => ?_, H.once⟩, fun n hn => ?_, fun t ht => ?_⟩
  · obtain ⟨a', b', c', d', e'⟩ := H.known _ hm
    have := hg b'
    exact absurd c' (by show ¬ _ ≤ g; exact Nat.not_le.2 this)
  · refine ⟨?_, ?_⟩
    · rw [List.length_set]
      rcases List.mem_cons.1 hn with e | e
      · rw [e]; exact hx
      · exact (H.known n e).1
    · rw [hs n.t]
      rcases List.mem_cons.1 hn with e | e
      · rw [e, if_pos (show Nd.t (x, g, h x) = x from rfl)]; exact ⟨rfl, Nat.le_refl _, rfl, fun _ => rfl⟩
      · obtain ⟨a', b', c', d', e'⟩ := H.known n e
        by_cases ex : n.t = x
        · rw [if_pos ex]
          rw [ex] at b' c'
          exact ⟨rfl, Nat.le_trans (Nat.le_of_lt (hg b')) c', d', fun _ => rfl⟩
        · rw [if_neg ex]; exact ⟨b', c', d', e'⟩
  · by_cases ex : t = x
    · subst ex
      have : nd h (all.set t (true, true, g, b)) t = (t, g, h t) := by unfold nd; rw [hs t, if_pos rfl]; rfl
      rw [this]; exact List.mem_cons_self ..
    · rw [hs t, if_neg ex] at ht
      have : nd h (all.set x (true, true, g, b)) t = nd h all t := by unfold nd; rw [hs t, if_neg ex]
      rw [this]; exact List.mem_cons_of_mem _ (H.has t ht)
theorem Hp.start {h : Nat → Nat} {P f : Nat} (hf : f < P) : Hp h (first P f) [(f, 0, h f)] := by
  have H : Hp h (List.replicate P (false, false, 0, 0)) [] := by
    have hz : ∀ t, ti (List.replicate P ((false, false, 0, 0) : Ti)) t = (false, false, 0, 0) := fun t => by
      unfold ti; rw [List.getD_eq_getElem?_getD, List.getElem?_replicate]; split <;> rfl
    exact ⟨List.nodup_nil, fun n hn => absurd hn (by simp), fun t ht => by rw [hz t] at ht; cases ht⟩
  exact H.reach (by simpa using hf) fun hs => by
    have hz : ti (List.replicate P ((false, false, 0, 0) : Ti)) f = (false, false, 0, 0) := by
      unfold ti; rw [List.getD_eq_getElem?_getD, List.getElem?_replicate]; split <;> rfl
    rw [hz] at hs; cases hs

/-- How tiles were come to: each from one that was come to by fewer steps. -/
structure Ch (f : Nat) (all : List Ti) : Prop where
  lt : f < all.length
  own : (ti all f).seen = true ∧ (ti all f).g = 0
  low : ∀ t, (ti all t).seen = true → t < all.length
  step : ∀ t, (ti all t).seen = true → t ≠ f → (ti all ((ti all t).by')).seen = true ∧ (ti all ((ti all t).by')).g < (ti all t).g
theorem shut_ti {all : List Ti} {t : Nat} (ht : t < all.length) (k : Nat) : ti (shut all t) k = if k = t then ((ti all t).seen, false, (ti all t).g, (ti all t).by') else ti all k := ti_set ht k
theorem shut_seen {all : List Ti} {t : Nat} (ht : t < all.length) (k : Nat) : (ti (shut all t) k).seen = (ti all k).seen ∧ (ti (shut all t) k).g = (ti all k).g ∧ (ti (shut all t) k).by' = (ti all k).by' := by
  rw [shut_ti ht k]; split
  · rename_i e; rw [e]; exact ⟨rfl, rfl, rfl⟩
  · exact ⟨rfl, rfl, rfl⟩
theorem shut_len (all : List Ti) (t : Nat) : (shut all t).length = all.length := by unfold shut; rw [List.length_set]
theorem Ch.shut {f : Nat} {all : List Ti} (C : Ch f all) {t : Nat} (ht : t < all.length) : Ch f (shut all t) := by
  have hs := shut_seen ht
  refine ⟨by rw [shut_len]; exact C.lt, by rw [(hs f).1, (hs f).2.1]; exact C.own, fun u hu => ?_, fun u hu hne => ?_⟩
  · rw [(hs u).1] at hu; rw [shut_len]; exact C.low u hu
  · rw [(hs u).1] at hu
    rw [(hs u).2.2, (hs _).1, (hs _).2.1, (hs u).2.1]; exact C.step u hu hne
theorem Ch.set {f : Nat} {all : List Ti} (C : Ch f all) {t x : Nat} (ht : (ti all t).seen = true) (hx : x < all.length) (hg : (ti all x).seen = true → (ti all t).g + 1 < (ti all x).g) :
    Ch f (all.set x (true, true, (ti all t).g + 1, t)) := by
  have hs := ti_set (all := all) (i := x) (a := (true, true, (ti all t).g + 1, t)) hx
  have hxf : x ≠ f := fun e => by have := hg (by rw [e]; exact C.own.1); rw [e, C.own.2] at this; omega
  have htx : t ≠ x := fun e => by have := hg (e ▸ ht); rw [e] at this; omega
  refine ⟨by rw [List.length_set]; exact C.lt, by rw [hs f, if_neg (fun e => hxf e.symm)]; exact C.own, fun u hu => ?_, fun u hu hne => ?_⟩
  · rw [List.length_set]; rw [hs u] at hu
    by_cases e : u = x
    · rw [e]; exact hx
    · rw [if_neg e] at hu; exact C.low u hu
  · rw [hs u] at hu ⊢
    by_cases e : u = x
    · rw [if_pos e]
      show (ti _ t).seen = true ∧ (ti _ t).g < (ti all t).g + 1
      rw [hs t, if_neg htx]; exact ⟨ht, by omega⟩
    · rw [if_neg e] at hu ⊢
      obtain ⟨a, b⟩ := C.step u hu hne
      rw [hs ((ti all u).by')]
      by_cases e' : (ti all u).by' = x
      · rw [if_pos e']
        rw [e'] at a b
        exact ⟨rfl, Nat.lt_of_lt_of_le (hg a) (Nat.le_of_lt b)⟩
      · rw [if_neg e']; exact ⟨a, b⟩
theorem relax_no {free : Nat → Bool} {t x : Nat} {all : List Ti} (h : free x = false ∨ (ti all x).seen = true ∧ (ti all x).g ≤ (ti all t).g + 1) : relax free t all x = all := if_pos h
theorem relax_yes {free : Nat → Bool} {t x : Nat} {all : List Ti} (h : free x = true) (h' : (ti all x).seen = true → (ti all t).g + 1 < (ti all x).g) :
    relax free t all x = all.set x (true, true, (ti all t).g + 1, t) := by
  refine if_neg fun hc => ?_
  rcases hc with hc | ⟨a, b⟩
  · rw [h] at hc; cases hc
  · have := h' a; omega
theorem relax_len (free : Nat → Bool) (t x : Nat) (all : List Ti) : (relax free t all x).length = all.length := by
  unfold relax; split
  · rfl
  · rw [List.length_set]
theorem relax_cases (free : Nat → Bool) (t x : Nat) (all : List Ti) : relax free t all x = all ∨ free x = true ∧ ((ti all x).seen = true → (ti all t).g + 1 < (ti all x).g) ∧ relax free t all x = all.set x (true, true, (ti all t).g + 1, t) := by
  by_cases h : free x = false ∨ (ti all x).seen = true ∧ (ti all x).g ≤ (ti all t).g + 1
  · exact .inl (relax_no h)
  · have h1 : free x = true := by
      cases e : free x with
      | true => rfl
      | false => exact absurd (.inl e) h
    have h2 : (ti all x).seen = true → (ti all t).g + 1 < (ti all x).g := fun hs => Nat.lt_of_not_le fun hl => h (.inr ⟨hs, hl⟩)
    exact .inr ⟨h1, h2, relax_yes h1 h2⟩
/-- The one that is left is not come to by what is opened from it. -/
theorem relax_own {free : Nat → Bool} {t x : Nat} {all : List Ti} (ht : (ti all t).seen = true) (hx : x < all.length) : ti (relax free t all x) t = ti all t := by
  rcases relax_cases free t x all with e | ⟨_, h, e⟩
  · rw [e]
  · rw [e, ti_set hx, if_neg]
    intro e'; subst e'; have := h ht; omega
theorem Ch.relax {f : Nat} {free : Nat → Bool} {t x : Nat} {all : List Ti} (C : Ch f all) (ht : (ti all t).seen = true) (hx : x < all.length) : Ch f (relax free t all x) := by
  rcases relax_cases free t x all with e | ⟨_, h, e⟩
  · rw [e]; exact C
  · rw [e]; exact C.set ht hx h
theorem first_ti {P f : Nat} (hf : f < P) (t : Nat) : ti (first P f) t = if t = f then (true, true, 0, 0) else (false, false, 0, 0) := by
  have hz : ti (List.replicate P ((false, false, 0, 0) : Ti)) t = (false, false, 0, 0) := by
    unfold ti; rw [List.getD_eq_getElem?_getD, List.getElem?_replicate]; split <;> rfl
  unfold first; rw [ti_set (by simpa using hf), hz]
theorem first_len (P f : Nat) : (first P f).length = P := by simp [first]
theorem Ch.start {P f : Nat} (hf : f < P) : Ch f (first P f) := by
  refine ⟨by rw [first_len]; exact hf, by rw [first_ti hf, if_pos rfl]; exact ⟨rfl, rfl⟩, fun t h => ?_, fun t h hne => ?_⟩
  · rw [first_len]
    rw [first_ti hf] at h; by_cases e : t = f
    · rw [e]; exact hf
    · rw [if_neg e] at h; cases h
  · rw [first_ti hf, if_neg hne] at h; cases h
theorem back_own (all : List Ti) (f n : Nat) (out : List Nat) : back all f (n + 1) f out = out := if_pos rfl
theorem back_succ {all : List Ti} {f n t : Nat} (out : List Nat) (h : t ≠ f) : back all f (n + 1) t out = back all f n ((ti all t).by') (t :: out) := if_neg h
theorem Ch.more {f : Nat} {all : List Ti} (C : Ch f all) : ∀ n m t out, (ti all t).seen = true → (ti all t).g < n → (ti all t).g < m → back all f n t out = back all f m t out := by
  intro n
  induction n with
  | zero => intro m t out _ h; omega
  | succ n ih =>
    intro m t out hs h h'
    match m, h' with
    | m + 1, h' =>
      by_cases e : t = f
      · rw [e, back_own, back_own]
      · rw [back_succ _ e, back_succ _ e]
        obtain ⟨a, b⟩ := C.step t hs e
        exact ih m _ _ a (by omega) (by omega)
theorem Ch.back {f : Nat} {all : List Ti} (C : Ch f all) {t : Nat} (hs : (ti all t).seen = true) (hne : t ≠ f) (out : List Nat) :
    back all f ((ti all t).g + 1) t out = back all f ((ti all ((ti all t).by')).g + 1) ((ti all t).by') (t :: out) := by
  obtain ⟨a, b⟩ := C.step t hs hne
  rw [back_succ _ hne]
  exact C.more _ _ _ _ a (by omega) (by omega)
theorem back_len {f : Nat} {all : List Ti} : ∀ n t out, (back all f n t out).length ≤ n + out.length := by
  intro n
  induction n with
  | zero => intro t out; exact Nat.le_of_eq (by simp [Pth.back])
  | succ n ih =>
    intro t out
    by_cases e : t = f
    · rw [e, back_own]; omega
    · rw [back_succ _ e]; have := ih ((ti all t).by') (t :: out); simp only [List.length_cons] at this; omega

/-- What was come to by so many steps at most. -/
def Gle (N : Nat) (all : List Ti) : Prop := ∀ t, (ti all t).seen = true → (ti all t).g ≤ N
theorem Gle.shut {N : Nat} {all : List Ti} (h : Gle N all) {t : Nat} (ht : t < all.length) : Gle N (shut all t) := fun u hu => by
  rw [(shut_seen ht u).2.1]; exact h u (by rw [← (shut_seen ht u).1]; exact hu)
theorem Gle.relax {N : Nat} {free : Nat → Bool} {t x : Nat} {all : List Ti} (h : Gle (N + 1) all) (ht : (ti all t).g ≤ N) (hx : x < all.length) : Gle (N + 1) (relax free t all x) := fun u hu => by
  rcases relax_cases free t x all with e | ⟨_, _, e⟩
  · rw [e] at hu ⊢; exact h u hu
  · rw [e, ti_set hx] at hu ⊢
    by_cases e' : u = x
    · rw [if_pos e']; exact Nat.succ_le_succ ht
    · rw [if_neg e'] at hu ⊢; exact h u hu
theorem Gle.more {N M : Nat} {all : List Ti} (h : Gle N all) (hm : N ≤ M) : Gle M all := fun t ht => Nat.le_trans (h t ht) hm
/-- All the tiles next to one are opened: what the heap has to do with them stays. -/
theorem fold_len (free : Nat → Bool) (t : Nat) : ∀ (l : List Nat) (all : List Ti), (l.foldl (relax free t) all).length = all.length := by
  intro l
  induction l with
  | nil => intro all; rfl
  | cons x l ih => intro all; rw [List.foldl_cons, ih, relax_len]
end Go.Proofs.Ytmceaocknlnmpaa.Pth
namespace Go.Proofs.Ytmceaocknlnmpaa.Pth
set_option linter.unusedVariables false

/-- There is a way of k steps. -/
inductive Way (nb : Nat → List Nat) (free : Nat → Bool) (f : Nat) : Nat → Nat → Prop
  | zero : Way nb free f 0 f
  | succ {k u x : Nat} : Way nb free f k u → x ∈ nb u → free x = true → Way nb free f (k + 1) x
/-- The tiles of a way, one after another. -/
def Steps (nb : Nat → List Nat) (free : Nat → Bool) : Nat → List Nat → Nat → Prop
  | a, [], e => a = e
  | a, x :: l, e => x ∈ nb a ∧ free x = true ∧ Steps nb free x l e
/-- What is known while the search goes on; of what is next to t those in l have not been looked at yet. -/
structure Op (h : Nat → Nat) (nb : Nat → List Nat) (free : Nat → Bool) (f t : Nat) (l : List Nat) (all : List Ti) : Prop where
  ch : Ch f all
  way : ∀ u, (ti all u).seen = true → Way nb free f (ti all u).g u
  least : ∀ u, (ti all u).seen = true → (ti all u).opn = false → ∀ k, Way nb free f k u → (ti all u).g ≤ k
  round : ∀ u, (ti all u).seen = true → (ti all u).opn = false → ∀ x ∈ nb u, free x = true → (u = t ∧ x ∈ l) ∨ (ti all x).seen = true ∧ (ti all x).g ≤ (ti all u).g + 1
  far : ∀ u, (ti all u).seen = true → (ti all u).opn = false → h u ≠ 0
  by' : ∀ u, (ti all u).seen = true → u ≠ f → (ti all ((ti all u).by')).opn = false ∧ u ∈ nb ((ti all u).by') ∧ free u = true ∧ (ti all u).g = (ti all ((ti all u).by')).g + 1
  opn : ∀ u, (ti all u).opn = true → (ti all u).seen = true
section
variable {h : Nat → Nat} {nb : Nat → List Nat} {free : Nat → Bool} {f t : Nat} {all : List Ti}
theorem Op.any {s : Nat} (O : Op h nb free f t [] all) : Op h nb free f s [] all :=
  ⟨O.ch, O.way, O.least, fun u hs ho x hx hf => by
    rcases O.round u hs ho x hx hf with ⟨_, e⟩ | e
    · cases e
    · exact .inr e, O.far, O.by', O.opn⟩
theorem Op.ahead (O : Op h nb free f t [] all) (hc : ∀ u x, x ∈ nb u → free x = true → h u ≤ h x + 1) {k u : Nat} (w : Way nb free f k u) :
    (ti all u).seen = true ∧ (ti all u).opn = false ∧ (ti all u).g ≤ k ∨ ∃ p, (ti all p).opn = true ∧ (ti all p).g + h p ≤ k + h u := by
  induction w with
  | zero =>
    cases e : (ti all f).opn with
    | false => exact .inl ⟨O.ch.own.1, rfl, Nat.le_of_eq O.ch.own.2⟩
    | true => exact .inr ⟨f, e, by rw [O.ch.own.2]; omega⟩
  | @succ k u x w hx hf ih =>
    rcases ih with ⟨a, b, c⟩ | ⟨p, hp, hl⟩
    · rcases O.round u a b x hx hf with ⟨_, e⟩ | ⟨a', b'⟩
      · cases e
      · cases e : (ti all x).opn with
        | false => exact .inl ⟨a', rfl, by omega⟩
        | true => exact .inr ⟨x, e, by omega⟩
    · have := hc u x hx hf
      exact .inr ⟨p, hp, by omega⟩
theorem Op.no_way (O : Op h nb free f t [] all) (hc : ∀ u x, x ∈ nb u → free x = true → h u ≤ h x + 1) (hb : best h all all.length = none) {k u : Nat} (w : Way nb free f k u) : h u ≠ 0 := by
  rcases O.ahead hc w with ⟨a, b, _⟩ | ⟨p, hp, _⟩
  · exact O.far u a b
  · rw [best_none _ hb p (O.ch.low p (O.opn p hp))] at hp; cases hp
theorem least_of {o : Nat} (hb : best h all all.length = some o) (C : ∀ u, (ti all u).opn = true → u < all.length) {p : Nat} (hp : (ti all p).opn = true) : (ti all o).g + h o ≤ (ti all p).g + h p := by
  have := (best_some _ o hb).2.2 p (C p hp) hp
  unfold lt nd Nd.g Nd.h Nd.t at this; dsimp only at this; omega
theorem Op.first_best (O : Op h nb free f t [] all) (hc : ∀ u x, x ∈ nb u → free x = true → h u ≤ h x + 1) {o : Nat} (hb : best h all all.length = some o) {k : Nat} (w : Way nb free f k o) : (ti all o).g ≤ k := by
  have ho := (best_some _ o hb).2.1
  rcases O.ahead hc w with ⟨_, b, _⟩ | ⟨p, hp, hl⟩
  · rw [ho] at b; cases b
  · have := least_of hb (fun u hu => O.ch.low u (O.opn u hu)) hp; omega
theorem Op.goal (O : Op h nb free f t [] all) (hc : ∀ u x, x ∈ nb u → free x = true → h u ≤ h x + 1) {o : Nat} (hb : best h all all.length = some o) (h0 : h o = 0) {k u : Nat} (w : Way nb free f k u) (hu : h u = 0) : (ti all o).g ≤ k := by
  rcases O.ahead hc w with ⟨a, b, _⟩ | ⟨p, hp, hl⟩
  · exact absurd hu (O.far u a b)
  · have := least_of hb (fun u hu => O.ch.low u (O.opn u hu)) hp; omega
theorem Op.shut (O : Op h nb free f t [] all) (hc : ∀ u x, x ∈ nb u → free x = true → h u ≤ h x + 1) {o : Nat} (hb : best h all all.length = some o) (h0 : h o ≠ 0) : Op h nb free f o (nb o) (shut all o) := by
  obtain ⟨hlt, ho, hm⟩ := best_some _ o hb
  have hs := shut_seen hlt
  have hseen := O.opn o ho
  have hop : ∀ k, (ti (Pth.shut all o) k).opn = if k = o then false else (ti all k).opn := fun k => by
    rw [shut_ti hlt]; split <;> rfl
  refine ⟨O.ch.shut hlt, fun u hu => ?_, fun u hu hc' k w => ?_, fun u hu hc' x hx hf => ?_, fun u hu hc' => ?_, fun u hu hne => ?_, fun u hu => ?_⟩
  · rw [(hs u).1] at hu; rw [(hs u).2.1]; exact O.way u hu
  · rw [(hs u).1] at hu; rw [hop u] at hc'; rw [(hs u).2.1]
    by_cases e : u = o
    · rw [e] at w ⊢; exact O.first_best hc hb w
    · rw [if_neg e] at hc'; exact O.least u hu hc' k w
  · rw [(hs u).1] at hu; rw [hop u] at hc'
    by_cases e : u = o
    · rw [e] at hx; exact .inl ⟨e, hx⟩
    · rw [if_neg e] at hc'
      rw [(hs x).1, (hs x).2.1, (hs u).2.1]
      rcases O.round u hu hc' x hx hf with ⟨_, e'⟩ | e'
      · cases e'
      · exact .inr e'
  · rw [(hs u).1] at hu; rw [hop u] at hc'
    by_cases e : u = o
    · rw [e]; exact h0
    · rw [if_neg e] at hc'; exact O.far u hu hc'
  · rw [(hs u).1] at hu; rw [(hs u).2.2, (hs u).2.1, (hs _).2.1, hop]
    obtain ⟨a, b, c, d⟩ := O.by' u hu hne
    refine ⟨?_, b, c, d⟩
    split
    · rfl
    · exact a
  · rw [hop u] at hu; rw [(hs u).1]
    by_cases e : u = o
    · rw [e]; exact hseen
    · rw [if_neg e] at hu; exact O.opn u hu
theorem Op.relax {x : Nat} {l : List Nat} (O : Op h nb free f t (x :: l) all) (ht : (ti all t).seen = true) (hcl : (ti all t).opn = false) (hx : x < all.length) (hn : x ∈ nb t) :
    Op h nb free f t l (relax free t all x) := by
  rcases relax_cases free t x all with e | ⟨hf, hg, e⟩
  · rw [e]
    refine ⟨O.ch, O.way, O.least, fun u hs ho y hy hyf => ?_, O.far, O.by', O.opn⟩
    rcases O.round u hs ho y hy hyf with ⟨e1, e2⟩ | e'
    · rcases List.mem_cons.1 e2 with e3 | e3
      · refine .inr ?_
        rw [e3, e1]
        rw [e3] at hyf
        by_cases hc : (ti all x).seen = true ∧ (ti all x).g ≤ (ti all t).g + 1
        · exact hc
        · exfalso
          have := relax_yes (t := t) hyf (fun hs => Nat.lt_of_not_le fun hl => hc ⟨hs, hl⟩)
          rw [e] at this
          have h2 : ti all x = (true, true, (ti all t).g + 1, t) := by
            have h3 : ti all x = ti (all.set x (true, true, (ti all t).g + 1, t)) x := congrArg (fun a => ti a x) this
            rw [ti_set hx, if_pos rfl] at h3; exact h3
          exact hc (by rw [h2]; exact ⟨rfl, Nat.le_refl _⟩)
      · exact .inl ⟨e1, e3⟩
    · exact .inr e'
  · have hw : Way nb free f ((ti all t).g + 1) x := .succ (O.way t ht) hn hf
    have hxo : (ti all x).seen = true → (ti all x).opn = true := fun hs => by
      cases e' : (ti all x).opn with
      | true => rfl
      | false => have := O.least x hs e' _ hw; have := hg hs; omega
    have hs := ti_set (all := all) (i := x) (a := (true, true, (ti all t).g + 1, t)) hx
    have htx : t ≠ x := fun e' => by have := hxo (e' ▸ ht); rw [← e', hcl] at this; cases this
    rw [e]
    refine ⟨O.ch.set ht hx hg, fun u hu => ?_, fun u hu ho k w => ?_, fun u hu ho y hy hyf => ?_, fun u hu ho => ?_, fun u hu hne => ?_, fun u hu => ?_⟩
    · rw [hs u] at hu ⊢
      by_cases e' : u = x
      · rw [if_pos e', e']; exact hw
      · rw [if_neg e'] at hu ⊢; exact O.way u hu
    · rw [hs u] at hu ho ⊢
      by_cases e' : u = x
      · rw [if_pos e'] at ho; cases ho
      · rw [if_neg e'] at hu ho ⊢; exact O.least u hu ho k w
    · rw [hs u] at hu ho ⊢
      by_cases e' : u = x
      · rw [if_pos e'] at ho; cases ho
      · rw [if_neg e'] at hu ho ⊢
        rw [hs y]
        rcases O.round u hu ho y hy hyf with ⟨e1, e2⟩ | ⟨e1, e2⟩
        · rcases List.mem_cons.1 e2 with e3 | e3
          · refine .inr ?_
            rw [if_pos e3, e1]; exact ⟨rfl, Nat.le_refl _⟩
          · exact .inl ⟨e1, e3⟩
        · refine .inr ?_
          by_cases e3 : y = x
          · rw [if_pos e3]; rw [e3] at e1 e2
            have := hg e1
            exact ⟨rfl, by show (ti all t).g + 1 ≤ _; omega⟩
          · rw [if_neg e3]; exact ⟨e1, e2⟩
    · rw [hs u] at hu ho
      by_cases e' : u = x
      · rw [if_pos e'] at ho; cases ho
      · rw [if_neg e'] at hu ho; exact O.far u hu ho
    · rw [hs u] at hu ⊢
      by_cases e' : u = x
      · rw [if_pos e']
        show (ti _ t).opn = false ∧ u ∈ nb t ∧ free u = true ∧ (ti all t).g + 1 = (ti _ t).g + 1
        rw [hs t, if_neg htx, e']
        exact ⟨hcl, hn, hf, rfl⟩
      · rw [if_neg e'] at hu ⊢
        obtain ⟨a, b, c, d⟩ := O.by' u hu hne
        rw [hs ((ti all u).by')]
        by_cases e3 : (ti all u).by' = x
        · rw [e3] at a
          have := hxo ((e3 ▸ (O.ch.step u hu hne).1))
          rw [a] at this; cases this
        · rw [if_neg e3]; exact ⟨a, b, c, d⟩
    · rw [hs u] at hu ⊢
      by_cases e' : u = x
      · rw [if_pos e']; rfl
      · rw [if_neg e'] at hu ⊢; exact O.opn u hu
theorem Op.start {P : Nat} (hf : f < P) : Op h nb free f t [] (first P f) := by
  have hs := first_ti (P := P) hf
  have hu : ∀ u, (ti (first P f) u).seen = true → u = f := fun u h => by
    rw [hs u] at h; by_cases e : u = f
    · exact e
    · rw [if_neg e] at h; cases h
  have ho : (ti (first P f) f).opn = true := by rw [hs f, if_pos rfl]; rfl
  refine ⟨Ch.start hf, fun u h => ?_, fun u h h' => ?_, fun u h h' => ?_, fun u h h' => ?_, fun u h h' => absurd (hu u h) h', fun u h => ?_⟩
  · rw [hu u h, hs f, if_pos rfl]; exact .zero
  · rw [hu u h, ho] at h'; cases h'
  · rw [hu u h, ho] at h'; cases h'
  · rw [hu u h, ho] at h'; cases h'
  · rw [hs u] at h ⊢; by_cases e : u = f
    · rw [if_pos e]; rfl
    · rw [if_neg e] at h; cases h
/-- The way back is a way, of just so many steps. -/
theorem Op.back (O : Op h nb free f t [] all) : ∀ n u out e, (ti all u).seen = true → (ti all u).g < n → Steps nb free u out e →
    Steps nb free f (back all f n u out) e ∧ (back all f n u out).length = (ti all u).g + out.length := by
  intro n
  induction n with
  | zero => intro u out e _ h; omega
  | succ n ih =>
    intro u out e hs hg hp
    by_cases e' : u = f
    · rw [e', back_own]; rw [e'] at hp; exact ⟨hp, by rw [O.ch.own.2]; omega⟩
    · rw [back_succ _ e']
      obtain ⟨a, b, c, d⟩ := O.by' u hs e'
      obtain ⟨x, y⟩ := ih ((ti all u).by') (u :: out) e (O.ch.step u hs e').1 (by omega) ⟨b, c, hp⟩
      refine ⟨x, ?_⟩
      rw [y, List.length_cons]; omega
end

def shutN (all : List Ti) : Nat := all.countP fun x => x.seen && !x.opn
theorem ti_get {all : List Ti} {t : Nat} (h : t < all.length) : ti all t = all[t] := by
  unfold ti; rw [List.getD_eq_getElem?_getD, List.getElem?_eq_getElem h]; rfl
theorem shutN_shut {all : List Ti} {t : Nat} (ht : t < all.length) (hs : (ti all t).seen = true) (ho : (ti all t).opn = true) : shutN (shut all t) = shutN all + 1 := by
  unfold shutN shut
  rw [List.countP_set ht]
  rw [ti_get ht] at hs ho ⊢
  have e1 : (Ti.seen all[t] && !Ti.opn all[t]) = false := by rw [hs, ho]; rfl
  have e2 : ((Ti.seen ((Ti.seen all[t], false, Ti.g all[t], Ti.by' all[t]) : Ti)) && !(Ti.opn ((Ti.seen all[t], false, Ti.g all[t], Ti.by' all[t]) : Ti))) = true := by
    show (Ti.seen all[t] && !false) = true; rw [hs]; rfl
  rw [e1, e2]; simp
theorem shutN_set {all : List Ti} {x g b : Nat} (hx : x < all.length) (h : (ti all x).seen = true → (ti all x).opn = true) : shutN (all.set x (true, true, g, b)) = shutN all := by
  unfold shutN
  rw [List.countP_set hx]
  rw [ti_get hx] at h
  have e1 : (Ti.seen all[x] && !Ti.opn all[x]) = false := by
    cases e : Ti.seen all[x] with
    | false => rfl
    | true => rw [h e]; rfl
  rw [e1]; simp [Ti.seen, Ti.opn]
section
variable {h : Nat → Nat} {nb : Nat → List Nat} {free : Nat → Bool} {f t : Nat} {all : List Ti}
theorem Op.count {x : Nat} {l : List Nat} (O : Op h nb free f t (x :: l) all) (ht : (ti all t).seen = true) (hx : x < all.length) (hn : x ∈ nb t) : shutN (Pth.relax free t all x) = shutN all := by
  rcases relax_cases free t x all with e | ⟨hf, hg, e⟩
  · rw [e]
  · rw [e]
    refine shutN_set hx fun hs => ?_
    cases e' : (ti all x).opn with
    | true => rfl
    | false => have := O.least x hs e' _ (.succ (O.way t ht) hn hf); have := hg hs; omega
theorem Op.expand : ∀ (l : List Nat) (all : List Ti), Op h nb free f t l all → (ti all t).seen = true → (ti all t).opn = false → (∀ x ∈ l, x < all.length ∧ x ∈ nb t) →
    Op h nb free f t [] (l.foldl (Pth.relax free t) all) ∧ shutN (l.foldl (Pth.relax free t) all) = shutN all := by
  intro l
  induction l with
  | nil => intro all O _ _ _; exact ⟨O, rfl⟩
  | cons x l ih =>
    intro all O hs ho hl
    obtain ⟨hx, hn⟩ := hl x (List.mem_cons_self ..)
    have hown := relax_own (free := free) hs hx
    obtain ⟨a, b⟩ := ih (Pth.relax free t all x) (O.relax hs ho hx hn) (by rw [hown]; exact hs) (by rw [hown]; exact ho)
      (fun y hy => by rw [relax_len]; exact hl y (List.mem_cons_of_mem _ hy))
    exact ⟨a, by rw [List.foldl_cons, b, O.count hs hx hn]⟩
/-- WHAT IS FOUND IS A WAY, AND NO WAY HAS FEWER STEPS; NONE IS FOUND ONLY WHERE THERE IS NONE. -/
theorem Op.found (hc : ∀ u x, x ∈ nb u → free x = true → h u ≤ h x + 1) : ∀ (n : Nat) (all : List Ti) (t : Nat), Op h nb free f t [] all → (∀ u, u < all.length → ∀ x ∈ nb u, x < all.length) → all.length < n + shutN all →
    match afind h nb free f n all with
    | some l => ∃ e, h e = 0 ∧ Steps nb free f l e ∧ Way nb free f l.length e ∧ ∀ u k, Way nb free f k u → h u = 0 → l.length ≤ k
    | none => ∀ u k, Way nb free f k u → h u ≠ 0 := by
  intro n
  induction n with
  | zero =>
    intro all t O hnb hn
    have : shutN all ≤ all.length := List.countP_le_length
    omega
  | succ n ih =>
    intro all t O hnb hn
    unfold afind
    cases hb : best h all all.length with
    | none => exact fun u k w => O.no_way hc hb w
    | some o =>
      simp only
      obtain ⟨hlt, ho, hm⟩ := best_some _ o hb
      have hs := O.opn o ho
      by_cases h0 : h o = 0
      · rw [if_pos h0]
        have hb' : ∀ m u out, Pth.back (Pth.shut all o) f m u out = Pth.back all f m u out := by
          intro m
          induction m with
          | zero => intro u out; rfl
          | succ m ihm =>
            intro u out
            by_cases e : u = f
            · rw [e, back_own, back_own]
            · rw [back_succ _ e, back_succ _ e, (shut_seen hlt u).2.2, ihm]
        rw [hb']
        obtain ⟨a, b⟩ := O.back ((ti all o).g + 1) o [] o hs (by omega) rfl
        have hlen : (Pth.back all f ((ti all o).g + 1) o []).length = (ti all o).g := by rw [b]; rfl
        refine ⟨o, h0, a, ?_, fun u k w hu => ?_⟩
        · rw [hlen]; exact O.way o hs
        · rw [hlen]; exact O.goal hc hb h0 w hu
      · rw [if_neg h0]
        have O' := O.shut hc hb h0
        have hsn := shut_seen hlt o
        obtain ⟨a, b⟩ := O'.expand (nb o) _ (by rw [hsn.1]; exact hs) (by rw [shut_ti hlt, if_pos rfl]; rfl) (fun x hx => ⟨by rw [shut_len]; exact hnb o hlt x hx, hx⟩)
        refine ih _ o a (fun u hu x hx => ?_) ?_
        · rw [fold_len, shut_len] at hu ⊢; exact hnb u hu x hx
        · rw [fold_len, shut_len, b, shutN_shut hlt hs ho]; omega
end
end Go.Proofs.Ytmceaocknlnmpaa.Pth
namespace Go.Proofs.Ytmceaocknlnmpaa.Pth
set_option linter.unusedVariables false

/-- A search in breadth: what has been counted, and those whose neighbours are still to be looked at. -/
structure Bf (nb : Nat → List Nat) (free goal : Nat → Bool) (f P : Nat) (s : Nat → Option Nat) (Q : List Nat) : Prop where
  own : s f = some 0
  lt : ∀ u k, s u = some k → u < P
  way : ∀ u k, s u = some k → Way nb free f k u
  least : ∀ u k, s u = some k → ∀ j, Way nb free f j u → k ≤ j
  q : ∀ u ∈ Q, (s u).isSome = true
  done : ∀ u k, s u = some k → u ∈ Q ∨ goal u = false ∧ ∀ x ∈ nb u, free x = true → (s x).isSome = true
  rise : Q.Pairwise fun x y => (s x).getD 0 ≤ (s y).getD 0 ∧ (s y).getD 0 ≤ (s x).getD 0 + 1
def upd (s : Nat → Option Nat) (x k : Nat) : Nat → Option Nat := fun u => if u = x then some k else s u
section
variable {nb : Nat → List Nat} {free goal : Nat → Bool} {f P t : Nat} {s : Nat → Option Nat} {Q : List Nat}
theorem Bf.start (hf : f < P) : Bf nb free goal f P (upd (fun _ => none) f 0) [f] := by
  have hu : ∀ u k, upd (fun _ => none) f 0 u = some k → u = f ∧ k = 0 := fun u k h => by
    unfold upd at h; by_cases e : u = f
    · rw [if_pos e] at h; cases h; exact ⟨e, rfl⟩
    · rw [if_neg e] at h; cases h
  have ho : upd (fun _ => none) f 0 f = some 0 := if_pos rfl
  refine ⟨ho, fun u k h => by rw [(hu u k h).1]; exact hf, fun u k h => ?_, fun u k h j w => by rw [(hu u k h).2]; exact Nat.zero_le _, fun u h => ?_, fun u k h => .inl ?_, List.pairwise_singleton _ _⟩
  · rw [(hu u k h).1, (hu u k h).2]; exact .zero
  · rw [List.mem_singleton.1 h, ho]; rfl
  · rw [(hu u k h).1]; exact List.mem_singleton.2 rfl
theorem Bf.head (B : Bf nb free goal f P s (t :: Q)) : ∀ u ∈ t :: Q, (s t).getD 0 ≤ (s u).getD 0 ∧ (s u).getD 0 ≤ (s t).getD 0 + 1 := by
  intro u hu
  rcases List.mem_cons.1 hu with e | e
  · rw [e]; exact ⟨Nat.le_refl _, by omega⟩
  · exact (List.pairwise_cons.1 B.rise).1 u e
theorem Bf.near (B : Bf nb free goal f P s (t :: Q)) {j u : Nat} (w : Way nb free f j u) : j ≤ (s t).getD 0 → (s u).isSome = true := by
  induction w with
  | zero => intro _; rw [B.own]; rfl
  | @succ k u x w hx hf ih =>
    intro hl
    obtain ⟨ku, hku⟩ := Option.isSome_iff_exists.1 (ih (by omega))
    rcases B.done u ku hku with h | h
    · have := (B.head u h).1
      have := B.least u ku hku k w
      rw [hku, Option.getD_some] at *
      omega
    · exact h.2 x hx hf
theorem Bf.step {x : Nat} (B : Bf nb free goal f P s (t :: Q)) (hx : x ∈ nb t) (hf : free x = true) (hn : s x = none) (hl : x < P) : Bf nb free goal f P (upd s x ((s t).getD 0 + 1)) (t :: (Q ++ [x])) := by
  obtain ⟨k, hk⟩ := Option.isSome_iff_exists.1 (B.q t (List.mem_cons_self ..))
  have hkd : (s t).getD 0 = k := by rw [hk]; rfl
  have hne : ∀ u, (s u).isSome = true → u ≠ x := fun u h e => by rw [e, hn] at h; cases h
  have hold : ∀ u, (s u).isSome = true → upd s x ((s t).getD 0 + 1) u = s u := fun u h => if_neg (hne u h)
  have hnew : upd s x ((s t).getD 0 + 1) x = some (k + 1) := by rw [hkd]; exact if_pos rfl
  have hw : Way nb free f (k + 1) x := .succ (B.way t k hk) hx hf
  have hcase : ∀ u j, upd s x ((s t).getD 0 + 1) u = some j → u = x ∧ j = k + 1 ∨ s u = some j := fun u j h => by
    by_cases e : u = x
    · rw [e, hnew] at h; cases h; exact .inl ⟨e, rfl⟩
    · exact .inr (by unfold upd at h; rwa [if_neg e] at h)
  have hsome : ∀ u, (s u).isSome = true → (upd s x ((s t).getD 0 + 1) u).isSome = true := fun u h => by rw [hold u h]; exact h
  have hqd : ∀ u ∈ t :: Q, (upd s x ((s t).getD 0 + 1) u).getD 0 = (s u).getD 0 := fun u h => by rw [hold u (B.q u h)]
  refine ⟨by rw [hold f (by rw [B.own]; rfl)]; exact B.own, fun u j h => ?_, fun u j h => ?_, fun u j h i w => ?_, fun u h => ?_, fun u j h => ?_, ?_⟩
  · rcases hcase u j h with ⟨e, _⟩ | e
    · rw [e]; exact hl
    · exact B.lt u j e
  · rcases hcase u j h with ⟨e, e'⟩ | e
    · rw [e, e']; exact hw
    · exact B.way u j e
  · rcases hcase u j h with ⟨e, e'⟩ | e
    · rw [e']
      refine Nat.lt_of_not_le fun hi => ?_
      have := B.near w (by rw [hkd]; exact hi)
      exact hne u this e
    · exact B.least u j e i w
  · rw [← List.cons_append] at h
    rcases List.mem_append.1 h with h | h
    · exact hsome u (B.q u h)
    · rw [List.mem_singleton.1 h, hnew]; rfl
  · rw [← List.cons_append]
    rcases hcase u j h with ⟨e, _⟩ | e
    · exact .inl (List.mem_append_right _ (List.mem_singleton.2 e))
    · rcases B.done u j e with h | ⟨h, h'⟩
      · exact .inl (List.mem_append_left _ h)
      · exact .inr ⟨h, fun y hy hyf => hsome y (h' y hy hyf)⟩
  · rw [← List.cons_append, List.pairwise_append]
    refine ⟨B.rise.imp_of_mem fun {a b} ha hb h => by rw [hqd a ha, hqd b hb]; exact h, List.pairwise_singleton _ _, fun a ha b hb => ?_⟩
    rw [List.mem_singleton.1 hb, hqd a ha, hnew, Option.getD_some]
    have := B.head a ha
    omega
theorem Bf.pop (B : Bf nb free goal f P s (t :: Q)) (hg : goal t = false) (h : ∀ x ∈ nb t, free x = true → (s x).isSome = true) : Bf nb free goal f P s Q :=
  ⟨B.own, B.lt, B.way, B.least, fun u hu => B.q u (List.mem_cons_of_mem _ hu), fun u k hk => by
    rcases B.done u k hk with e | e
    · rcases List.mem_cons.1 e with e | e
      · rw [e]; exact .inr ⟨hg, h⟩
      · exact .inl e
    · exact .inr e, (List.pairwise_cons.1 B.rise).2⟩
/-- The first goal that is looked at is a nearest one. -/
theorem Bf.goal_least (B : Bf nb free goal f P s (t :: Q)) {j u : Nat} (w : Way nb free f j u) (hg : goal u = true) : (s t).getD 0 ≤ j := by
  refine Nat.le_of_not_lt fun hl => ?_
  obtain ⟨k, hk⟩ := Option.isSome_iff_exists.1 (B.near w (Nat.le_of_lt hl))
  have := B.least u k hk j w
  rcases B.done u k hk with e | ⟨e, _⟩
  · have := (B.head u e).1
    rw [hk, Option.getD_some] at this; omega
  · rw [hg] at e; cases e
theorem Bf.no_goal (B : Bf nb free goal f P s []) {j u : Nat} (w : Way nb free f j u) : (s u).isSome = true ∧ goal u = false := by
  induction w with
  | zero =>
    rcases B.done f 0 B.own with e | ⟨e, _⟩
    · cases e
    · exact ⟨by rw [B.own]; rfl, e⟩
  | @succ k u x w hx hf ih =>
    obtain ⟨k, hk⟩ := Option.isSome_iff_exists.1 ih.1
    rcases B.done u k hk with e | ⟨_, e⟩
    · cases e
    · have hs := e x hx hf
      obtain ⟨k', hk'⟩ := Option.isSome_iff_exists.1 hs
      rcases B.done x k' hk' with e' | ⟨e', _⟩
      · cases e'
      · exact ⟨hs, e'⟩
def unseen (P : Nat) (s : Nat → Option Nat) : Nat := (List.range P).countP fun u => (s u).isNone
theorem unseen_upd {x k : Nat} (hx : x < P) (hn : s x = none) : unseen P (upd s x k) < unseen P s := by
  unfold unseen
  induction P with
  | zero => omega
  | succ P ih =>
    rw [List.range_succ, List.countP_append, List.countP_append]
    have h1 : ([P].countP fun u => (s u).isNone) = if (s P).isNone then 1 else 0 := by simp [List.countP_cons]
    have h2 : ([P].countP fun u => (upd s x k u).isNone) = if (upd s x k P).isNone then 1 else 0 := by simp [List.countP_cons]
    rw [h1, h2]
    by_cases e : P = x
    · subst e
      have h3 : ((List.range P).countP fun u => (upd s P k u).isNone) = (List.range P).countP fun u => (s u).isNone := by
        refine List.countP_congr fun u hu => ?_
        have : u ≠ P := by have := List.mem_range.1 hu; omega
        unfold upd; rw [if_neg this]
      rw [h3, hn]; simp [upd]
    · have := ih (by omega)
      have h3 : upd s x k P = s P := if_neg e
      rw [h3]; omega
end
end Go.Proofs.Ytmceaocknlnmpaa.Pth
namespace Go.Proofs.Ytmceaocknlnmpaa.Grid
set_option linter.unusedVariables false

theorem far_row (W t u : Nat) : (t / W - u / W) + (u / W - t / W) ≤ far W t u := by unfold far; omega
theorem up_rows0 {W t F r : Nat} (hW : 0 < W) (h : r + F ≤ t / W ∨ r = 0) : upto W t (F : Int) (r * W) = [] := by
  have := upto_skip (W := W) (t := t) (f := (F : Int)) (k := 0) (r * W) (Nat.zero_le _) (fun u _ h2 => by
    have h3 : u / W < r := (Nat.div_lt_iff_lt_mul hW).2 h2
    have h4 := far_row W t u
    generalize far W t u = a at *
    generalize t / W = y at *
    generalize u / W = v at *
    omega)
  rw [this, upto_zero]
theorem up_rows1 {W H t F r : Nat} (hW : 0 < W) (hr : r ≤ H) (h : t / W + F < r ∨ r = H) : upto W t (F : Int) (H * W) = upto W t (F : Int) (r * W) := by
  refine upto_skip (H * W) (Nat.mul_le_mul_right W hr) (fun u h1 h2 => ?_)
  have h3 : r ≤ u / W := (Nat.le_div_iff_mul_le hW).2 h1
  have h5 : u / W < H := (Nat.div_lt_iff_lt_mul hW).2 h2
  have h4 := far_row W t u
  generalize far W t u = a at *
  generalize t / W = y at *
  generalize u / W = v at *
  omega
theorem up_col0 {W t F r c L : Nat} (hc : c ≤ W) (h : c + L ≤ t % W ∨ c = 0) (hL : L + ((t / W - r) + (r - t / W)) = F) : upto W t (F : Int) (r * W + c) = upto W t (F : Int) (r * W) := by
  refine upto_skip (r * W + c) (Nat.le_add_right _ _) (fun u h1 h2 => ?_)
  obtain ⟨j, hj⟩ : ∃ j, u = r * W + j := ⟨u - r * W, by omega⟩
  rw [hj, far_rc (by omega)]
  generalize t / W = y at *
  generalize t % W = x at *
  omega
theorem up_col1 {W t F r c L : Nat} (hc : c ≤ W) (h : t % W + L < c ∨ c = W) (hL : L + ((t / W - r) + (r - t / W)) = F) : upto W t (F : Int) ((r + 1) * W) = upto W t (F : Int) (r * W + c) := by
  have e : (r + 1) * W = r * W + W := by rw [Nat.add_mul, Nat.one_mul]
  rw [e]
  refine upto_skip (r * W + W) (Nat.add_le_add_left hc _) (fun u h1 h2 => ?_)
  obtain ⟨j, hj⟩ : ∃ j, u = r * W + j := ⟨u - r * W, by omega⟩
  rw [hj, far_rc (by omega)]
  generalize t / W = y at *
  generalize t % W = x at *
  omega
theorem up_one {W t F r c L : Nat} (hc : c < W) (h1 : c ≤ t % W + L) (h2 : t % W ≤ c + L) (hL : L + ((t / W - r) + (r - t / W)) = F) : upto W t (F : Int) (r * W + (c + 1)) = upto W t (F : Int) (r * W + c) ++ [r * W + c] := by
  rw [← Nat.add_assoc]
  refine upto_yes ?_
  rw [far_rc hc]
  generalize t / W = y at *
  generalize t % W = x at *
  omega
end Go.Proofs.Ytmceaocknlnmpaa.Grid
namespace Go.Proofs.Ytmceaocknlnmpaa.Grid
set_option linter.unusedVariables false

def vis (f : Nat) (s : List Nat) (x : Nat) : Prop := x = f ∨ s.getD x 0 ≠ 0
instance (f : Nat) (s : List Nat) (x : Nat) : Decidable (vis f s x) := inferInstanceAs (Decidable (_ ∨ _))
/-- What holds while the search goes on: Q: those whose neighbours are not all counted yet. -/
structure Bfs (D : Nat → Nat) (nb : Nat → List Nat) (P f : Nat) (s Q : List Nat) : Prop where
  len : s.length = P
  own : s.getD f 0 = 0
  right : ∀ x, vis f s x → x < P ∧ s.getD x 0 = D x
  done : ∀ x, vis f s x → x ∈ Q ∨ ∀ j ∈ nb x, vis f s j
  seen : ∀ x ∈ Q, vis f s x
  rise : Q.Pairwise fun x y => D x ≤ D y ∧ D y ≤ D x + 1
section
variable {D : Nat → Nat} {nb : Nat → List Nat} {P f : Nat} {s Q : List Nat}
theorem Bfs.start (hf : f < P) (h0 : D f = 0) : Bfs D nb P f (List.replicate P 0) [f] := by
  have hz : ∀ x, (List.replicate P 0).getD x 0 = 0 := fun x => by
    rw [List.getD_eq_getElem?_getD, List.getElem?_replicate]; split <;> rfl
  have hv : ∀ x, vis f (List.replicate P 0) x → x = f := fun x h => by
    rcases h with h | h
    · exact h
    · exact absurd (hz x) h
  refine ⟨by simp, hz f, fun x h => ?_, fun x h => .inl (by rw [hv x h]; exact List.mem_singleton.2 rfl), fun x h => .inl (by simpa using h), List.pairwise_singleton _ _⟩
  rw [hv x h]; exact ⟨hf, by rw [hz, h0]⟩
/-- Whoever is not farther than the first in the row has been counted. -/
theorem Bfs.near (h : Bfs D nb P f s Q) (hcl : ∀ j, j < P → 0 < D j → ∃ i, i < P ∧ j ∈ nb i ∧ D i + 1 = D j) (h0 : ∀ j, j < P → D j = 0 → j = f) :
    ∀ n j, j < P → D j = n → (∀ i ∈ Q, n ≤ D i) → vis f s j := by
  intro n
  induction n with
  | zero => intro j hj hd _; exact .inl (h0 j hj hd)
  | succ n ih =>
    intro j hj hd hq
    obtain ⟨i, hi, hji, hdi⟩ := hcl j hj (by omega)
    have hv := ih i hi (by omega) (fun x hx => by have := hq x hx; omega)
    rcases h.done i hv with hm | hm
    · have := hq i hm; omega
    · exact hm j hji
theorem Bfs.step {i j : Nat} (h : Bfs D nb P f s (i :: Q)) (hcl : ∀ j, j < P → 0 < D j → ∃ i, i < P ∧ j ∈ nb i ∧ D i + 1 = D j) (h0 : ∀ j, j < P → D j = 0 → j = f) (hj : j < P) (hjd : D j ≤ D i + 1) (hn : ¬ vis f s j) :
    Bfs D nb P f (s.set j (s.getD i 0 + 1)) (i :: (Q ++ [j])) := by
  have hri := (h.right i (h.seen i (List.mem_cons_self ..))).2
  have hlow : ∀ x ∈ i :: Q, D i ≤ D x ∧ D x ≤ D i + 1 := by
    intro x hx
    rcases List.mem_cons.1 hx with rfl | hx
    · exact ⟨Nat.le_refl _, by omega⟩
    · exact (List.pairwise_cons.1 h.rise).1 x hx
  have hD : D j = D i + 1 := by
    rcases Nat.lt_or_ge (D i) (D j) with hl | hl
    · omega
    · exact absurd (h.near hcl h0 (D j) j hj rfl (fun x hx => Nat.le_trans hl (hlow x hx).1)) hn
  have hjf : j ≠ f := fun e => hn (.inl e)
  have hg : ∀ x, (s.set j (s.getD i 0 + 1)).getD x 0 = if x = j then s.getD i 0 + 1 else s.getD x 0 := by
    intro x
    rw [List.getD_eq_getElem?_getD, List.getElem?_set]
    by_cases e : j = x
    · subst e; rw [if_pos rfl, if_pos (by rw [h.len]; exact hj), if_pos rfl]; rfl
    · rw [if_neg e, if_neg (fun e' => e e'.symm), List.getD_eq_getElem?_getD]
  have hv : ∀ x, vis f (s.set j (s.getD i 0 + 1)) x ↔ vis f s x ∨ x = j := by
    intro x
    unfold vis
    rw [hg]
    by_cases e : x = j
    · rw [if_pos e]; simp [e]
    · rw [if_neg e]; simp [e]
  refine ⟨by rw [List.length_set]; exact h.len, by rw [hg, if_neg (fun e => hjf e.symm)]; exact h.own, ?_, ?_, ?_, ?_⟩
  · intro x hx
    rw [hg]
    by_cases e : x = j
    · subst e; rw [if_pos rfl]; exact ⟨hj, by omega⟩
    · rw [if_neg e]
      rcases (hv x).1 hx with h1 | h1
      · exact h.right x h1
      · exact absurd h1 e
  · intro x hx
    rcases (hv x).1 hx with h1 | h1
    · rcases h.done x h1 with h2 | h2
      · left
        rcases List.mem_cons.1 h2 with rfl | h2
        · exact List.mem_cons_self ..
        · exact List.mem_cons_of_mem _ (List.mem_append_left _ h2)
      · exact .inr fun y hy => (hv y).2 (.inl (h2 y hy))
    · exact .inl (by rw [h1]; exact List.mem_cons_of_mem _ (List.mem_append_right _ (List.mem_singleton.2 rfl)))
  · intro x hx
    rcases List.mem_cons.1 hx with rfl | hx
    · exact (hv x).2 (.inl (h.seen x (List.mem_cons_self ..)))
    · rcases List.mem_append.1 hx with hx | hx
      · exact (hv x).2 (.inl (h.seen x (List.mem_cons_of_mem _ hx)))
      · exact (hv x).2 (.inr (List.mem_singleton.1 hx))
  · rw [← List.cons_append]
    refine List.pairwise_append.2 ⟨h.rise, List.pairwise_singleton _ _, fun x hx y hy => ?_⟩
    obtain rfl := List.mem_singleton.1 hy
    have := hlow x hx
    omega
theorem Bfs.next {i : Nat} (h : Bfs D nb P f s (i :: Q)) (hall : ∀ j ∈ nb i, vis f s j) : Bfs D nb P f s Q :=
  ⟨h.len, h.own, h.right, fun x hx => by
    rcases h.done x hx with h1 | h1
    · rcases List.mem_cons.1 h1 with rfl | h1
      · exact .inr hall
      · exact .inl h1
    · exact .inr h1, fun x hx => h.seen x (List.mem_cons_of_mem _ hx), (List.pairwise_cons.1 h.rise).2⟩
theorem Bfs.end_ (h : Bfs D nb P f s []) (hcl : ∀ j, j < P → 0 < D j → ∃ i, i < P ∧ j ∈ nb i ∧ D i + 1 = D j) (h0 : ∀ j, j < P → D j = 0 → j = f) : ∀ j, j < P → s.getD j 0 = D j :=
  fun j hj => (h.right j (h.near hcl h0 (D j) j hj rfl (fun _ hx => by cases hx))).2
theorem count_set {j v : Nat} (hj : j < s.length) (hz : s.getD j 0 = 0) (hv : v ≠ 0) : (s.set j v).count 0 + 1 = s.count 0 := by
  induction s generalizing j with
  | nil => cases hj
  | cons a s ih =>
    cases j with
    | zero =>
      have : a = 0 := hz
      subst this
      rw [List.set_cons_zero, List.count_cons_of_ne hv, List.count_cons_self]
    | succ j =>
      rw [List.set_cons_succ, List.count_cons, List.count_cons]
      have := ih (j := j) (by simpa using hj) (by simpa using hz)
      omega
end
theorem vis_set {f x j n : Nat} {s : List Nat} (h : vis f s x) : vis f (s.set j (n + 1)) x := by
  rcases h with h | h
  · exact .inl h
  · right
    rw [List.getD_eq_getElem?_getD, List.getElem?_set]
    by_cases e : j = x
    · subst e; rw [if_pos rfl]; split
      · simp
      · rename_i hl; rw [List.getD_eq_getElem?_getD, List.getElem?_eq_none (by omega)] at h; exact absurd rfl h
    · rw [if_neg e, ← List.getD_eq_getElem?_getD]; exact h
theorem vis_new {f j n : Nat} {s : List Nat} (h : j < s.length) : vis f (s.set j (n + 1)) j := by
  right
  rw [List.getD_eq_getElem?_getD, List.getElem?_set, if_pos rfl, if_pos h]
  simp
/-- Each tile but the first has one next to it that is nearer. -/
theorem nxt_mem {W H t : Nat} : ∀ j, j ∈ nxt W H t ↔ (0 < t / W ∧ j = t - W) ∨ (t % W + 1 < W ∧ j = t + 1) ∨ (t / W + 1 < H ∧ j = t + W) ∨ (0 < t % W ∧ j = t - 1) := by
  intro j
  unfold nxt
  simp only [List.mem_append]
  by_cases h1 : 0 < t / W <;> by_cases h2 : t % W + 1 < W <;> by_cases h3 : t / W + 1 < H <;> by_cases h4 : 0 < t % W <;> simp [h1, h2, h3, h4] <;> omega
theorem nxt_far {W H f t j : Nat} (hW : 4 ≤ W) (ht : t < W * H) (h : j ∈ nxt W H t) : j < W * H ∧ far W f j ≤ far W f t + 1 := by
  have hW0 : 0 < W := by omega
  have hrow := div_lt' hW0 ht
  rcases (nxt_mem j).1 h with ⟨h1, rfl⟩ | ⟨h1, rfl⟩ | ⟨h1, rfl⟩ | ⟨h1, rfl⟩
  · have hw := (row_pos hW0).1 h1
    refine ⟨by omega, ?_⟩
    unfold far
    rw [sub_div, sub_mod hw]
    omega
  · obtain ⟨e1, e2⟩ := right_same hW0 h1
    have hd := div_mod' W (t + 1)
    rw [e1, e2] at hd
    refine ⟨?_, ?_⟩
    · have : (t / W + 1) * W ≤ W * H := by rw [Nat.mul_comm W H]; exact Nat.mul_le_mul_right _ hrow
      rw [Nat.add_mul] at this
      omega
    · unfold far
      rw [e1, e2]
      omega
  · refine ⟨(row_more hW0).1 h1, ?_⟩
    unfold far
    rw [add_div' hW0, Nat.add_mod_right]
    omega
  · obtain ⟨e1, e2⟩ := left_same hW0 h1
    refine ⟨by omega, ?_⟩
    unfold far
    rw [e1, e2]
    omega
theorem far_zero {W f j : Nat} (h : far W f j = 0) : j = f := by
  have h1 := div_mod' W f; have h2 := div_mod' W j
  unfold far at h
  have e1 : f / W = j / W := by omega
  have e2 : f % W = j % W := by omega
  rw [e1, e2] at h1
  omega
theorem nxt_closer {W H f j : Nat} (hW : 4 ≤ W) (hf : f < W * H) (hj : j < W * H) (h : 0 < far W f j) : ∃ i, i < W * H ∧ j ∈ nxt W H i ∧ far W f i + 1 = far W f j := by
  have hW0 : 0 < W := by omega
  have hrf := div_lt' hW0 hf; have hrj := div_lt' hW0 hj
  have hcf := Nat.mod_lt f hW0; have hcj := Nat.mod_lt j hW0
  have z1 := Nat.zero_le (j / W); have z2 := Nat.zero_le (f / W)
  by_cases h1 : j / W < f / W
  · have hm : j / W + 1 < H := by omega
    refine ⟨j + W, (row_more hW0).1 hm, (nxt_mem j).2 (.inl ⟨by rw [add_div' hW0]; omega, by omega⟩), ?_⟩
    unfold far
    rw [add_div' hW0, Nat.add_mod_right]
    omega
  · by_cases h2 : f / W < j / W
    · have hw := (row_pos hW0).1 (show 0 < j / W by omega)
      refine ⟨j - W, by omega, (nxt_mem j).2 (.inr (.inr (.inl ⟨by rw [sub_div]; omega, by omega⟩))), ?_⟩
      unfold far
      rw [sub_div, sub_mod hw]
      omega
    · by_cases h3 : j % W < f % W
      · obtain ⟨e1, e2⟩ := right_same hW0 (show j % W + 1 < W by omega)
        have hd := div_mod' W (j + 1)
        rw [e1, e2] at hd
        refine ⟨j + 1, ?_, (nxt_mem j).2 (.inr (.inr (.inr ⟨by rw [e2]; omega, by omega⟩))), ?_⟩
        · have : (j / W + 1) * W ≤ W * H := by rw [Nat.mul_comm W H]; exact Nat.mul_le_mul_right _ hrj
          rw [Nat.add_mul] at this
          omega
        · unfold far
          rw [e1, e2]
          omega
      · have h4 : f % W < j % W := by unfold far at h; omega
        obtain ⟨e1, e2⟩ := left_same hW0 (show 0 < j % W by omega)
        have : j ≠ 0 := by intro e; subst e; simp at h4
        refine ⟨j - 1, by omega, (nxt_mem j).2 (.inr (.inl ⟨by rw [e2]; omega, by omega⟩)), ?_⟩
        unfold far
        rw [e1, e2]
        omega
/-- Those that are not farther, one by one. -/
theorem upto_get {W t n i : Nat} {F : Int} (hi : i < n) (h : (far W t i : Int) ≤ F) : (upto W t F n).getD (upto W t F i).length 0 = i ∧ (upto W t F i).length < (upto W t F n).length := by
  obtain ⟨m, rfl⟩ : ∃ m, n = i + 1 + m := ⟨n - (i + 1), by omega⟩
  have hp : ∀ m, ∃ R, upto W t F (i + 1 + m) = upto W t F i ++ i :: R := by
    intro m
    induction m with
    | zero => exact ⟨[], upto_yes h⟩
    | succ m ih =>
      obtain ⟨R, hR⟩ := ih
      by_cases hk : (far W t (i + 1 + m) : Int) ≤ F
      · exact ⟨R ++ [i + 1 + m], by rw [← Nat.add_assoc, upto_yes hk, hR]; simp⟩
      · exact ⟨R, by rw [← Nat.add_assoc, upto_no hk, hR]⟩
  obtain ⟨R, hR⟩ := hp m
  rw [hR]
  exact ⟨by simp [List.getD_eq_getElem?_getD], by simp⟩
end Go.Proofs.Ytmceaocknlnmpaa.Grid
namespace Go.Proofs.Ytmceaocknlnmpaa.Pth
open Go.Proofs.Ytmceaocknlnmpaa.Grid
set_option linter.unusedVariables false

/-- How much farther than near a tile is. -/
def hh (W to near : Nat) (t : Nat) : Nat := far W t to - near
theorem far_tri (W a b c : Nat) : far W a c ≤ far W a b + far W b c := by unfold far; omega
theorem nxt_one {W H t x : Nat} (hW : 4 ≤ W) (h : x ∈ nxt W H t) : far W t x = 1 := by
  rcases nxt_mem x |>.1 h with ⟨a, rfl⟩ | ⟨a, rfl⟩ | ⟨a, rfl⟩ | ⟨a, rfl⟩
  · exact far_north (by omega) ((row_pos (by omega)).1 a)
  · exact (far_east hW).2 a
  · exact far_south (by omega)
  · refine (far_west hW ?_).2 a
    rcases Nat.eq_zero_or_pos t with e | e
    · rw [e, Nat.zero_mod] at a; omega
    · exact e
theorem hh_next {W H to near u x : Nat} (hW : 4 ≤ W) (h : x ∈ nxt W H u) : hh W to near u ≤ hh W to near x + 1 := by
  have h1 := nxt_one hW h
  have h2 := far_tri W u x to
  unfold hh; omega
theorem hh_le {W H to near u : Nat} (hW : 4 ≤ W) (hu : u < W * H) (ht : to < W * H) : hh W to near u ≤ W + H := by
  have := far_le (H := H) (by omega) hu ht; unfold hh; omega
theorem nxt_lt {W H t x : Nat} (hW : 4 ≤ W) (ht : t < W * H) (h : x ∈ nxt W H t) : x < W * H := (nxt_far (f := 0) hW ht h).1
theorem nxt_len (W H t : Nat) : (nxt W H t).length ≤ 4 := by
  unfold nxt; simp only [List.length_append]
  repeat' split
  all_goals simp
/-- The way, if there is one. -/
def pway (W H : Nat) (free : Nat → Bool) (f to near : Nat) : Option (List Nat) := afind (hh W to near) (nxt W H) free f 600 (first (W * H) f)
section
variable {W H f to near : Nat} {free : Nat → Bool}
theorem pway_found (hW : 4 ≤ W) (hf : f < W * H) (hP : W * H < 600) :
    match pway W H free f to near with
    | some l => ∃ e, hh W to near e = 0 ∧ Steps (nxt W H) free f l e ∧ Way (nxt W H) free f l.length e ∧ ∀ u k, Way (nxt W H) free f k u → hh W to near u = 0 → l.length ≤ k
    | none => ∀ u k, Way (nxt W H) free f k u → hh W to near u ≠ 0 := by
  refine Op.found (fun u x hx _ => hh_next hW hx) 600 (first (W * H) f) 0 (Op.start hf) (fun u hu x hx => ?_) ?_
  · rw [first_len] at hu ⊢; exact nxt_lt hW hu hx
  · rw [first_len]; omega
theorem short_none {goal : Nat → Bool} {s : Nat → Option Nat} (hW : 4 ≤ W) (hf : f < W * H) (hP : W * H < 600) (hg : ∀ u, hh W to near u = 0 ↔ goal u = true) (B : Bf (nxt W H) free goal f (W * H) s []) : pway W H free f to near = none := by
  have := pway_found (free := free) (to := to) (near := near) hW hf hP
  cases e : pway W H free f to near with
  | none => rfl
  | some l =>
    rw [e] at this
    obtain ⟨u, h0, _, w, _⟩ := this
    have h1 := (B.no_goal w).2
    rw [(hg u).1 h0] at h1; cases h1
theorem short_some {goal : Nat → Bool} {s : Nat → Option Nat} {t : Nat} {Q : List Nat} (hW : 4 ≤ W) (hf : f < W * H) (hP : W * H < 600) (hg : ∀ u, hh W to near u = 0 ↔ goal u = true) (B : Bf (nxt W H) free goal f (W * H) s (t :: Q)) (ht : goal t = true) :
    ∃ l e, pway W H free f to near = some l ∧ l.length = (s t).getD 0 ∧ Steps (nxt W H) free f l e ∧ goal e = true := by
  obtain ⟨k, hk⟩ := Option.isSome_iff_exists.1 (B.q t (List.mem_cons_self ..))
  have hw := B.way t k hk
  have := pway_found (free := free) (to := to) (near := near) hW hf hP
  cases e : pway W H free f to near with
  | none => rw [e] at this; exact absurd ((hg t).2 ht) (this t k hw)
  | some l =>
    rw [e] at this
    obtain ⟨u, h0, hs, w, hm⟩ := this
    have h1 := B.goal_least w ((hg u).1 h0)
    have h2 := hm t k hw ((hg t).2 ht)
    rw [hk, Option.getD_some] at *
    exact ⟨l, u, rfl, by omega, hs, (hg u).1 h0⟩
end
end Go.Proofs.Ytmceaocknlnmpaa.Pth
