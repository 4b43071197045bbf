/- Path: what the law's own search keeps. -/
import Derived.Test.YtmceaocknlnmpaaPthA1
namespace Go.Proofs.Ytmceaocknlnmpaa.Pth
open Go.ChangeShapes Go.WideShapes Go.ChangeAt Go.RowKit
open Go.Proofs.Ytmceaocknlnmpaa.Rec Go.Proofs.Ytmceaocknlnmpaa.Grid
set_option linter.unusedVariables false
def sF (s : Nat → Option Nat) (k : Int) : Option Value := if k < 0 then none else (s k.toNat).map fun (n : Nat) => Value.int .i64 (n : Int)
theorem sF_at (s : Nat → Option Nat) (t : Nat) : sF s (t : Int) = (s t).map fun (n : Nat) => Value.int .i64 (n : Int) := by
  unfold sF; rw [if_neg (by omega)]; rfl
theorem sF_put (s : Nat → Option Nat) (x n : Nat) : (fun k => if k = (x : Int) then some (Value.int .i64 (n : Int)) else sF s k) = sF (upd s x n) := by
  funext k
  unfold sF upd
  by_cases hk : k < 0
  · rw [if_pos hk, if_pos hk, if_neg (by omega)]
  · rw [if_neg hk, if_neg hk]
    by_cases e : k = (x : Int)
    · rw [if_pos e, if_pos (by omega)]; rfl
    · rw [if_neg e, if_neg (by omega)]
theorem sF_none : sF (fun _ => none) = fun _ => none := by funext k; unfold sF; split <;> rfl
/-- A tile that is near enough. -/
def GG (W tt nr : Nat) (u : Nat) : Bool := decide (far W u tt ≤ nr)
theorem gg_hh (W tt nr : Nat) : ∀ u, hh W tt nr u = 0 ↔ GG W tt nr u = true := fun u => by
  unfold hh GG; rw [decide_eq_true_eq]; omega
theorem wk_keep {w w' : World} {base gl : Nat} {v : Value} {Q : List Nat} (h : Wk w base gl v Q) (hs : w.heap.size ≤ w'.heap.size) (hk : ∀ k, v.ownBlock = some k → w'.heap[k]? = w.heap[k]?) : Wk w' base gl v Q := by
  refine ⟨fun k e => by have := h.1 k e; exact ⟨this.1, this.2.1, by omega⟩, h.2.imp id ?_⟩
  rintro ⟨g, o, cap, cur, rfl, hb, hh, r⟩
  exact ⟨g, o, cap, cur, rfl, hb, (hk g rfl).trans hh, r⟩
/-- The search: what has been counted, whose neighbours are still to be looked at (QB), what stands in the row (Q). -/
structure SQ (W H f tt nr SM gl : Nat) (free : Nat → Bool) (w5 : World) (s : Nat → Option Nat) (QB Q : List Nat) (wv : Value) (wr : World) : Prop where
  bf : Bf (nxt W H) free (GG W tt nr) f (W * H) s QB
  map : Map64.MapR wr SM (sF s)
  wk : Wk wr (SM + 1) gl wv Q
  ext : Ext w5 wr
  low : w5.heap.size ≤ SM
  bd : ∀ u k, s u = some k → k + unseen (W * H) s + 1 ≤ W * H
section
variable {W H f tt nr SM gl : Nat} {free : Nat → Bool} {w5 wr wx : World} {s : Nat → Option Nat} {QB Q : List Nat} {wv : Value}
theorem SQ.ext' (h : SQ W H f tt nr SM gl free w5 s QB Q wv wr) (e : Ext wr wx) : SQ W H f tt nr SM gl free w5 s QB Q wv wx :=
  ⟨h.bf, h.map.ext e, h.wk.ext e, ext_trans h.ext e, h.low, h.bd⟩
end
/-- The row of those that are still to be looked at, at first. -/
theorem wk_start {SM f : Nat} {w : World} (h : SM < w.heap.size) : Wk (w.alloc (.cells #[.int .i64 (f : Int)] 3)) (SM + 1) SM (.slice (some ⟨w.heap.size, 0, none⟩) 1 1) [f] := by
  refine ⟨fun k hk => ?_, .inr ⟨w.heap.size, 0, 1, _, rfl, h, heap_alloc_new w _, Nat.le_refl _, by unfold maxLen; omega, rfl, rfl⟩⟩
  obtain rfl := Option.some.inj hk
  exact ⟨h, by show w.heap.size ≠ SM; omega, by simp⟩
theorem unseen_le (P : Nat) (s : Nat → Option Nat) : unseen P s ≤ P := by
  unfold unseen; exact Nat.le_trans (List.countP_le_length) (by simp)
theorem unseen_start {P f : Nat} (hf : f < P) : unseen P (upd (fun _ => none) f 0) + 1 ≤ P := by
  have := unseen_upd (P := P) (s := fun _ => none) (k := 0) hf rfl
  have := unseen_le P (fun _ => none)
  omega
theorem bd_start {P f : Nat} (hf : f < P) : ∀ u k, upd (fun _ => none) f 0 u = some k → k + unseen P (upd (fun _ => none) f 0) + 1 ≤ P := fun u k h => by
  have := unseen_start hf
  unfold upd at h
  by_cases e : u = f
  · rw [if_pos e] at h; have := Option.some.inj h; omega
  · rw [if_neg e] at h; cases h
/-- What is kept at the head of each round: nothing was found yet, or something was. -/
def SO (W H f tt nr SM : Nat) (free : Nat → Bool) (w5 : World) (n : Nat) (wv lv : Value) (wr : World) : Prop :=
  n ≤ W * H + 1 ∧ ((∃ s Q, unseen (W * H) s + Q.length ≤ n ∧ lv = .int .i64 (-1) ∧ SQ W H f tt nr SM SM free w5 s Q Q wv wr) ∨
    ∃ s t Q0 k, Bf (nxt W H) free (GG W tt nr) f (W * H) s (t :: Q0) ∧ GG W tt nr t = true ∧ s t = some k ∧ lv = .int .i64 (k : Int) ∧ Ext w5 wr ∧ ∃ A m c, wv = .slice A m c)
/-- What is kept while the tiles next to one are looked at. -/
structure SI (W H f tt nr SM gl t st c j n : Nat) (free : Nat → Bool) (w5 : World) (s : Nat → Option Nat) (Q : List Nat) (wv : Value) (wr : World) : Prop where
  sq : SQ W H f tt nr SM gl free w5 s (t :: Q) Q wv wr
  st : s t = some st
  seen : ∀ k x, k < j → (nxt W H t)[k]? = some x → free x = true → (s x).isSome = true
  cnt : unseen (W * H) s + Q.length ≤ n
  row : Rw (SM + 1) wr (.slice (some ⟨gl, 0, none⟩) (nxt W H t).length c) (nxt W H t)
section
variable {W H f tt nr SM gl t st c j n x : Nat} {free : Nat → Bool} {w5 wr wx w' : World} {s : Nat → Option Nat} {Q : List Nat} {wv wv' : Value}
theorem SI.ext' (h : SI W H f tt nr SM gl t st c j n free w5 s Q wv wr) (e : Ext wr wx) : SI W H f tt nr SM gl t st c j n free w5 s Q wv wx :=
  ⟨h.sq.ext' e, h.st, h.seen, h.cnt, Rw.ext h.row e⟩
theorem SI.skip (h : SI W H f tt nr SM gl t st c j n free w5 s Q wv wr) (hx : (nxt W H t)[j]? = some x) (hs : free x = true → (s x).isSome = true) : SI W H f tt nr SM gl t st c (j + 1) n free w5 s Q wv wr :=
  ⟨h.sq, h.st, fun k y hk hy hf => by
    rcases Nat.lt_or_eq_of_le (Nat.le_of_lt_succ hk) with e | e
    · exact h.seen k y e hy hf
    · subst e; rw [hx] at hy; obtain rfl := Option.some.inj hy; exact hs hf, h.cnt, h.row⟩
theorem SI.put (h : SI W H f tt nr SM gl t st c j n free w5 s Q wv wr) (hx : (nxt W H t)[j]? = some x) (hf : free x = true) (hn : s x = none) (hxP : x < W * H) (hgs : gl ≠ SM)
    (hM : Map64.MapR w' SM (sF (upd s x (st + 1)))) (hg : wr.grownBy w' (some SM)) : Bf (nxt W H) free (GG W tt nr) f (W * H) (upd s x (st + 1)) (t :: (Q ++ [x])) ∧ Wk w' (SM + 1) gl wv Q ∧ Ext w5 w' ∧ Rw (SM + 1) w' (.slice (some ⟨gl, 0, none⟩) (nxt W H t).length c) (nxt W H t) := by
  have hb := h.sq.bf.step (List.mem_of_getElem? hx) hf hn hxP
  rw [h.st, Option.getD_some] at hb
  refine ⟨hb, wk_keep h.sq.wk hg.size (fun k hk => hg.block k (h.sq.wk.1 k hk).2.2 (fun e => by have := (h.sq.wk.1 k hk).1; have := Option.some.inj e; omega)), ext_grown h.sq.ext hg (fun k hk => by cases hk; exact h.sq.low), own_keep h.row (fun k hk => by cases hk; exact hg.block gl (World.ownsRow.lt h.row gl rfl).2 (fun e => hgs (Option.some.inj e)))⟩
theorem SI.more (h : SI W H f tt nr SM gl t st c j n free w5 s Q wv wr) (hx : (nxt W H t)[j]? = some x) (hn : s x = none) (hxP : x < W * H) (hb : Bf (nxt W H) free (GG W tt nr) f (W * H) (upd s x (st + 1)) (t :: (Q ++ [x]))) (hM : Map64.MapR w' SM (sF (upd s x (st + 1)))) (hw : Wk w' (SM + 1) gl wv' (Q ++ [x])) (he : Ext w5 w')
    (hr : Rw (SM + 1) w' (.slice (some ⟨gl, 0, none⟩) (nxt W H t).length c) (nxt W H t)) : SI W H f tt nr SM gl t st c (j + 1) n free w5 (upd s x (st + 1)) (Q ++ [x]) wv' w' := by
  have hne : ∀ u, (s u).isSome = true → u ≠ x := fun u h e => by rw [e, hn] at h; cases h
  have hold : ∀ u, (s u).isSome = true → upd s x (st + 1) u = s u := fun u h => if_neg (hne u h)
  have hlt := unseen_upd (k := st + 1) hxP hn
  have hbd : ∀ u k, upd s x (st + 1) u = some k → k + unseen (W * H) (upd s x (st + 1)) + 1 ≤ W * H := fun u k hk => by
    by_cases e : u = x
    · unfold upd at hk
      rw [if_pos e] at hk
      have := Option.some.inj hk
      have := h.sq.bd t st h.st
      omega
    · have hk' : s u = some k := by unfold upd at hk; rwa [if_neg e] at hk
      have := h.sq.bd u k hk'
      omega
  refine ⟨⟨hb, hM, hw, he, h.sq.low, hbd⟩, by rw [hold t (by rw [h.st]; rfl)]; exact h.st, fun k y hk hy hf => ?_, ?_, hr⟩
  · rcases Nat.lt_or_eq_of_le (Nat.le_of_lt_succ hk) with e | e
    · have := h.seen k y e hy hf
      rw [hold y this]; exact this
    · subst e; rw [hx] at hy; obtain rfl := Option.some.inj hy
      unfold upd; rw [if_pos rfl]; rfl
  · have := unseen_upd (k := st + 1) hxP hn
    have := h.cnt
    rw [List.length_append, List.length_singleton]; omega
end
end Go.Proofs.Ytmceaocknlnmpaa.Pth
