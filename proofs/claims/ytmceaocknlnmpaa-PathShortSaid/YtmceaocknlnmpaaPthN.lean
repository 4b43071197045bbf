/- Path: what a search knows, and what is done to it. -/
import Derived.Test.YtmceaocknlnmpaaPthL
import Derived.Test.YtmceaocknlnmpaaPthM
import Derived.Test.YtmceaocknlnmpaaP2
import Derived.Test.YtmceaocknlnmpaaP5
namespace Go.Proofs.Ytmceaocknlnmpaa.Pth
open Go.ChangeShapes Go.WideShapes Go.ChangeAt Go.RowKit
open Go.Proofs.Ytmceaocknlnmpaa.Rec Go.Proofs.Ytmceaocknlnmpaa.Grid
set_option linter.unusedVariables false
/-- How tiles were come to: from where, by how many steps. -/
abbrev Co := Nat → Option (Nat × Nat)
def cV (x : Nat × Nat) : Value := .agg #[.int .i64 (x.1 : Int), .int .i64 (x.2 : Int)]
def cF (C : Co) (k : Int) : Option Value := if k < 0 then none else (C k.toNat).map cV
def cput (C : Co) (t : Nat) (x : Nat × Nat) : Co := fun u => if u = t then some x else C u
theorem cF_at (C : Co) (t : Nat) : cF C (t : Int) = (C t).map cV := by
  unfold cF; rw [if_neg (by omega)]; rfl
theorem cF_put (C : Co) (t : Nat) (x : Nat × Nat) : (fun k => if k = (t : Int) then some (cV x) else cF C k) = cF (cput C t x) := by
  funext k
  unfold cF cput
  by_cases hk : k < 0
  · rw [if_pos hk, if_pos hk, if_neg (by omega)]
  · rw [if_neg hk, if_neg hk]
    by_cases e : k = (t : Int)
    · rw [if_pos e, if_pos (by omega)]; rfl
    · rw [if_neg e, if_neg (by omega)]
/-- A search in a world: its map, whom it asks who is busy, its goal; how tiles were come to, and which are open. -/
structure Se (base B M W H : Nat) (T : ByteArray) (bu : Value) (tv near : Int) (C : Co) (q : List Nd) (v : Value) (w : World) : Prop where
  blk : Blk w B 48 (sM W H T bu (.map (some M)) v tv near)
  own : OwnR base w 51 3 cNd v q
  map : Map64.MapR w M (cF C)
  heap : Heap q q.length
  base : base ≤ w.heap.size
section
variable {base B M W H : Nat} {T : ByteArray} {bu v v' : Value} {tv near : Int} {C C' : Co} {q q' : List Nd} {w w' w'' : World}
theorem map_off (hO : OwnR base w 51 3 cNd v q) {F : Int → Option Value} (hM : Map64.MapR w M F) : Off v M := fun e => by
  obtain ⟨es, cl, L, hb, _⟩ := hM
  rcases hO.2 with ⟨h', _⟩ | ⟨g', cap', cur, h', _, hg, _⟩
  · rw [h'] at e; simp [Value.ownBlock] at e
  · rw [h'] at e
    obtain rfl : g' = M := Option.some.inj e
    rw [hb] at hg
    simp at hg
theorem map_blk {t : TypeId} {cs : Array Value} (hB : Blk w B t cs) {F : Int → Option Value} (hM : Map64.MapR w M F) : M ≠ B := fun e => by
  obtain ⟨es, cl, L, hb, _⟩ := hM
  unfold Blk at hB
  rw [e, hB] at hb
  cases hb
theorem Se.off (h : Se base B M W H T bu tv near C q v w) : Off v M := map_off h.own h.map
theorem Se.offB (h : Se base B M W H T bu tv near C q v w) : Off v B := own_off h.own h.blk
theorem Se.ne (h : Se base B M W H T bu tv near C q v w) : M ≠ B := map_blk h.blk h.map
theorem Se.ext (h : Se base B M W H T bu tv near C q v w) (e : Ext w w') : Se base B M W H T bu tv near C q v w' :=
  ⟨h.blk.ext e, h.own.ext e, h.map.ext e, h.heap, Nat.le_trans h.base e.size⟩
theorem Se.hq (h : Se base B M W H T bu tv near C q v w) : Hq base B (.int .i64 (W : Int)) (.int .i64 (H : Int)) (.string T) bu (.int .i64 tv) (.int .i64 near) (.map (some M)) v q w := ⟨h.blk, h.own⟩
/-- The heap has turned. -/
theorem Se.turn (h : Se base B M W H T bu tv near C q v w) (hq : Hq base B (.int .i64 (W : Int)) (.int .i64 (H : Int)) (.string T) bu (.int .i64 tv) (.int .i64 near) (.map (some M)) v' q' w') (hh : Heap q' q'.length) (hs : HS w w' B v v') : Se base B M W H T bu tv near C q' v' w' :=
  ⟨hq.1, hq.2, h.map.blk (hs.block M h.map.lt h.ne h.off), hh, Nat.le_trans h.base hs.size⟩
/-- A tile was come to. -/
theorem Se.put (h : Se base B M W H T bu tv near C q v w) (hm : Map64.MapR w' M (cF C')) (hg : w.grownBy w' (some M)) : Se base B M W H T bu tv near C' q v w' := by
  refine ⟨(hg.block B h.blk.lt (fun e => h.ne (Option.some.inj e).symm)).trans h.blk, World.ownsRow.kept h.own hg (.inr fun e => h.off e), hm, h.heap, Nat.le_trans h.base hg.size⟩
/-- What is done to a search: its own blocks alone have changed. -/
structure SR (w w' : World) (B M : Nat) (v v' : Value) : Prop where
  os : w'.os = w.os
  tape : w'.tape = w.tape
  output : w'.output = w.output
  size : w.heap.size ≤ w'.heap.size
  block : ∀ b, b < w.heap.size → b ≠ B → b ≠ M → Off v b → w'.heap[b]? = w.heap[b]?
  own : v'.ownBlock = v.ownBlock ∨ ∀ k, v'.ownBlock = some k → w.heap.size ≤ k
theorem SR.off {b : Nat} (h : SR w w' B M v v') (ho : Off v b) (hb : b < w.heap.size) : Off v' b := by
  rcases h.own with h1 | h1
  · unfold Off; rw [h1]; exact ho
  · intro e; have := h1 b e; omega
theorem SR.trans {v'' : Value} (h : SR w w' B M v v') (k : SR w' w'' B M v' v'') : SR w w'' B M v v'' := by
  refine ⟨k.os.trans h.os, k.tape.trans h.tape, k.output.trans h.output, Nat.le_trans h.size k.size, fun i hi hne hm ho => (k.block i (Nat.lt_of_lt_of_le hi h.size) hne hm (h.off ho hi)).trans (h.block i hi hne hm ho), ?_⟩
  rcases k.own with e | e
  · rw [e]; exact h.own
  · exact .inr fun i hi => Nat.le_trans h.size (e i hi)
theorem SR.ext (h : Ext w w') (B M : Nat) (v : Value) : SR w w' B M v v := ⟨h.os, h.tape, h.output, h.size, fun i hi _ _ _ => h.block i hi, .inl rfl⟩
theorem SR.hs (h : HS w w' B v v') (M : Nat) : SR w w' B M v v' := ⟨h.os, h.tape, h.output, h.size, fun i hi hne _ ho => h.block i hi hne ho, h.own⟩
theorem SR.put (h : w.grownBy w' (some M)) (B : Nat) (v : Value) : SR w w' B M v v := ⟨h.os, h.tape, h.output, h.size, fun i hi _ hm _ => h.block i hi (fun e => hm (Option.some.inj e)), .inl rfl⟩
/-- What was there ahead of the search stays as it was. -/
theorem SR.below (h : SR w w' B M v v') {w0 : World} (e : Ext w0 w) (hB : w0.heap.size ≤ B) (hM : w0.heap.size ≤ M) (hv : ∀ k, v.ownBlock = some k → w0.heap.size ≤ k) : Ext w0 w' :=
  ⟨h.os.trans e.os, h.tape.trans e.tape, h.output.trans e.output, Nat.le_trans e.size h.size, fun b hb => (h.block b (Nat.lt_of_lt_of_le hb e.size) (by omega) (by omega) (fun e' => by have := hv b e'; omega)).trans (e.block b hb)⟩
/-- Another block has turned. -/
theorem SR.new {w2 : World} {k : Nat} (h : SR w w' B M v v') (hg : w'.grownBy w2 (some k)) (hk : w.heap.size ≤ k) : SR w w2 B M v v' :=
  ⟨hg.os.trans h.os, hg.tape.trans h.tape, hg.output.trans h.output, Nat.le_trans h.size hg.size, fun i hi hne hm ho => (hg.block i (Nat.lt_of_lt_of_le hi h.size) (fun e => by have := Option.some.inj e; omega)).trans (h.block i hi hne hm ho), h.own⟩
theorem Se.far (h : Se base B M W H T bu tv near C q v w) {k : Nat} (hg : w.grownBy w' (some k)) (hB : k ≠ B) (hM : k ≠ M) (hv : Off v k) : Se base B M W H T bu tv near C q v w' :=
  ⟨(hg.block B h.blk.lt (fun e => hB (Option.some.inj e).symm)).trans h.blk, World.ownsRow.kept h.own hg (.inr fun e => hv e), h.map.blk (hg.block M h.map.lt (fun e => hM (Option.some.inj e).symm)), h.heap, Nat.le_trans h.base hg.size⟩
theorem set_grown (w : World) (k i : Nat) (u : Value) : w.grownBy (w.setCell ⟨k, i, none⟩ u) (some k) :=
  ⟨rfl, rfl, rfl, by simp [World.setCell], fun j _ hj => Below.heap_setCell w ⟨k, i, none⟩ u j (fun e => hj (by rw [e]))⟩
theorem Se.own_ge (h : Se base B M W H T bu tv near C q v w) : ∀ k, v.ownBlock = some k → base ≤ k := fun k hk => (World.ownsRow.lt h.own k hk).1
end
/-- A tile is opened, unless it was come to by as few steps already, or is not free. -/
def skip (C : Co) (free : Nat → Bool) (x g : Nat) : Prop := (∃ a, C x = some a ∧ a.2 ≤ g) ∨ 0 < g ∧ free x = false
def Rch (C : Co) (q : List Nd) (free : Nat → Bool) (h : Nat → Nat) (x fr g : Nat) (C' : Co) (q' : List Nd) : Prop :=
  (skip C free x g ∧ C' = C ∧ q' = q) ∨ (¬ skip C free x g ∧ C' = cput C x (fr, g) ∧ q'.Perm ((x, g, h x) :: q))
end Go.Proofs.Ytmceaocknlnmpaa.Pth
