/- What turns besides the boxes and the bytes of the call's own. -/
import Derived.Test.YtodmjkhfckokhaaLzJ
import Derived.RangeFuncBox
import Derived.RangeFuncNested
namespace Go.Proofs.Ytodmjkhfckokhaa.Lz
open Go.ChangeShapes Go.WideShapes Go.ChangeAt Go.RowKit Go.Shelf
open Go.Proofs.Ytodmjkhfckokhaa.Wire Go.Proofs.Ytodmjkhfckokhaa.Map32
set_option linter.unusedVariables false

/-- Only two boxes have turned, and rows of bytes from base on. -/
structure Chg (base bt bo : Nat) (w w' : World) : Prop where
  os : w'.os = w.os
  tape : w'.tape = w.tape
  output : w'.output = w.output
  size : w.heap.size ≤ w'.heap.size
  block : ∀ k, k < w.heap.size → k ≠ bt → k ≠ bo → (k < base ∨ ∀ cs fr, w.heap[k]? ≠ some (Obj.cells cs 5 fr)) → w'.heap[k]? = w.heap[k]?
section
variable {base bt bo : Nat} {a b c w w' : World}
theorem Chg.refl (base bt bo : Nat) (w : World) : Chg base bt bo w w := ⟨rfl, rfl, rfl, Nat.le_refl _, fun _ _ _ _ _ => rfl⟩
theorem Chg.trans (h : Chg base bt bo a b) (k : Chg base bt bo b c) : Chg base bt bo a c :=
  ⟨k.os.trans h.os, k.tape.trans h.tape, k.output.trans h.output, Nat.le_trans h.size k.size, fun i hi h1 h2 h3 => by
    have e := h.block i hi h1 h2 h3
    refine (k.block i (Nat.lt_of_lt_of_le hi h.size) h1 h2 ?_).trans e
    rw [e]; exact h3⟩
theorem Chg.of_ext (e : Ext a b) : Chg base bt bo a b := ⟨e.os, e.tape, e.output, e.size, fun k hk _ _ _ => e.block k hk⟩
theorem own_cells {e : TypeId} {size n : Nat} {v : Value} {xs : List Value} (h : w.ownsRow base e size v n xs) : ∀ k, v.ownBlock = some k → base ≤ k ∧ ∃ cs fr, w.heap[k]? = some (Obj.cells cs e fr) := by
  intro k hk
  rcases h.2 with ⟨rfl, _⟩ | ⟨g, cap, cur, rfl, hb, hg, _⟩
  · cases hk
  · obtain rfl := Option.some.inj hk
    exact ⟨hb, cur, _, hg⟩
theorem Chg.of_row {v : Value} {n : Nat} {xs : List Value} (hr : a.ownsRow base 5 1 v n xs) (g : a.grownBy b v.ownBlock) : Chg base bt bo a b :=
  ⟨g.os, g.tape, g.output, g.size, fun k hk _ _ h => g.block k hk (fun e => by
    obtain ⟨h1, cs, fr, h2⟩ := own_cells hr k e.symm
    rcases h with h | h
    · omega
    · exact h cs fr h2)⟩
theorem Chg.of_set (B : Nat) (v : Value) (hB : B = bt ∨ B = bo) : Chg base bt bo a (a.setCell ⟨B, 0, none⟩ v) := by
  have g := grownBy_setCell' a B v
  exact ⟨g.os, g.tape, g.output, g.size, fun k hk h1 h2 _ => g.block k hk (fun e => by
    obtain rfl := Option.some.inj e
    rcases hB with h | h
    · exact h1 h
    · exact h2 h)⟩
/-- Nothing that was there has turned. -/
theorem Chg.old (h : Chg base bt bo b c) (e : Ext a b) (h1 : a.heap.size ≤ bt) (h2 : a.heap.size ≤ bo) (h3 : a.heap.size ≤ base) : Ext a c :=
  ⟨h.os.trans e.os, h.tape.trans e.tape, h.output.trans e.output, Nat.le_trans e.size h.size, fun k hk =>
    (h.block k (Nat.lt_of_lt_of_le hk e.size) (by omega) (by omega) (.inl (by omega))).trans (e.block k hk)⟩
theorem Chg.bs {A : Option Addr} {n : Nat} {xs : List Nat} (h : Chg base bt bo w w') (hB : Bs w A n xs) (hA : ∀ ad, A = some ad → ad.block < bt ∧ ad.block < bo ∧ ad.block < base) : Bs w' A n xs := by
  refine ⟨hB.1, hB.2.1, fun h0 => ?_⟩
  obtain ⟨g, o, rfl, hg, hc⟩ := hB.2.2 h0
  refine ⟨g, o, rfl, Nat.lt_of_lt_of_le hg h.size, fun j hj => ?_⟩
  obtain ⟨h1, h2, h3⟩ := hA _ rfl
  simp only at h1 h2 h3
  rw [← hc j hj]
  exact World.cell?_of_block (h.block g hg (by omega) (by omega) (.inl h3))
end
/-- The boxes told, out and b, and what stands in them. -/
structure Outs (w : World) (base bt bo bb told : Nat) (v sl : Value) (ys : List Nat) : Prop where
  t : Boxed w bt 3 (.int .i64 (told : Int))
  o : Boxed w bo 22 v
  b : Boxed w bb 22 sl
  r : w.ownsRow base 5 1 v ys.length (c8 ys)
/-- The boxes are apart, and lie below the rows. -/
def Apart (base bt bo bb : Nat) : Prop := bt ≠ bo ∧ bt ≠ bb ∧ bo ≠ bb ∧ bt < base ∧ bo < base ∧ bb < base
section
variable {w w' : World} {base bt bo bb told : Nat} {v sl : Value} {ys : List Nat}
theorem Outs.ext (h : Outs w base bt bo bb told v sl ys) (e : Ext w w') : Outs w' base bt bo bb told v sl ys :=
  ⟨(e.block _ h.t.lt).trans h.t, (e.block _ h.o.lt).trans h.o, (e.block _ h.b.lt).trans h.b, own_ext h.r e⟩
theorem Outs.keep (h : Outs w base bt bo bb told v sl ys) (hA : Apart base bt bo bb) (e : Keep base w w') : Outs w' base bt bo bb told v sl ys := by
  obtain ⟨_, _, _, h1, h2, h3⟩ := hA
  refine ⟨(e.low.block _ h1).trans h.t, (e.low.block _ h2).trans h.o, (e.low.block _ h3).trans h.b, ?_⟩
  rcases h.r with ⟨hl, hq | ⟨g, cap, cur, hv, hb, hg, hr⟩⟩
  · exact ⟨hl, .inl hq⟩
  · exact ⟨hl, .inr ⟨g, cap, cur, hv, hb, (e.rows g _ _ hg).trans hg, hr⟩⟩
theorem Groups.chg {b : Nat} {M : Nat → Option Value} {F : Nat → List Nat} (hG : Groups w base 3 b M F) (ht : bt < base) (ho : bo < base) (h : Chg base bt bo w w') : Groups w' base 3 b M F := by
  have key : ∀ k o, w.heap[k]? = some o → base ≤ k → (∀ cs fr, o ≠ Obj.cells cs 5 fr) → w'.heap[k]? = w.heap[k]? := by
    intro k o hk hb hne
    exact h.block k (Array.getElem?_eq_some_iff.1 hk).1 (by omega) (by omega) (.inr (fun cs fr e => by
      rw [hk] at e
      exact hne cs fr (Option.some.inj e)))
  obtain ⟨es, cl, L, hb, hE, hF⟩ := hG.map
  refine ⟨⟨es, cl, L, (key b _ hb hG.at_ (fun cs fr e => by cases e)).trans hb, hE, hF⟩, fun k => ?_, hG.apart, hG.at_⟩
  rcases hG.row k with h1 | ⟨u, h1, h2, h3⟩
  · exact .inl h1
  · refine .inr ⟨u, h1, h2, ?_⟩
    obtain ⟨g, o, cap, cur, rfl, hbg, hh, r⟩ := h3
    exact ⟨g, o, cap, cur, rfl, hbg, (key g _ hh hbg (fun cs fr e => by have := (Obj.cells.inj e).2.1; revert this; decide)).trans hh, r⟩
/-- Out becomes another row. -/
theorem Outs.put (h : Outs w base bt bo bb told v sl ys) (hA : Apart base bt bo bb) {w2 : World} {v' : Value} {zs : List Nat} (ho : w2.ownsRow base 5 1 v' zs.length (c8 zs)) (hgr : w.grownBy w2 v.ownBlock) :
    w2.cell? ⟨bo, 0, none⟩ = some v ∧ w2.frozen? ⟨bo, 0, none⟩ = false ∧ Outs (w2.setCell ⟨bo, 0, none⟩ v') base bt bo bb told v' sl zs := by
  obtain ⟨h1, h2, h3, h4, h5, h6⟩ := hA
  have nv : ∀ k, k < base → some k ≠ v.ownBlock := fun k hk e => by have := (own_cells h.r k e.symm).1; omega
  have nv' : ∀ k, k < base → v'.ownBlock ≠ some k := fun k hk e => by have := (own_cells ho k e).1; omega
  have o2 := h.o.kept hgr (nv _ h5)
  refine ⟨o2.cell, o2.frozen, ⟨(h.t.kept hgr (nv _ h4)).other h1 v', o2.set v', (h.b.kept hgr (nv _ h6)).other (Ne.symm h3) v', ho.kept (grownBy_setCell' w2 bo v') (.inr (nv' _ h5))⟩⟩
theorem Outs.still (h : Outs w base bt bo bb told v sl ys) (hA : Apart base bt bo bb) {w2 : World} (hgr : w.grownBy w2 v.ownBlock) : w2.cell? ⟨bt, 0, none⟩ = some (.int .i64 (told : Int)) ∧ w2.cell? ⟨bb, 0, none⟩ = some sl := by
  obtain ⟨h1, h2, h3, h4, h5, h6⟩ := hA
  have nv : ∀ k, k < base → some k ≠ v.ownBlock := fun k hk e => by have := (own_cells h.r k e.symm).1; omega
  exact ⟨(h.t.kept hgr (nv _ h4)).cell, (h.b.kept hgr (nv _ h6)).cell⟩
theorem Outs.tell (h : Outs w base bt bo bb told v sl ys) (hA : Apart base bt bo bb) {m : Int} {n : Nat} (hm : m = (n : Int)) : Outs (w.setCell ⟨bt, 0, none⟩ (.int .i64 m)) base bt bo bb n v sl ys := by
  subst hm
  obtain ⟨h1, h2, h3, h4, h5, h6⟩ := hA
  have nv' : ∀ k, k < base → v.ownBlock ≠ some k := fun k hk e => by have := (own_cells h.r k e).1; omega
  exact ⟨h.t.set _, h.o.other (Ne.symm h1) _, h.b.other (Ne.symm h2) _, h.r.kept (grownBy_setCell' w bt _) (.inr (nv' _ h4))⟩
end
end Go.Proofs.Ytodmjkhfckokhaa.Lz
