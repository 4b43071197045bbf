/- What turns besides the boxes and the bytes of the call's own. -/
import Derived.Test.YtckjmabacibojaaDoorGD
import Derived.RangeFuncBox
import Derived.RangeFuncNested
import Derived.Test.YtckjmabacibojaaDoorGA
import Derived.RangeFuncCalls
import Derived.RangeFuncLeaves
import Derived.OwnWalkIn
import Derived.OrdersHeld
import Derived.Deep.RegionHeld
import Derived.Deep.DeepCutAuto
namespace Go.Proofs.YtckjmabacibojaaDoor.Lz
open Go.ChangeShapes Go.WideShapes Go.ChangeAt Go.RowKit Go.Shelf
open Go.Proofs.YtckjmabacibojaaDoor.Wire Go.Proofs.YtckjmabacibojaaDoor.Map32
set_option linter.unusedVariables false

/-- Only two boxes have turned, and rows of bytes from base on. -/
structure Chg (base bt bo : Nat) (w w' : World) : Prop where
  os : w'.os = w.os
  tape : w'.tape = w.tape
  output : w'.output = w.output
  size : w.heap.size ≤ w'.heap.size
  block : ∀ k, k < w.heap.size → k ≠ bt → k ≠ bo → (k < base ∨ ∀ cs fr, w.heap[k]? ≠ some (Obj.cells cs 5 fr)) → w'.heap[k]? = w.heap[k]?
section
variable {base bt bo : Nat} {a b c w w' : World}
theorem Chg.refl (base bt bo : Nat) (w : World) : Chg base bt bo w w := ⟨rfl, rfl, rfl, Nat.le_refl _, fun _ _ _ _ _ => rfl⟩
theorem Chg.trans (h : Chg base bt bo a b) (k : Chg base bt bo b c) : Chg base bt bo a c :=
  ⟨k.os.trans h.os, k.tape.trans h.tape, k.output.trans h.output, Nat.le_trans h.size k.size, fun i hi h1 h2 h3 => by
    have e := h.block i hi h1 h2 h3
    refine (k.block i (Nat.lt_of_lt_of_le hi h.size) h1 h2 ?_).trans e
    rw [e]; exact h3⟩
theorem Chg.of_ext (e : Ext a b) : Chg base bt bo a b := ⟨e.os, e.tape, e.output, e.size, fun k hk _ _ _ => e.block k hk⟩
theorem own_cells {e : TypeId} {size n : Nat} {v : Value} {xs : List Value} (h : w.ownsRow base e size v n xs) : ∀ k, v.ownBlock = some k → base ≤ k ∧ ∃ cs fr, w.heap[k]? = some (Obj.cells cs e fr) := by
  intro k hk
  rcases h.2 with ⟨rfl, _⟩ | ⟨g, cap, cur, rfl, hb, hg, _⟩
  · cases hk
  · obtain rfl := Option.some.inj hk
    exact ⟨hb, cur, _, hg⟩
theorem Chg.of_row {v : Value} {n : Nat} {xs : List Value} (hr : a.ownsRow base 5 1 v n xs) (g : a.grownBy b v.ownBlock) : Chg base bt bo a b :=
  ⟨g.os, g.tape, g.output, g.size, fun k hk _ _ h => g.block k hk (fun e => by
    obtain ⟨h1, cs, fr, h2⟩ := own_cells hr k e.symm
    rcases h with h | h
    · omega
    · exact h cs fr h2)⟩
theorem Chg.of_set (B : Nat) (v : Value) (hB : B = bt ∨ B = bo) : Chg base bt bo a (a.setCell ⟨B, 0, none⟩ v) := by
  have g := grownBy_setCell' a B v
  exact ⟨g.os, g.tape, g.output, g.size, fun k hk h1 h2 _ => g.block k hk (fun e => by
    obtain rfl := Option.some.inj e
    rcases hB with h | h
    · exact h1 h
    · exact h2 h)⟩
/-- Nothing that was there has turned. -/
theorem Chg.old (h : Chg base bt bo b c) (e : Ext a b) (h1 : a.heap.size ≤ bt) (h2 : a.heap.size ≤ bo) (h3 : a.heap.size ≤ base) : Ext a c :=
  ⟨h.os.trans e.os, h.tape.trans e.tape, h.output.trans e.output, Nat.le_trans e.size h.size, fun k hk =>
    (h.block k (Nat.lt_of_lt_of_le hk e.size) (by omega) (by omega) (.inl (by omega))).trans (e.block k hk)⟩
theorem Chg.bs {A : Option Addr} {n : Nat} {xs : List Nat} (h : Chg base bt bo w w') (hB : Bs w A n xs) (hA : ∀ ad, A = some ad → ad.block < bt ∧ ad.block < bo ∧ ad.block < base) : Bs w' A n xs := by
  refine ⟨hB.1, hB.2.1, fun h0 => ?_⟩
  obtain ⟨g, o, rfl, hg, hc⟩ := hB.2.2 h0
  refine ⟨g, o, rfl, Nat.lt_of_lt_of_le hg h.size, fun j hj => ?_⟩
  obtain ⟨h1, h2, h3⟩ := hA _ rfl
  simp only at h1 h2 h3
  rw [← hc j hj]
  exact World.cell?_of_block (h.block g hg (by omega) (by omega) (.inl h3))
end
/-- The boxes told, out and b, and what stands in them. -/
structure Outs (w : World) (base bt bo bb told : Nat) (v sl : Value) (ys : List Nat) : Prop where
  t : Boxed w bt 3 (.int .i64 (told : Int))
  o : Boxed w bo 22 v
  b : Boxed w bb 22 sl
  r : w.ownsRow base 5 1 v ys.length (c8 ys)
/-- The boxes are apart, and lie below the rows. -/
def Apart (base bt bo bb : Nat) : Prop := bt ≠ bo ∧ bt ≠ bb ∧ bo ≠ bb ∧ bt < base ∧ bo < base ∧ bb < base
section
variable {w w' : World} {base bt bo bb told : Nat} {v sl : Value} {ys : List Nat}
theorem Outs.ext (h : Outs w base bt bo bb told v sl ys) (e : Ext w w') : Outs w' base bt bo bb told v sl ys :=
  ⟨(e.block _ h.t.lt).trans h.t, (e.block _ h.o.lt).trans h.o, (e.block _ h.b.lt).trans h.b, own_ext h.r e⟩
theorem Outs.keep (h : Outs w base bt bo bb told v sl ys) (hA : Apart base bt bo bb) (e : Keep base w w') : Outs w' base bt bo bb told v sl ys := by
  obtain ⟨_, _, _, h1, h2, h3⟩ := hA
  refine ⟨(e.low.block _ h1).trans h.t, (e.low.block _ h2).trans h.o, (e.low.block _ h3).trans h.b, ?_⟩
  rcases h.r with ⟨hl, hq | ⟨g, cap, cur, hv, hb, hg, hr⟩⟩
  · exact ⟨hl, .inl hq⟩
  · exact ⟨hl, .inr ⟨g, cap, cur, hv, hb, (e.rows g _ _ hg).trans hg, hr⟩⟩
theorem Groups.chg {b : Nat} {M : Nat → Option Value} {F : Nat → List Nat} (hG : Groups w base 3 b M F) (ht : bt < base) (ho : bo < base) (h : Chg base bt bo w w') : Groups w' base 3 b M F := by
  have key : ∀ k o, w.heap[k]? = some o → base ≤ k → (∀ cs fr, o ≠ Obj.cells cs 5 fr) → w'.heap[k]? = w.heap[k]? := by
    intro k o hk hb hne
    exact h.block k (Array.getElem?_eq_some_iff.1 hk).1 (by omega) (by omega) (.inr (fun cs fr e => by
      rw [hk] at e
      exact hne cs fr (Option.some.inj e)))
  obtain ⟨es, cl, L, hb, hE, hF⟩ := hG.map
  refine ⟨⟨es, cl, L, (key b _ hb hG.at_ (fun cs fr e => by cases e)).trans hb, hE, hF⟩, fun k => ?_, hG.apart, hG.at_⟩
  rcases hG.row k with h1 | ⟨u, h1, h2, h3⟩
  · exact .inl h1
  · refine .inr ⟨u, h1, h2, ?_⟩
    obtain ⟨g, o, cap, cur, rfl, hbg, hh, r⟩ := h3
    exact ⟨g, o, cap, cur, rfl, hbg, (key g _ hh hbg (fun cs fr e => by have := (Obj.cells.inj e).2.1; revert this; decide)).trans hh, r⟩
/-- Out becomes another row. -/
theorem Outs.put (h : Outs w base bt bo bb told v sl ys) (hA : Apart base bt bo bb) {w2 : World} {v' : Value} {zs : List Nat} (ho : w2.ownsRow base 5 1 v' zs.length (c8 zs)) (hgr : w.grownBy w2 v.ownBlock) :
    w2.cell? ⟨bo, 0, none⟩ = some v ∧ w2.frozen? ⟨bo, 0, none⟩ = false ∧ Outs (w2.setCell ⟨bo, 0, none⟩ v') base bt bo bb told v' sl zs := by
  obtain ⟨h1, h2, h3, h4, h5, h6⟩ := hA
  have nv : ∀ k, k < base → some k ≠ v.ownBlock := fun k hk e => by have := (own_cells h.r k e.symm).1; omega
  have nv' : ∀ k, k < base → v'.ownBlock ≠ some k := fun k hk e => by have := (own_cells ho k e).1; omega
  have o2 := h.o.kept hgr (nv _ h5)
  refine ⟨o2.cell, o2.frozen, ⟨(h.t.kept hgr (nv _ h4)).other h1 v', o2.set v', (h.b.kept hgr (nv _ h6)).other (Ne.symm h3) v', ho.kept (grownBy_setCell' w2 bo v') (.inr (nv' _ h5))⟩⟩
theorem Outs.still (h : Outs w base bt bo bb told v sl ys) (hA : Apart base bt bo bb) {w2 : World} (hgr : w.grownBy w2 v.ownBlock) : w2.cell? ⟨bt, 0, none⟩ = some (.int .i64 (told : Int)) ∧ w2.cell? ⟨bb, 0, none⟩ = some sl := by
  obtain ⟨h1, h2, h3, h4, h5, h6⟩ := hA
  have nv : ∀ k, k < base → some k ≠ v.ownBlock := fun k hk e => by have := (own_cells h.r k e.symm).1; omega
  exact ⟨(h.t.kept hgr (nv _ h4)).cell, (h.b.kept hgr (nv _ h6)).cell⟩
theorem Outs.tell (h : Outs w base bt bo bb told v sl ys) (hA : Apart base bt bo bb) {m : Int} {n : Nat} (hm : m = (n : Int)) : Outs (w.setCell ⟨bt, 0, none⟩ (.int .i64 m)) base bt bo bb n v sl ys := by
  subst hm
  obtain ⟨h1, h2, h3, h4, h5, h6⟩ := hA
  have nv' : ∀ k, k < base → v.ownBlock ≠ some k := fun k hk e => by have := (own_cells h.r k e).1; omega
  exact ⟨h.t.set _, h.o.other (Ne.symm h1) _, h.b.other (Ne.symm h2) _, h.r.kept (grownBy_setCell' w bt _) (.inr (nv' _ h4))⟩
end
end Go.Proofs.YtckjmabacibojaaDoor.Lz
namespace Go.Proofs.YtckjmabacibojaaDoor
open Go.ChangeShapes Go.WideShapes Go.ChangeAt Go.RowKit
set_option linter.unusedVariables false
/-- Normally left alone. -/
def Plainly (K : Act → World → Prop) : Exit → Act → World → Prop
  | .normal, a, w => K a w
  | _, _, _ => False
theorem plainly_in (K : Act → World → Prop) : ¬ LetsOut (Plainly K) := fun ⟨_, _, h⟩ => h
def noDefer (ops : Array Oper) : Bool := ops.all fun o => match o.op with | .defer _ => false | _ => true
theorem noDefer_at {ops : Array Oper} (h : noDefer ops = true) {i : Nat} {o : Oper} (ho : ops[i]? = some o) : ∀ c, o.op ≠ .defer c := fun c e => by
  have h1 := Array.all_eq_true.1 h i (Array.getElem?_eq_some_iff.1 ho).1
  rw [(Array.getElem?_eq_some_iff.1 ho).2, e] at h1
  cases h1
section
variable {n : Nat} {P : Program} {l : Nat} {ops : Array Oper} {K : Act → World → Prop}
theorem rowsIn_of {n : Nat} {row : String} {args : Array Value} {w : World} {R : Value → World → Prop} (h : Rows P row args w R) : RowsIn (Fence.wide.inRound l) n P row args w R :=
  fun c cs _ => let ⟨v, w', r, s⟩ := h c cs; ⟨v, w', r, stepsIn_wide.2 s⟩
theorem opIn_of {o : Oper} {a : Act} {w : World} {K' : Act → World → Prop} (hd : ∀ c, o.op ≠ .defer c) (h : o.wp P a w K' (Plainly K)) : o.wpIn (Fence.wide.inRound l) n P a w K' (Plainly K) := by
  unfold Oper.wp at h
  unfold Oper.wpIn
  refine ⟨fun f _ => trivial, ?_⟩
  rw [Oper.semAt_plain _ _ _ hd]
  generalize (execOp a.eval o).run P w = r at *
  cases r with
  | ok x w' =>
    cases x <;> simp only [Oper.upon, Oper.uponIn] at h ⊢ <;>
      first
        | exact h
        | exact ⟨fun e => (by cases e), CallsIn.inRound l (callsIn_wide.2 (Calls.mono h (fun e w'' he => by cases e <;> exact he)))⟩
        | exact ⟨fun e => (by cases e), rowsIn_of h⟩
  | halt x w' => cases x <;> simp only [Oper.upon, Oper.uponIn] at h ⊢ <;> exact h
theorem wpOpIn_of (hnd : noDefer ops = true) {i : Nat} {K' K2 : Act → World → Prop} {a : Act} {w : World} (h : wpOp P ops (Plainly K) i K' a w) (hk : ∀ a w, K' a w → K2 a w) : wpOpIn (Fence.wide.inRound l) n P ops (Plainly K) i K2 a w := by
  have h := wpOp_mono hk h
  unfold wpOp at h
  unfold wpOpIn
  cases ho : ops[i]? with
  | none => simpa [ho] using h
  | some o =>
    simp only [ho] at h ⊢
    split
    · rename_i hw
      simp only [hw, if_true] at h
      rcases h with h | ⟨_, h⟩
      · exact opIn_of (noDefer_at hnd ho) h
      · exact (plainly_in K h).elim
    · rename_i hw
      simp only [hw] at h
      exact ⟨fun f _ => trivial, h⟩
theorem wpAnyIn_of (hnd : noDefer ops = true) {md : Region.Mode} : ∀ (fuel : Nat) (listed : Array Bool) (a : Act) (w : World), wpAny P md ops (Plainly K) fuel listed a w → wpAnyIn (Fence.wide.inRound l) n P md ops (Plainly K) fuel listed a w
  | 0, _, _, _, h => h
  | fuel + 1, _, _, _, h => ⟨h.1, fun i hi => wpOpIn_of hnd (h.2 i hi) (fun a' w' h' => wpAnyIn_of hnd fuel _ a' w' h')⟩
theorem wpListIn_of (hnd : noDefer ops = true) : ∀ (rest : List Oper) (a : Act) (w : World), (∀ o ∈ rest, ∀ c, o.op ≠ .defer c) → wpList P ops (Plainly K) rest a w → wpListIn (Fence.wide.inRound l) n P ops (Plainly K) rest a w
  | [], _, _, _, h => h
  | o :: rest, a, w, hr, h => by
    unfold wpList at h
    unfold wpListIn
    split
    · rename_i hw
      simp only [hw, if_true] at h
      rcases h with h | ⟨_, h⟩
      · exact Oper.wpIn_mono (fun a' w' h' => wpListIn_of hnd rest a' w' (fun o ho => hr o (List.mem_cons_of_mem _ ho)) h') (opIn_of (hr o List.mem_cons_self) h)
      · exact (plainly_in K h).elim
    · rename_i hw
      simp only [hw] at h
      exact ⟨fun f _ => trivial, wpListIn_of hnd rest _ _ (fun o ho => hr o (List.mem_cons_of_mem _ ho)) h⟩
theorem plainly_mono {F : Fence} {c : Code} {a : Act} {w : World} {Q' : Exit → Act → World → Prop} (h : c.wpIn F n P (Plainly K) a w) : c.wpIn F n P (Exit.then K Q') a w :=
  wpIn_mono h fun e a w hq => by cases e <;> first | exact hq | exact hq.elim
/-- A region that draws its order, in a round: each operation as everywhere. -/
theorem region_round {id : Nat} {a : Act} {w : World} {Q' : Exit → Act → World → Prop} {S : World → Prop} {os : List Oper} (hm : P.follows .mixedOrders = true) (hnd : noDefer os.toArray = true)
    (h : wpAnyH P .any os.toArray (Plainly K) S os.toArray.size (Array.replicate os.toArray.size false) a w.drew) : (Code.region id os.toArray true).wpIn (Fence.wide.inRound l) n P (Exit.then K Q') a w :=
  plainly_mono (wpIn_region_any hm (wpAnyIn_of hnd _ _ _ _ (wpAny_of_held _ _ _ _ h)))
/-- One that does not. -/
theorem region_list_round {id : Nat} {a : Act} {w : World} {Q' : Exit → Act → World → Prop} {os : List Oper} (hnd : noDefer os.toArray = true)
    (h : wpList P os.toArray (Plainly K) os a w) : (Code.region id os.toArray false).wpIn (Fence.wide.inRound l) n P (Exit.then K Q') a w :=
  plainly_mono (wpIn_region_lit (wpListIn_of hnd _ _ _ (fun o ho => by obtain ⟨i, hi⟩ := List.getElem?_of_mem ho; exact noDefer_at hnd (i := i) (by simpa using hi)) h))
/-- An append, as one operation of a region. -/
theorem wanted_append {w : World} {o : Oper} {a : Act} {K' : Act → World → Prop} {Q : Exit → Act → World → Prop} {y : Nat → Option Bool} {X : Prop} (hgd : o.guard = none) (s x : Operand) (t tx : TypeId)
    (ho : o.op = .call { callee := .builtin .append, args := #[s, x], argTypes := #[t, tx] }) (vs vx : Value) (hs : a.eval s = vs) (hx : a.eval x = vx) {v' : Value} {w' : World}
    (hr : (Builtin.append_ #[t, tx] o.type #[vs, vx]).run P w = .ok v' w') (h : K' (a.put o.dst v') w') : if Region.wanted o y = true then Oper.wp P o a w K' Q else X := by
  rw [if_pos (by simp [Region.wanted, hgd])]
  unfold Oper.wp execOp
  simp only [ho, resolve, invoke, builtin, Sem.run_bind, Sem.run_pure, Result.andThen_ok, List.map_toArray, List.map_cons, List.map_nil, hs, hx, hr]
  exact h
end
end Go.Proofs.YtckjmabacibojaaDoor
namespace Go.Proofs.YtckjmabacibojaaDoor.Lz
open Go.ChangeShapes Go.WideShapes Go.ChangeAt Go.RowKit Go.Shelf
open Go.Proofs.YtckjmabacibojaaDoor.Wire Go.Proofs.YtckjmabacibojaaDoor.Map32
set_option linter.unusedVariables false

/-- What putRuns comes to. -/
def PutR (w : World) (G up : Nat) (sl : Value) (zs : List Nat) (w' : World) : Prop :=
  ∃ v', Outs w' (G + 3) (G + 2) (G + 1) G up v' sl zs ∧ Chg (G + 3) (G + 2) (G + 1) w w'
def RunRel (w : World) (G up told : Nat) (sl : Value) (xs ys : List Nat) (wr : World) : Prop :=
  ∃ (t : Nat) (v : Value) (zs : List Nat), told ≤ t ∧ t ≤ up ∧ Outs wr (G + 3) (G + 2) (G + 1) G t v sl zs ∧ zs ++ litT ((xs.drop t).take (up - t)) = ys ++ litT ((xs.drop told).take (up - told)) ∧ Chg (G + 3) (G + 2) (G + 1) w wr
theorem lit_cut {xs : List Nat} {t up n : Nat} (ht : t < up) (hto : up ≤ xs.length) (hn : n = min 64 (up - t)) :
    litT ((xs.drop t).take (up - t)) = (2 * (n - 1)) :: ((xs.drop t).take n ++ litT ((xs.drop (t + n)).take (up - (t + n)))) := by
  have hl : ((xs.drop t).take (up - t)).length = up - t := by rw [List.length_take, List.length_drop]; omega
  rw [litT_step (by omega), hl, ← hn, List.take_take, show min n (up - t) = n from by omega, List.drop_take, List.drop_drop, show up - t - n = up - (t + n) from by omega]
theorem apart_of (G : Nat) : Apart (G + 3) (G + 2) (G + 1) G := ⟨by omega, by omega, by omega, by omega, by omega, by omega⟩
def SR (G t : Nat) (sl : Value) (w : World) : Prop := w.cell? ⟨G + 2, 0, none⟩ = some (.int .i64 (t : Int)) ∧ w.cell? ⟨G, 0, none⟩ = some sl
theorem hmx : Tryd.prog.follows .mixedOrders = true := by kernel_rfl
/-- A part of a slice that reads as bytes. -/
theorem bs_part {w : World} {g o n : Nat} {xs : List Nat} (h : Bs w (some ⟨g, o, none⟩) n xs) (a m : Nat) (ham : a + m ≤ n) : Bs w (some ⟨g, o + a, none⟩) m ((xs.drop a).take m) := by
  have hl := h.1
  refine ⟨by rw [List.length_take, List.length_drop]; omega, fun j => ?_, fun hp => ?_⟩
  · rcases Nat.lt_or_ge j m with hj | hj
    · rw [List.getD_eq_getElem?_getD, List.getElem?_take_of_lt hj, List.getElem?_drop, ← List.getD_eq_getElem?_getD]; exact h.2.1 _
    · rw [List.getD_eq_getElem?_getD, List.getElem?_eq_none (by rw [List.length_take]; omega)]; simp
  · obtain ⟨b, o', he, hlt, hc⟩ := h.2.2 (by omega)
    obtain ⟨rfl, rfl⟩ : b = g ∧ o' = o := by cases he; exact ⟨rfl, rfl⟩
    refine ⟨b, o' + a, rfl, hlt, fun j hj => ?_⟩
    have := hc (a + j) (by omega)
    rw [← Nat.add_assoc] at this
    rw [this, List.getD_eq_getElem?_getD, List.getD_eq_getElem?_getD, List.getElem?_take_of_lt hj, List.getElem?_drop]
set_option maxHeartbeats 4000000 in
set_option maxRecDepth 100000 in
theorem putRuns (G N c told up : Nat) (A : Option Addr) (xs ys : List Nat) (v : Value) (w : World) (hB : Bs w A N xs) (hAd : 0 < N → ∀ ad, A = some ad → ad.block < G) (hN : N ≤ 1000000) (hc1 : N ≤ c) (hc2 : c ≤ 9223372036854775807) (hO : Outs w (G + 3) (G + 2) (G + 1) G told v (.slice A N c) ys) (ht : told ≤ up) (hto : up ≤ N) (hyl : ys.length ≤ 100000000) :
    Calls Tryd.prog 27 #[.int .i64 (up : Int), .pointer (some ⟨G + 2, 0, none⟩), .pointer (some ⟨G + 1, 0, none⟩), .pointer (some ⟨G, 0, none⟩)] w fun e w' => e = .returned (.tuple #[]) ∧ PutR w G up (.slice A N c) (ys ++ litT ((xs.drop told).take (up - told))) w' := by
  have hxl : xs.length = N := hB.1
  have HB := Lib.hid hB; have HAD := Lib.hid hAd; have HO := Lib.hid hO; have HXL := Lib.hid hxl
  have HAP := Lib.hid (apart_of G)
  have hlt0 := litT_len _ ((xs.drop told).take (up - told)) rfl
  have hlt1 : ((xs.drop told).take (up - told)).length ≤ 1000000 := by rw [List.length_take, List.length_drop]; omega
  obtain ⟨R, hR⟩ : ∃ R, R = ys ++ litT ((xs.drop told).take (up - told)) := ⟨_, rfl⟩
  have hRl : R.length ≤ 110000000 := by rw [hR, List.length_append]; omega
  have HR := Lib.hid hR
  rw [← hR]
  obtain ⟨i0, hi0, hz0, hz1, hz2⟩ := info_parts info8
  have HI := Lib.hid (And.intro hi0 (And.intro hz0 (And.intro hz1 hz2))); clear hi0 hz0 hz1 hz2
  clear hB hAd hO hxl hlt0 hlt1 hR
  go_enter Tryd.func27, Tryd.ntmps27
  go_wp2_with fail
  go_loopw [5] (fun _ wr => RunRel w G up told (.slice A N c) xs ys wr) (fun _ wr => up - (intOf ((wr.cell? ⟨G + 2, 0, none⟩).getD undef)).toNat)
  case atStart => exact ⟨told, v, ys, Nat.le_refl _, ht, HO.out, rfl, Chg.refl _ _ _ _⟩
  case round =>
    obtain ⟨t, u, zs, ht1, ht2, hO, hE, hC⟩ := hrel
    rw [← HR.out] at hE
    have c0 := hO.t.cell; have c1 := hO.o.cell; have c2 := hO.b.cell
    have f0 := hO.t.frozen; have f1 := hO.o.frozen
    have HO := Lib.hid hO; have HE := Lib.hid hE; have HC := Lib.hid hC
    clear hO hE hC
    by_cases hlt : t < up
    · obtain ⟨n, hn⟩ : ∃ n, n = min 64 (up - t) := ⟨_, rfl⟩
      have hn1 : 1 ≤ n := by omega
      have hn2 : n ≤ 64 := by omega
      have hn3 : t + n ≤ up := by omega
      have HCUT := Lib.hid (lit_cut (xs := xs) hlt (by rw [HXL.out]; exact hto) hn)
      have z0 : (t : Int) < (up : Int) := by omega
      go_upto_region 1 with fail
      go_cut [5] (fun nv wx => nv = .int .i64 (n : Int) ∧ wr = wx)
      case first =>
        by_cases hm : up - t ≤ 64
        · have hm1 : (up : Int) - (t : Int) ≤ 64 := by omega
          go_wp2_with fail
          go_meet
          exact ⟨int_eq (by omega), rfl⟩
        · have hm1 : ¬ (up : Int) - (t : Int) ≤ 64 := by omega
          go_wp2_with fail
          go_meet
          exact ⟨int_eq (by omega), rfl⟩
      case rest =>
      obtain ⟨rfl, rfl⟩ := hcut
      have HN := Lib.hid hn; clear hn
      have hzl : zs.length ≤ 110000000 := by
        have e := congrArg List.length HE.out
        rw [List.length_append] at e
        omega
      obtain ⟨m, hm⟩ : ∃ m, m = 2 * (n - 1) := ⟨_, rfl⟩
      have q0 : (2 : Int) * ((n : Int) - 1) = (m : Int) := by omega
      have hm1 : m ≤ 126 := by omega
      have HM := Lib.hid hm; clear hm
      have HO1 := Lib.hid (HO.out.ext (ext_alloc (Ext.rfl' wr) (.cells #[.int .u8 (m : Int)] 5)))
      have HSR := Lib.hid (src_one wr m)
      have hzs := HO1.out.t.lt
      go_wp2_with (at_builtin; refine wpList_app_own rfl (.tmp 13) (.tmp 18) 22 22 rfl 5 i0 (.int .u8 0) 1 1 Tryd.underlying22 HI.out.1 HI.out.2.1 HI.out.2.2.1 HI.out.2.2.2 rfl (G + 3) u _ zs.length (c8 zs) rfl rfl HO1.out.r [m].length (c8 [m]) HSR.out (by unfold maxLen; simp; omega) (by simp; omega) (by omega) ?_; intro v5 w5 hown5 hgr5; have hst := Outs.put HO1.out HAP.out (zs := zs ++ [m]) (by rw [List.length_append, c8_app]; exact hown5) hgr5; obtain ⟨A5, k5, rfl, _⟩ := own_shape hown5; obtain ⟨hc5, hf5, hO5⟩ := hst; have HO5 := Lib.hid hO5; have HC5 := Lib.hid ((HC.out.trans (Chg.of_ext (ext_alloc (Ext.rfl' wr) _))).trans ((Chg.of_row HO1.out.r hgr5).trans (Chg.of_set (G + 1) (.slice A5 (zs.length + [m].length) k5) (.inr rfl)))); clear hown5 hgr5 hO5)
      have HO6 : Hid (Outs (w5.setCell ⟨G + 1, 0, none⟩ (.slice A5 (zs.length + 1) k5)) (G + 3) (G + 2) (G + 1) G t (.slice A5 (zs.length + 1) k5) (.slice A N c) (zs ++ [m])) := HO5
      have HC6 : Hid (Chg (G + 3) (G + 2) (G + 1) w (w5.setCell ⟨G + 1, 0, none⟩ (.slice A5 (zs.length + 1) k5))) := HC5
      clear HO5 HC5 HO1 HSR hzs hc5 hf5
      obtain ⟨W1, hW1⟩ : ∃ W, W = w5.setCell ⟨G + 1, 0, none⟩ (.slice A5 (zs.length + 1) k5) := ⟨_, rfl⟩
      rw [← hW1] at HO6 HC6 ⊢
      clear hW1
      obtain ⟨b, o, rfl, _, _⟩ := HB.out.2.2 (by omega)
      have d0 := HO6.out.t.cell; have d1 := HO6.out.o.cell; have d2 := HO6.out.b.cell
      have g0 := HO6.out.t.frozen; have g1 := HO6.out.o.frozen
      clear c0 c1 c2 f0 f1
      have s1 : IntKind.i64.wrap ((t : Int) + (n : Int)) = (t : Int) + (n : Int) := by rw [IntKind.wrap_i64]; omega
      have s2 : (0 : Int) ≤ (t : Int) := by omega
      have s3 : (t : Int) ≤ (t : Int) + (n : Int) := by omega
      have s4 : (t : Int) + (n : Int) ≤ (c : Int) := by omega
      have s5 : ((t : Int) + (n : Int)).toNat = t + n := by omega
      have s6 : ¬ c = t := by omega
      obtain ⟨q, hq⟩ : ∃ q, q = zs ++ [m] ++ (xs.drop t).take n := ⟨_, rfl⟩
      have HQ := Lib.hid hq; clear hq
      go_cut [] (fun wx => (∃ v9, Outs wx (G + 3) (G + 2) (G + 1) G t v9 (.slice (some ⟨b, o, none⟩) N c) q) ∧ Chg (G + 3) (G + 2) (G + 1) w wx)
      case first =>
        refine wp_region_held_drew (S := SR G t (.slice (some ⟨b, o, none⟩) N c)) hmx ⟨d0, d2⟩ (fun _ => ?_)
        (refine wpAnyH_take (i := 1) (v := ?_) rfl (by kernel_rfl) (by kernel_rfl) (by kernel_rfl) (fun _ _ _ h => h) (Or.inl ⟨by rfl, ?_⟩) (by assumption) ?_); rotate_left
        · (intro w' hSw; obtain ⟨t0, t2⟩ := hSw; go_simp; try with_reducible rfl)
        (refine wpAnyH_take (i := 2) (v := ?_) rfl (by kernel_rfl) (by kernel_rfl) (by kernel_rfl) (fun _ _ _ h => h) (Or.inl ⟨by rfl, ?_⟩) (by assumption) ?_); rotate_left
        · (intro w' hSw; obtain ⟨t0, t2⟩ := hSw; go_simp; try with_reducible rfl)
        (refine wpAnyH_take (i := 3) (v := ?_) rfl (by kernel_rfl) (by kernel_rfl) (by kernel_rfl) (fun _ _ _ h => h) (Or.inl ⟨by rfl, ?_⟩) (by assumption) ?_); rotate_left
        · (intro w' hSw; obtain ⟨t0, t2⟩ := hSw; go_simp; try with_reducible rfl)
        (refine wpAnyH_take (i := 4) (v := ?_) rfl (by kernel_rfl) (by kernel_rfl) (by kernel_rfl) (fun _ _ _ h => h) (Or.inl ⟨by rfl, ?_⟩) (by assumption) ?_); rotate_left
        · (intro w' hSw; obtain ⟨t0, t2⟩ := hSw; go_simp; try with_reducible rfl)
        (refine wpAnyH_take (i := 5) (v := ?_) rfl (by kernel_rfl) (by kernel_rfl) (by kernel_rfl) (fun _ _ _ h => h) (Or.inl ⟨by rfl, ?_⟩) (by assumption) ?_); rotate_left
        · (intro w' hSw; obtain ⟨t0, t2⟩ := hSw; go_simp; try with_reducible rfl)
        (refine wpAnyH_take (i := 6) (v := ?_) rfl (by kernel_rfl) (by kernel_rfl) (by kernel_rfl) (fun _ _ _ h => h) (Or.inl ⟨by rfl, ?_⟩) (by assumption) ?_); rotate_left
        · (intro w' hSw; obtain ⟨t0, t2⟩ := hSw; go_simp; try with_reducible rfl)
        have hN3 : t + n ≤ N := by omega
        have HO7 := Lib.hid (HO6.out.ext (ext_drew (Ext.rfl' W1)))
        have HB7 := Lib.hid ((HC6.out.trans (Chg.of_ext (ext_drew (Ext.rfl' W1)))).bs HB.out (fun ad h => by have := HAD.out (by omega) ad h; omega))
        obtain ⟨v2, w9, hrun, ho2, hgr2⟩ := run_app_own (P := Tryd.prog) 22 22 22 5 i0 (.int .u8 0) 1 1 Tryd.underlying22 HI.out.1 HI.out.2.1 HI.out.2.2.1 HI.out.2.2.2 rfl (G + 3) (.slice A5 (zs.length + 1) k5) (zs ++ [m]).length (c8 (zs ++ [m])) HO7.out.r (.slice (some ⟨b, o + t, none⟩) n (c - t)) n (c8 ((xs.drop t).take n)) ((bs_part HB7.out t n hN3).src Tryd.underlying22 (c - t)) (by unfold maxLen; rw [List.length_append]; simp; omega) (by rw [List.length_append]; simp; omega) (by have := HO7.out.t.lt; omega)
        have hl9 : ((xs.drop t).take n).length = n := (bs_part HB7.out t n hN3).1
        have ho3 : w9.ownsRow (G + 3) 5 1 v2 q.length (c8 q) := by rw [HQ.out, List.length_append, hl9, c8_app (zs ++ [m])]; exact ho2
        have hst := Outs.put HO7.out HAP.out ho3 hgr2
        have HST := Lib.hid (Outs.still HO7.out HAP.out hgr2)
        obtain ⟨A2, c3, rfl, _⟩ := own_shape ho3
        obtain ⟨hc9, hf9, hO9⟩ := hst
        have HO9 := Lib.hid hO9
        have HC9 := Lib.hid (HC6.out.trans ((Chg.of_ext (ext_drew (Ext.rfl' W1))).trans ((Chg.of_row HO7.out.r hgr2).trans (Chg.of_set (G + 1) (.slice A2 q.length c3) (.inr rfl)))))
        have HRUN := Lib.hid hrun
        clear ho2 ho3 hgr2 hO9 hrun hl9
        refine wpAnyH_ready (rs := [0]) (by kernel_rfl) (by simp) ?_
        refine AllReadyH.cons rfl (fun K hK => ?_) AllReadyH.nil
        go_simp
        refine hK.out _ _ (by assumption) (fun _ => ?_)
        clear hK K
        refine wpAnyH_ready (rs := [7]) (by kernel_rfl) (by simp) ?_
        refine AllReadyH.cons rfl (fun K hK => ?_) AllReadyH.nil
        refine wanted_append rfl (.tmp 20) (.tmp 26) 22 22 rfl _ _ rfl rfl HRUN.out ?_
        refine hK.out _ _ HST.out (fun _ => ?_)
        clear hK K
        refine wpAnyH_ready (rs := [8]) (by kernel_rfl) (by simp) ?_
        refine AllReadyH.cons rfl (fun K hK => ?_) AllReadyH.nil
        go_simp
        refine hK.out _ _ ⟨HO9.out.t.cell, HO9.out.b.cell⟩ (fun _ => ?_)
        clear hK K
        refine wpAnyH_done (by kernel_rfl) ?_ _
        go_wp2_with fail
        go_meet
        exact ⟨⟨_, HO9.out⟩, HC9.out⟩
      case rest =>
        clear HO6 HC6 d0 d1 d2 g0 g1 s1 s2 s3 s4 s5 s6
        obtain ⟨⟨v9, hO9⟩, hC9⟩ := hcut
        have c0 := hO9.t.cell; have f0 := hO9.t.frozen
        have HO9 := Lib.hid hO9; have HC9 := Lib.hid hC9
        clear hO9 hC9
        have z3 : IntKind.i64.wrap ((t : Int) + (n : Int)) = (t : Int) + (n : Int) := by rw [IntKind.wrap_i64]; omega
        go_wp2_with fail
        go_roundw
        case rel => exact ⟨t + n, v9, q, by omega, by omega, HO9.out.tell HAP.out (by omega), by rw [← HR.out, ← HE.out, HCUT.out, HQ.out, HM.out]; simp only [List.append_assoc, List.cons_append, List.nil_append], HC9.out.trans (Chg.of_set (G + 2) _ (.inl rfl))⟩
        case measure =>
          have e1 := HO.out.t.cell
          have e2 := (HO9.out.tell HAP.out (m := (t : Int) + (n : Int)) (n := t + n) (by omega)).t.cell
          rw [e1, e2]
          simp only [Option.getD_some, intOf]
          omega
    · have z0 : ¬ (t : Int) < (up : Int) := by omega
      have htt : t = up := by omega
      have HF : Hid (zs = R) := Lib.hid (by
        have e := HE.out
        rw [htt, Nat.sub_self, List.take_zero, litT_nil, List.append_nil] at e
        exact e)
      have HT := Lib.hid htt; clear htt
      go_wp2_with fail
      refine bodyPost_end (results_none rfl _ _ _) rfl ⟨rfl, ?_⟩
      exact ⟨u, by rw [← HF.out, ← HT.out]; exact HO.out, HC.out⟩
end Go.Proofs.YtckjmabacibojaaDoor.Lz
namespace Go.Proofs.YtckjmabacibojaaDoor.Lz
open Go.ChangeShapes Go.WideShapes Go.ChangeAt Go.RowKit
open Go.Proofs.YtckjmabacibojaaDoor.Wire
set_option linter.unusedVariables false

/-- What match comes to, of tokens that were read since W. -/
def MatchPost (W : World) (g : Nat) (s : Value) (i : Nat) (out : List Nat) (R : VR) (n : Nat) (room : Int) (e : Ending) (w' : World) : Prop :=
  match R with
  | .short => e = .returned (.tuple #[.slice none 0 0, .int .i64 3]) ∧ Eff W w' g s i 3
  | .form => e = .returned (.tuple #[.slice none 0 0, .int .i64 4]) ∧ Eff W w' g s i 4
  | .ok v j =>
    if 4096 ≤ v ∨ out.length ≤ v then e = .returned (.tuple #[.slice none 0 0, .int .i64 4]) ∧ Eff W w' g s (i + j) 0
    else if room < n then e = .returned (.tuple #[.slice none 0 0, .int .i64 6]) ∧ Eff W w' g s (i + j) 0
    else (∃ u, e = .returned (.tuple #[u, .int .i64 0]) ∧ Wire.Own W w' u (rep out (v + 1) n)) ∧ Eff W w' g s (i + j) 0
def CpRel (W : World) (g : Nat) (s : Value) (i : Nat) (out : List Nat) (back n : Nat) (ov iv : Value) (wr : World) : Prop :=
  ∃ q : Nat, q ≤ n ∧ iv = .int .i64 (q : Int) ∧ Wire.Own W wr ov (rep out back q) ∧ Eff W wr g s i 0
set_option maxHeartbeats 8000000 in
set_option maxRecDepth 100000 in
theorem match_ (W w : World) (g N c i n : Nat) (room : Int) (A : Option Addr) (xs out : List Nat) (v : Value) (hE : Eff W w g (.slice A N c) i 0) (hRB : RB w g A N c xs) (hi : i ≤ N) (hN : N ≤ 1000000) (hg : g < W.heap.size) (hO : Wire.Own W w v out) (hol : out.length ≤ 5000000000)
    (hos : ∀ c ∈ out, c < 256) (hn : n ≤ 1000) (hr1 : -5000000000 ≤ room) (hr2 : room ≤ 5000000000) :
    Calls Tryd.prog 47 #[v, .pointer (some ⟨g, 0, none⟩), .int .i64 (n : Int), .int .i64 room] w (MatchPost W g (.slice A N c) i out (vr 0 0 (xs.drop i)) n room) := by
  have HN := Lib.hid (num g N c i A xs w hE.1 hRB.1 hi (by omega))
  have HE := Lib.hid hE; have HO := Lib.hid hO
  obtain ⟨OA, oc, rfl, hoc1, hoc2, hOA⟩ := own_shape hO
  have HOA := Lib.hid hOA
  have HOS := Lib.hid hos
  obtain ⟨i0, hi0, hz0, hz1, hz2⟩ := info_parts info8
  have HI := Lib.hid (And.intro hi0 (And.intro hz0 (And.intro hz1 hz2))); clear hi0 hz0 hz1 hz2
  clear hE hRB hO hOA hos
  generalize vr 0 0 (xs.drop i) = R at *
  go_enter Tryd.func47, Tryd.ntmps47
  go_wp2_with fail
  refine HN.out.mono ?_
  rintro e w1 ⟨z, j, err, rfl, hz, hE1, hm⟩
  have HO1 := Lib.hid (own_eff HO.out hE1 hg)
  have HE1 := Lib.hid (HE.out.trans hE1)
  clear hE1
  cases R with
  | short =>
    obtain ⟨rfl, rfl, rfl⟩ := hm
    go_wp2_with fail
    refine (err_any g _ (i + 0) 3 w1 HE1.out.1).mono ?_
    rintro e w2 ⟨rfl, rfl⟩
    go_wp2_with fail
    refine (err_any g _ (i + 0) 3 w1 HE1.out.1).mono ?_
    rintro e w2 ⟨rfl, rfl⟩
    go_wp2_with fail
    go_ret2
    exact ⟨rfl, HE1.out⟩
  | form =>
    obtain ⟨rfl, rfl, rfl⟩ := hm
    go_wp2_with fail
    refine (err_any g _ (i + 0) 4 w1 HE1.out.1).mono ?_
    rintro e w2 ⟨rfl, rfl⟩
    go_wp2_with fail
    refine (err_any g _ (i + 0) 4 w1 HE1.out.1).mono ?_
    rintro e w2 ⟨rfl, rfl⟩
    go_wp2_with fail
    go_ret2
    exact ⟨rfl, HE1.out⟩
  | ok v' j' =>
    obtain ⟨rfl, rfl, rfl⟩ := hm
    have hw1 : IntKind.u64.wrap (out.length : Int) = (out.length : Int) := by rw [IntKind.wrap_u64]; omega
    go_wp2_with fail
    refine (err_any g _ (i + j) 0 w1 HE1.out.1).mono ?_
    rintro e w2 ⟨rfl, rfl⟩
    by_cases h1 : 4096 ≤ z
    · have k1 : (4096 : Int) ≤ (z : Int) := by omega
      have HP : Hid (4096 ≤ z ∨ out.length ≤ z) := Lib.hid (.inl h1)
      go_wp2_with fail
      go_ret2
      simp only [MatchPost]
      rw [if_pos HP.out]
      exact ⟨rfl, HE1.out⟩
    · have k1 : ¬ (4096 : Int) ≤ (z : Int) := by omega
      by_cases h2 : out.length ≤ z
      · have k2 : (out.length : Int) ≤ (z : Int) := by omega
        have HP : Hid (4096 ≤ z ∨ out.length ≤ z) := Lib.hid (.inr h2)
        go_wp2_with fail
        go_ret2
        simp only [MatchPost]
        rw [if_pos HP.out]
        exact ⟨rfl, HE1.out⟩
      · have k2 : ¬ (out.length : Int) ≤ (z : Int) := by omega
        have HP : Hid (¬ (4096 ≤ z ∨ out.length ≤ z)) := Lib.hid (by omega)
        by_cases h3 : room < (n : Int)
        · have HR := Lib.hid h3
          go_wp2_with fail
          go_ret2
          simp only [MatchPost]
          rw [if_neg HP.out, if_pos HR.out]
          exact ⟨rfl, HE1.out⟩
        · have HR := Lib.hid h3
          go_wp2_with fail
          go_loopw [0, 35] (fun ov iv wr => CpRel W g (.slice A N c) (i + j) out (z + 1) n ov iv wr) (fun _ iv _ => n - (intOf iv).toNat)
          case atStart => exact ⟨0, Nat.zero_le _, rfl, HO1.out, HE1.out⟩
          case round =>
            clear HE1 HO1
            obtain ⟨q, hq, rfl, hOr, hEr⟩ := hrel
            have hcl := rep_len out (z + 1) q
            have hcs := rep_small HOS.out (z + 1) q
            obtain ⟨A5, c5, rfl, hc51, hc52, hA5⟩ := own_shape hOr
            have HOr := Lib.hid hOr; have HEr := Lib.hid hEr; clear hOr hEr
            by_cases hlt : q < n
            · have k3 : (q : Int) < (n : Int) := by omega
              have HST : Hid (rep out (z + 1) (q + 1) = rep out (z + 1) q ++ [(rep out (z + 1) q).getD ((rep out (z + 1) q).length - (z + 1)) 0]) := Lib.hid rfl
              generalize rep out (z + 1) q = cur at *
              obtain ⟨go, rfl, hgo⟩ := hA5 (by omega)
              obtain ⟨p, hp⟩ : ∃ p : Nat, p = cur.length - (z + 1) := ⟨_, rfl⟩
              rw [← hp] at HST
              have hix : (cur.length : Int) - ((z : Int) + 1) = (p : Int) := by omega
              have hp1 : p < cur.length := by omega
              have p0 : (0 : Int) ≤ (p : Int) := by omega
              have p1 : (p : Int) < (cur.length : Int) := by omega
              have cc := (HOr.out.cellAt p (by omega)).trans (c8_at hp1)
              have hxb := small_mem hcs p
              have HP := Lib.hid hp; have HCL := Lib.hid hcl
              have hcb : cur.length ≤ 5000001000 := by omega
              clear hp hcl hcs hc51 hc52 hA5
              generalize cur.getD p 0 = x at *
              have HEA := Lib.hid (HEr.out.ext (ext_alloc (Ext.rfl' wr) (.cells #[.int .u8 (x : Int)] 5)))
              have HOA2 := Lib.hid (own_ext HOr.out (ext_alloc (Ext.rfl' wr) (.cells #[.int .u8 (x : Int)] 5)))
              have HSR := Lib.hid (src_one wr x)
              go_wp2_with (at_builtin; refine wpList_app_own rfl (.tmp 37) (.tmp 45) 22 22 rfl 5 i0 (.int .u8 0) 1 1 Tryd.underlying22 HI.out.1 HI.out.2.1 HI.out.2.2.1 HI.out.2.2.2 rfl W.heap.size _ _ cur.length (c8 cur) rfl rfl HOA2.out 1 (c8 [x]) HSR.out (by unfold maxLen; omega) (by omega) (by have := HEA.out.2.size; omega) ?_; intro v5 w5 hown5 hgr5; have HOW5 := Lib.hid hown5; have HE5 := Lib.hid (Com.eff_app HEA.out HOA2.out hg hgr5); clear hown5 hgr5)
              go_roundw
              case rel => exact ⟨q + 1, by omega, by go_num, by rw [HST.out]; unfold Wire.Own; rw [List.length_append, c8_app]; exact HOW5.out, HE5.out⟩
              case measure => simp [intOf]; omega
            · obtain rfl : q = n := by omega
              generalize hcur : rep out (z + 1) q = cur at *
              have HCUR := Lib.hid hcur; clear hcur hcl hcs hA5
              go_wp2_with fail
              go_ret2
              simp only [MatchPost]
              rw [if_neg HP.out, if_neg (show ¬ room < (q : Int) by omega)]
              exact ⟨⟨_, rfl, by rw [HCUR.out]; exact HOr.out⟩, HEr.out⟩
end Go.Proofs.YtckjmabacibojaaDoor.Lz
namespace Go.Proofs.YtckjmabacibojaaDoor.Lz
open Go.ChangeShapes Go.WideShapes Go.ChangeAt Go.RowKit
open Go.Proofs.YtckjmabacibojaaDoor.Wire
set_option linter.unusedVariables false

theorem unp_nil (M : Nat) (out : List Nat) : unp M out [] = .ok out := by rw [unp]
theorem unp_high {M : Nat} {out cs : List Nat} {k : Nat} (h : 128 ≤ k) : unp M out (k :: cs) = .bad 4 := by rw [unp, if_pos h]
theorem unp_run6 {M : Nat} {out cs : List Nat} {k : Nat} (h : k < 128) (h2 : k % 2 = 0) (h3 : M < out.length + (k / 2 + 1)) : unp M out (k :: cs) = .bad 6 := by rw [unp, if_neg (by omega), if_pos h2, if_pos h3]
theorem unp_run3 {M : Nat} {out cs : List Nat} {k : Nat} (h : k < 128) (h2 : k % 2 = 0) (h3 : ¬ M < out.length + (k / 2 + 1)) (h4 : cs.length < k / 2 + 1) : unp M out (k :: cs) = .bad 3 := by rw [unp, if_neg (by omega), if_pos h2, if_neg h3, if_pos h4]
theorem unp_run {M : Nat} {out cs : List Nat} {k : Nat} (h : k < 128) (h2 : k % 2 = 0) (h3 : ¬ M < out.length + (k / 2 + 1)) (h4 : ¬ cs.length < k / 2 + 1) : unp M out (k :: cs) = unp M (out ++ cs.take (k / 2 + 1)) (cs.drop (k / 2 + 1)) := by rw [unp, if_neg (by omega), if_pos h2, if_neg h3, if_neg h4]
theorem unp_short {M : Nat} {out cs : List Nat} {k : Nat} (h : k < 128) (h2 : ¬ k % 2 = 0) (hv : vr 0 0 cs = .short) : unp M out (k :: cs) = .bad 3 := by rw [unp, if_neg (by omega), if_neg h2, hv]
theorem unp_form {M : Nat} {out cs : List Nat} {k : Nat} (h : k < 128) (h2 : ¬ k % 2 = 0) (hv : vr 0 0 cs = .form) : unp M out (k :: cs) = .bad 4 := by rw [unp, if_neg (by omega), if_neg h2, hv]
theorem unp_far {M : Nat} {out cs : List Nat} {k v j : Nat} (h : k < 128) (h2 : ¬ k % 2 = 0) (hv : vr 0 0 cs = .ok v j) (h3 : 4096 ≤ v ∨ out.length ≤ v) : unp M out (k :: cs) = .bad 4 := by rw [unp, if_neg (by omega), if_neg h2, hv]; simp only [if_pos h3]
theorem unp_match6 {M : Nat} {out cs : List Nat} {k v j : Nat} (h : k < 128) (h2 : ¬ k % 2 = 0) (hv : vr 0 0 cs = .ok v j) (h3 : ¬ (4096 ≤ v ∨ out.length ≤ v)) (h4 : M < out.length + (k / 2 + 3)) : unp M out (k :: cs) = .bad 6 := by rw [unp, if_neg (by omega), if_neg h2, hv]; simp only [if_neg h3, if_pos h4]
theorem unp_match {M : Nat} {out cs : List Nat} {k v j : Nat} (h : k < 128) (h2 : ¬ k % 2 = 0) (hv : vr 0 0 cs = .ok v j) (h3 : ¬ (4096 ≤ v ∨ out.length ≤ v)) (h4 : ¬ M < out.length + (k / 2 + 3)) : unp M out (k :: cs) = unp M (rep out (v + 1) (k / 2 + 3)) (cs.drop j) := by
  conv => lhs; rw [unp]
  rw [if_neg (by omega), if_neg h2, hv]; simp only [if_neg h3, if_neg h4]
theorem eff_old' {a W w' : World} {g i : Nat} {s : Value} {e : Int} (h : Ext a W) (k : Eff W w' g s i e) (hg : a.heap.size ≤ g) : Ext a w' := ext_grown h k.2 (fun j hj => by obtain rfl := Option.some.inj hj; exact hg)
/-- What Unpack comes to. -/
def UPost (w : World) (R : UR) (e : Ending) (w' : World) : Prop :=
  Ext w w' ∧ match R with
  | .bad f => e = .returned (.tuple #[.slice none 0 0, .int .i64 f]) ∧ f ≠ 0
  | .ok zs => (∃ v, e = .returned (.tuple #[v, .int .i64 0]) ∧ Wire.Own w w' v zs) ∧ ∀ c ∈ zs, c < 256
def URel (W : World) (g N c M : Nat) (A : Option Addr) (xs : List Nat) (R : UR) (ov : Value) (wr : World) : Prop :=
  ∃ (i : Nat) (out : List Nat), i ≤ N ∧ Wire.Own W wr ov out ∧ Eff W wr g (.slice A N c) i 0 ∧ unp M out (xs.drop i) = R ∧ out.length ≤ M ∧ ∀ c ∈ out, c < 256
set_option maxHeartbeats 16000000 in
set_option maxRecDepth 100000 in
theorem unpack (B : Option Addr) (N cd : Nat) (xs : List Nat) (most : Int) (w : World) (hB : Bs w B N xs) (hnil : B = none → N = 0 ∧ cd = 0) (hN : N ≤ 1000000) (hm1 : -9223372036854775808 ≤ most) (hm2 : most ≤ 4000000000) :
    Calls Tryd.prog 25 #[.slice B N cd, .int .i64 most] w (UPost w (unp most.toNat [] xs)) := by
  have HB := Lib.hid hB; have HNIL := Lib.hid hnil
  have hxl : xs.length = N := hB.1
  have hxs := mem_small hB.2.1
  have HXL := Lib.hid hxl; have HXS := Lib.hid hxs
  clear hB hnil hxl hxs
  obtain ⟨R, hR⟩ : ∃ R, R = unp most.toNat [] xs := ⟨_, rfl⟩
  rw [← hR]
  have HR := Lib.hid hR; clear hR
  obtain ⟨M, hM⟩ : ∃ M, M = most.toNat := ⟨_, rfl⟩
  rw [← hM] at HR
  have hM1 : M ≤ 4000000000 := by omega
  have hM2 : max most 0 = (M : Int) := by omega
  have HM := Lib.hid hM; have HM2 := Lib.hid hM2; clear hM hM2
  go_enter Tryd.func25, Tryd.ntmps25
  go_wp2_with fail
  refine (of B N cd xs w HB.out HNIL.out (by omega)).mono ?_
  rintro e w1 ⟨g, A1, c1, rfl, hg, hr, hrb, hE1⟩
  have hgl : g < w1.heap.size := Blk.lt hr
  have HRD := Lib.hid hr; have HRB := Lib.hid hrb; have HE1 := Lib.hid hE1
  clear hr hrb hE1
  go_wp2_with fail
  go_loopw [7] (fun ov wr => URel w1 g N c1 M A1 xs R ov wr) (fun _ wr => N - (intOf ((wr.cell? ⟨g, 1, none⟩).getD undef)).toNat)
  case atStart => exact ⟨0, [], Nat.zero_le _, World.ownsRow_nil _ _ _ _, ⟨HRD.out, gb_refl _ _⟩, by rw [List.drop_zero, HR.out], Nat.zero_le _, fun c hc => by cases hc⟩
  case round =>
    obtain ⟨i, out, hi, hO, hE, hU, hol, hos⟩ := hrel
    have hm : N - (intOf ((wr.cell? ⟨g, 1, none⟩).getD undef)).toNat = N - i := by rw [hE.1.cells.2.1]; simp [intOf]
    rw [hm]
    obtain ⟨OA, oc, rfl, hoc1, hoc2, hOA⟩ := own_shape hO
    have HO := Lib.hid hO; have HE := Lib.hid hE; have HU := Lib.hid hU; have HOS := Lib.hid hos
    clear hO hE hU hos hm hOA hoc1 hoc2
    go_wp2_with fail
    refine (left_any g N c1 A1 i 0 wr HE.out.1 hi (by omega)).mono ?_
    rintro e w2 ⟨rfl, b2⟩
    have HE2 := Lib.hid (HE.out.ext b2)
    have HO2 := Lib.hid (own_ext HO.out b2)
    clear b2
    obtain ⟨L, hL⟩ : ∃ L : Nat, L = N - i := ⟨_, rfl⟩
    rw [← hL]
    have HL := Lib.hid hL; clear hL
    by_cases hiN : i = N
    · obtain rfl : L = 0 := by rw [HL.out]; omega
      have HRR : Hid (R = .ok out) := Lib.hid (by rw [← HU.out, hiN, List.drop_of_length_le (by rw [HXL.out]; exact Nat.le_refl _), unp_nil])
      clear hiN
      go_wp2_with fail
      go_ret2
      exact ⟨eff_old' HE1.out HE2.out hg, by rw [HRR.out]; exact ⟨⟨_, rfl, Com.own_low HO2.out HE1.out.size⟩, HOS.out⟩⟩
    · have hgt : 0 < L := by rw [HL.out]; omega
      have hil : i < N := by omega
      clear hiN
      have hxd : xs.drop i = xs.getD i 0 :: xs.drop (i + 1) := by
        rw [List.drop_eq_getElem_cons (by rw [HXL.out]; exact hil), List.getD_eq_getElem?_getD, List.getElem?_eq_getElem (by rw [HXL.out]; exact hil)]; rfl
      have hkb := small_mem HXS.out i
      have HXD := Lib.hid hxd; clear hxd
      by_cases hneg : most < 0
      · have hnm : ¬ 0 ≤ most := by omega
        go_wp2_with fail
        refine (Wire.bytes g N c1 i 1 (by omega) (by omega) A1 xs w2 HE2.out.1 (HRB.out.eff HE2.out.2) hi (by omega)).mono ?_
        rintro e w3 (⟨h0, _, _⟩ | ⟨h1, h2, rfl, hE3⟩ | ⟨h1, h2, ⟨v1, rfl, A3, c3, rfl, q1, q2, q3, hB3⟩, hE3⟩)
        · omega
        · rw [List.length_drop, HXL.out] at h2; omega
        · generalize hrm : (-(out.length : Int)) = room at *
          have hr1 : (room : Int) = (M : Int) - (out.length : Int) := by have := HM.out; omega
          have hr2 : -5000000000 ≤ room := by have := hol; omega
          have hr3 : room ≤ 5000000000 := by omega
          have hrmM : room < 0 ∨ 0 ≤ room := by omega
          have HR1 := Lib.hid hr1; clear hr1 hrm hrmM
          have e1 : (xs.drop i).take (Int.toNat 1) = [xs.getD i 0] := by rw [HXD.out]; rfl
          rw [e1] at hB3 ⊢
          obtain ⟨b3, o3, rfl, _, hcell⟩ := hB3.2.2 (by simp)
          have cc := hcell 0 (by simp)
          have HO3 := Lib.hid (own_eff HO2.out hE3 hgl)
          have HE3 : Hid (Eff w1 w3 g (.slice A1 N c1) (i + 1) 0) := Lib.hid (HE2.out.trans hE3)
          have hcl : (xs.drop (i + 1)).length = N - (i + 1) := by rw [List.length_drop, HXL.out]
          have HCL := Lib.hid hcl
          have hU2 := HU.out
          rw [HXD.out] at hU2
          have HU2 := Lib.hid hU2
          have HRB3 := Lib.hid (HRB.out.eff HE3.out.2)
          rw [List.getD_cons_zero, Nat.add_zero] at cc
          clear hE3 hB3 q1 q2 q3 hcell h1 h2 e1 hcl hU2
          generalize xs.getD i 0 = k at *
          obtain ⟨cs, hcs⟩ : ∃ cs, cs = xs.drop (i + 1) := ⟨_, rfl⟩
          rw [← hcs] at HU2 HCL HXD
          have HCS := Lib.hid hcs; clear hcs
          by_cases hk : 128 ≤ k
          · have hk1 : (128 : Int) ≤ (k : Int) := by omega
            have HRR : Hid (R = .bad 4) := Lib.hid (by rw [← HU2.out, unp_high hk])
            go_wp2_with fail
            go_ret2
            exact ⟨eff_old' HE1.out HE3.out hg, by rw [HRR.out]; exact ⟨rfl, by decide⟩⟩
          · have hk1 : ¬ (128 : Int) ≤ (k : Int) := by omega
            by_cases hev : k % 2 = 0
            · have hk2 : (((k : Int) % 2) == 0) = true := beq_iff_eq.2 (by omega)
              go_wp2_with fail
              rw [show ((k : Int) / 2 + 1) = ((k / 2 + 1 : Nat) : Int) from by omega]
              refine (run w1 w3 g N c1 (i + 1) (k / 2 + 1) room A1 xs out _ HE3.out HRB3.out (by omega) hN hgl HO3.out (by omega) (by omega) hr2 hr3).mono ?_
              rintro e w4 (⟨h1, rfl, rfl⟩ | ⟨h1, h2, ⟨u, rfl⟩, hE4⟩ | ⟨h1, h2, ⟨u, rfl, hO4⟩, hE4⟩)
              · have hlt : M < out.length + (k / 2 + 1) := by have := HR1.out; omega
                have HRR : Hid (R = .bad 6) := Lib.hid (by rw [← HU2.out]; exact unp_run6 (by omega) hev hlt)
                clear h1 hlt
                go_wp2_with fail
                go_ret2
                exact ⟨eff_old' HE1.out HE3.out hg, by rw [HRR.out]; exact ⟨rfl, by decide⟩⟩
              · have hlt : ¬ M < out.length + (k / 2 + 1) := by have := HR1.out; omega
                rw [← HCS.out] at h2
                have HRR : Hid (R = .bad 3) := Lib.hid (by rw [← HU2.out]; exact unp_run3 (by omega) hev hlt h2)
                have HE4 := Lib.hid hE4
                clear h1 hlt h2 hE4
                go_wp2_with fail
                go_ret2
                exact ⟨eff_old' HE1.out HE4.out hg, by rw [HRR.out]; exact ⟨rfl, by decide⟩⟩
              · have hlt : ¬ M < out.length + (k / 2 + 1) := by have := HR1.out; omega
                have hin : i + 1 + (k / 2 + 1) ≤ N := by rw [← HCS.out, HCL.out] at h2; omega
                rw [← HCS.out] at h2 hO4
                have hol2 : (out ++ cs.take (k / 2 + 1)).length ≤ M := by rw [List.length_append, List.length_take]; omega
                have HOS2 : Hid (∀ c ∈ out ++ cs.take (k / 2 + 1), c < 256) := Lib.hid (fun c hc => by
                  rcases List.mem_append.1 hc with hc | hc
                  · exact HOS.out c hc
                  · exact HXS.out c (List.mem_of_mem_drop (i := i + 1) (by rw [← HCS.out]; exact List.mem_of_mem_take hc)))
                have HRR : Hid (unp M (out ++ cs.take (k / 2 + 1)) (xs.drop (i + 1 + (k / 2 + 1))) = R) := Lib.hid (by rw [← HU2.out, unp_run (by omega) hev hlt (by omega), HCS.out, List.drop_drop])
                have hmm : N - (intOf ((w4.cell? ⟨g, 1, none⟩).getD undef)).toNat = N - (i + 1 + (k / 2 + 1)) := by rw [hE4.1.cells.2.1]; simp [intOf]; omega
                have HE4 := Lib.hid hE4; have HO4 := Lib.hid hO4
                have HMM := Lib.hid hmm
                clear hE4 hO4 hmm h1 h2 hlt
                go_wp2_with fail
                go_roundw
                case rel => exact ⟨i + 1 + (k / 2 + 1), out ++ cs.take (k / 2 + 1), by omega, HO4.out, HE4.out, HRR.out, hol2, HOS2.out⟩
                case measure => rw [HMM.out]; omega
            · have hk2 : (((k : Int) % 2) == 0) = false := beq_eq_false_iff_ne.2 (by omega)
              go_wp2_with fail
              rw [show (((k : Int) - 1) / 2 + 3) = ((k / 2 + 3 : Nat) : Int) from by omega]
              refine (match_ w1 w3 g N c1 (i + 1) (k / 2 + 3) room A1 xs out _ HE3.out HRB3.out (by omega) hN hgl HO3.out (by omega) HOS.out (by omega) hr2 hr3).mono ?_
              intro e w4 hm
              rw [← HCS.out] at hm
              cases hv : vr 0 0 cs with
              | short =>
                rw [hv] at hm
                obtain ⟨rfl, hE4⟩ := hm
                have HRR : Hid (R = .bad 3) := Lib.hid (by rw [← HU2.out]; exact unp_short (by omega) hev hv)
                have HE4 := Lib.hid hE4
                clear hv hE4
                go_wp2_with fail
                go_ret2
                exact ⟨eff_old' HE1.out HE4.out hg, by rw [HRR.out]; exact ⟨rfl, by decide⟩⟩
              | form =>
                rw [hv] at hm
                obtain ⟨rfl, hE4⟩ := hm
                have HRR : Hid (R = .bad 4) := Lib.hid (by rw [← HU2.out]; exact unp_form (by omega) hev hv)
                have HE4 := Lib.hid hE4
                clear hv hE4
                go_wp2_with fail
                go_ret2
                exact ⟨eff_old' HE1.out HE4.out hg, by rw [HRR.out]; exact ⟨rfl, by decide⟩⟩
              | ok v j =>
                rw [hv] at hm
                simp only [MatchPost] at hm
                have hvk := vr_ok (fun c hc => HXS.out c (List.mem_of_mem_drop (i := i + 1) (by rw [← HCS.out]; exact hc))) hv
                have hj1 := hvk.2.2.2
                rw [HCL.out] at hj1
                by_cases hfar : 4096 ≤ v ∨ out.length ≤ v
                · rw [if_pos hfar] at hm
                  obtain ⟨rfl, hE4⟩ := hm
                  have HRR : Hid (R = .bad 4) := Lib.hid (by rw [← HU2.out]; exact unp_far (by omega) hev hv hfar)
                  have HE4 := Lib.hid hE4
                  clear hv hvk hE4 hfar
                  go_wp2_with fail
                  go_ret2
                  exact ⟨eff_old' HE1.out HE4.out hg, by rw [HRR.out]; exact ⟨rfl, by decide⟩⟩
                · rw [if_neg hfar] at hm
                  by_cases hroom : room < ((k / 2 + 3 : Nat) : Int)
                  · rw [if_pos hroom] at hm
                    obtain ⟨rfl, hE4⟩ := hm
                    have hlt : M < out.length + (k / 2 + 3) := by have := HR1.out; omega
                    have HRR : Hid (R = .bad 6) := Lib.hid (by rw [← HU2.out]; exact unp_match6 (by omega) hev hv hfar hlt)
                    have HE4 := Lib.hid hE4
                    clear hv hvk hE4 hfar hlt hroom
                    go_wp2_with fail
                    go_ret2
                    exact ⟨eff_old' HE1.out HE4.out hg, by rw [HRR.out]; exact ⟨rfl, by decide⟩⟩
                  · rw [if_neg hroom] at hm
                    obtain ⟨⟨u, rfl, hO4⟩, hE4⟩ := hm
                    have hlt : ¬ M < out.length + (k / 2 + 3) := by have := HR1.out; omega
                    have hin : i + 1 + j ≤ N := by omega
                    have hol2 : (rep out (v + 1) (k / 2 + 3)).length ≤ M := by rw [rep_len]; omega
                    have HOS2 := Lib.hid (rep_small HOS.out (v + 1) (k / 2 + 3))
                    have HRR : Hid (unp M (rep out (v + 1) (k / 2 + 3)) (xs.drop (i + 1 + j)) = R) := Lib.hid (by rw [← HU2.out, unp_match (by omega) hev hv hfar hlt, HCS.out, List.drop_drop])
                    have hmm : N - (intOf ((w4.cell? ⟨g, 1, none⟩).getD undef)).toNat = N - (i + 1 + j) := by rw [hE4.1.cells.2.1]; simp [intOf]; omega
                    have HE4 := Lib.hid hE4; have HO4 := Lib.hid hO4
                    have HMM := Lib.hid hmm
                    clear hE4 hO4 hmm hv hvk hfar hlt hroom
                    go_wp2_with fail
                    go_roundw
                    case rel => exact ⟨i + 1 + j, rep out (v + 1) (k / 2 + 3), by omega, HO4.out, HE4.out, HRR.out, hol2, HOS2.out⟩
                    case measure => rw [HMM.out]; omega
      · have hnm : 0 ≤ most := by omega
        go_wp2_with fail
        refine (Wire.bytes g N c1 i 1 (by omega) (by omega) A1 xs w2 HE2.out.1 (HRB.out.eff HE2.out.2) hi (by omega)).mono ?_
        rintro e w3 (⟨h0, _, _⟩ | ⟨h1, h2, rfl, hE3⟩ | ⟨h1, h2, ⟨v1, rfl, A3, c3, rfl, q1, q2, q3, hB3⟩, hE3⟩)
        · omega
        · rw [List.length_drop, HXL.out] at h2; omega
        · generalize hrm : (most - (out.length : Int)) = room at *
          have hr1 : (room : Int) = (M : Int) - (out.length : Int) := by have := HM.out; omega
          have hr2 : -5000000000 ≤ room := by have := hol; omega
          have hr3 : room ≤ 5000000000 := by omega
          have hrmM : room < 0 ∨ 0 ≤ room := by omega
          have HR1 := Lib.hid hr1; clear hr1 hrm hrmM
          have e1 : (xs.drop i).take (Int.toNat 1) = [xs.getD i 0] := by rw [HXD.out]; rfl
          rw [e1] at hB3 ⊢
          obtain ⟨b3, o3, rfl, _, hcell⟩ := hB3.2.2 (by simp)
          have cc := hcell 0 (by simp)
          have HO3 := Lib.hid (own_eff HO2.out hE3 hgl)
          have HE3 : Hid (Eff w1 w3 g (.slice A1 N c1) (i + 1) 0) := Lib.hid (HE2.out.trans hE3)
          have hcl : (xs.drop (i + 1)).length = N - (i + 1) := by rw [List.length_drop, HXL.out]
          have HCL := Lib.hid hcl
          have hU2 := HU.out
          rw [HXD.out] at hU2
          have HU2 := Lib.hid hU2
          have HRB3 := Lib.hid (HRB.out.eff HE3.out.2)
          rw [List.getD_cons_zero, Nat.add_zero] at cc
          clear hE3 hB3 q1 q2 q3 hcell h1 h2 e1 hcl hU2
          generalize xs.getD i 0 = k at *
          obtain ⟨cs, hcs⟩ : ∃ cs, cs = xs.drop (i + 1) := ⟨_, rfl⟩
          rw [← hcs] at HU2 HCL HXD
          have HCS := Lib.hid hcs; clear hcs
          by_cases hk : 128 ≤ k
          · have hk1 : (128 : Int) ≤ (k : Int) := by omega
            have HRR : Hid (R = .bad 4) := Lib.hid (by rw [← HU2.out, unp_high hk])
            go_wp2_with fail
            go_ret2
            exact ⟨eff_old' HE1.out HE3.out hg, by rw [HRR.out]; exact ⟨rfl, by decide⟩⟩
          · have hk1 : ¬ (128 : Int) ≤ (k : Int) := by omega
            by_cases hev : k % 2 = 0
            · have hk2 : (((k : Int) % 2) == 0) = true := beq_iff_eq.2 (by omega)
              go_wp2_with fail
              rw [show ((k : Int) / 2 + 1) = ((k / 2 + 1 : Nat) : Int) from by omega]
              refine (run w1 w3 g N c1 (i + 1) (k / 2 + 1) room A1 xs out _ HE3.out HRB3.out (by omega) hN hgl HO3.out (by omega) (by omega) hr2 hr3).mono ?_
              rintro e w4 (⟨h1, rfl, rfl⟩ | ⟨h1, h2, ⟨u, rfl⟩, hE4⟩ | ⟨h1, h2, ⟨u, rfl, hO4⟩, hE4⟩)
              · have hlt : M < out.length + (k / 2 + 1) := by have := HR1.out; omega
                have HRR : Hid (R = .bad 6) := Lib.hid (by rw [← HU2.out]; exact unp_run6 (by omega) hev hlt)
                clear h1 hlt
                go_wp2_with fail
                go_ret2
                exact ⟨eff_old' HE1.out HE3.out hg, by rw [HRR.out]; exact ⟨rfl, by decide⟩⟩
              · have hlt : ¬ M < out.length + (k / 2 + 1) := by have := HR1.out; omega
                rw [← HCS.out] at h2
                have HRR : Hid (R = .bad 3) := Lib.hid (by rw [← HU2.out]; exact unp_run3 (by omega) hev hlt h2)
                have HE4 := Lib.hid hE4
                clear h1 hlt h2 hE4
                go_wp2_with fail
                go_ret2
                exact ⟨eff_old' HE1.out HE4.out hg, by rw [HRR.out]; exact ⟨rfl, by decide⟩⟩
              · have hlt : ¬ M < out.length + (k / 2 + 1) := by have := HR1.out; omega
                have hin : i + 1 + (k / 2 + 1) ≤ N := by rw [← HCS.out, HCL.out] at h2; omega
                rw [← HCS.out] at h2 hO4
                have hol2 : (out ++ cs.take (k / 2 + 1)).length ≤ M := by rw [List.length_append, List.length_take]; omega
                have HOS2 : Hid (∀ c ∈ out ++ cs.take (k / 2 + 1), c < 256) := Lib.hid (fun c hc => by
                  rcases List.mem_append.1 hc with hc | hc
                  · exact HOS.out c hc
                  · exact HXS.out c (List.mem_of_mem_drop (i := i + 1) (by rw [← HCS.out]; exact List.mem_of_mem_take hc)))
                have HRR : Hid (unp M (out ++ cs.take (k / 2 + 1)) (xs.drop (i + 1 + (k / 2 + 1))) = R) := Lib.hid (by rw [← HU2.out, unp_run (by omega) hev hlt (by omega), HCS.out, List.drop_drop])
                have hmm : N - (intOf ((w4.cell? ⟨g, 1, none⟩).getD undef)).toNat = N - (i + 1 + (k / 2 + 1)) := by rw [hE4.1.cells.2.1]; simp [intOf]; omega
                have HE4 := Lib.hid hE4; have HO4 := Lib.hid hO4
                have HMM := Lib.hid hmm
                clear hE4 hO4 hmm h1 h2 hlt
                go_wp2_with fail
                go_roundw
                case rel => exact ⟨i + 1 + (k / 2 + 1), out ++ cs.take (k / 2 + 1), by omega, HO4.out, HE4.out, HRR.out, hol2, HOS2.out⟩
                case measure => rw [HMM.out]; omega
            · have hk2 : (((k : Int) % 2) == 0) = false := beq_eq_false_iff_ne.2 (by omega)
              go_wp2_with fail
              rw [show (((k : Int) - 1) / 2 + 3) = ((k / 2 + 3 : Nat) : Int) from by omega]
              refine (match_ w1 w3 g N c1 (i + 1) (k / 2 + 3) room A1 xs out _ HE3.out HRB3.out (by omega) hN hgl HO3.out (by omega) HOS.out (by omega) hr2 hr3).mono ?_
              intro e w4 hm
              rw [← HCS.out] at hm
              cases hv : vr 0 0 cs with
              | short =>
                rw [hv] at hm
                obtain ⟨rfl, hE4⟩ := hm
                have HRR : Hid (R = .bad 3) := Lib.hid (by rw [← HU2.out]; exact unp_short (by omega) hev hv)
                have HE4 := Lib.hid hE4
                clear hv hE4
                go_wp2_with fail
                go_ret2
                exact ⟨eff_old' HE1.out HE4.out hg, by rw [HRR.out]; exact ⟨rfl, by decide⟩⟩
              | form =>
                rw [hv] at hm
                obtain ⟨rfl, hE4⟩ := hm
                have HRR : Hid (R = .bad 4) := Lib.hid (by rw [← HU2.out]; exact unp_form (by omega) hev hv)
                have HE4 := Lib.hid hE4
                clear hv hE4
                go_wp2_with fail
                go_ret2
                exact ⟨eff_old' HE1.out HE4.out hg, by rw [HRR.out]; exact ⟨rfl, by decide⟩⟩
              | ok v j =>
                rw [hv] at hm
                simp only [MatchPost] at hm
                have hvk := vr_ok (fun c hc => HXS.out c (List.mem_of_mem_drop (i := i + 1) (by rw [← HCS.out]; exact hc))) hv
                have hj1 := hvk.2.2.2
                rw [HCL.out] at hj1
                by_cases hfar : 4096 ≤ v ∨ out.length ≤ v
                · rw [if_pos hfar] at hm
                  obtain ⟨rfl, hE4⟩ := hm
                  have HRR : Hid (R = .bad 4) := Lib.hid (by rw [← HU2.out]; exact unp_far (by omega) hev hv hfar)
                  have HE4 := Lib.hid hE4
                  clear hv hvk hE4 hfar
                  go_wp2_with fail
                  go_ret2
                  exact ⟨eff_old' HE1.out HE4.out hg, by rw [HRR.out]; exact ⟨rfl, by decide⟩⟩
                · rw [if_neg hfar] at hm
                  by_cases hroom : room < ((k / 2 + 3 : Nat) : Int)
                  · rw [if_pos hroom] at hm
                    obtain ⟨rfl, hE4⟩ := hm
                    have hlt : M < out.length + (k / 2 + 3) := by have := HR1.out; omega
                    have HRR : Hid (R = .bad 6) := Lib.hid (by rw [← HU2.out]; exact unp_match6 (by omega) hev hv hfar hlt)
                    have HE4 := Lib.hid hE4
                    clear hv hvk hE4 hfar hlt hroom
                    go_wp2_with fail
                    go_ret2
                    exact ⟨eff_old' HE1.out HE4.out hg, by rw [HRR.out]; exact ⟨rfl, by decide⟩⟩
                  · rw [if_neg hroom] at hm
                    obtain ⟨⟨u, rfl, hO4⟩, hE4⟩ := hm
                    have hlt : ¬ M < out.length + (k / 2 + 3) := by have := HR1.out; omega
                    have hin : i + 1 + j ≤ N := by omega
                    have hol2 : (rep out (v + 1) (k / 2 + 3)).length ≤ M := by rw [rep_len]; omega
                    have HOS2 := Lib.hid (rep_small HOS.out (v + 1) (k / 2 + 3))
                    have HRR : Hid (unp M (rep out (v + 1) (k / 2 + 3)) (xs.drop (i + 1 + j)) = R) := Lib.hid (by rw [← HU2.out, unp_match (by omega) hev hv hfar hlt, HCS.out, List.drop_drop])
                    have hmm : N - (intOf ((w4.cell? ⟨g, 1, none⟩).getD undef)).toNat = N - (i + 1 + j) := by rw [hE4.1.cells.2.1]; simp [intOf]; omega
                    have HE4 := Lib.hid hE4; have HO4 := Lib.hid hO4
                    have HMM := Lib.hid hmm
                    clear hE4 hO4 hmm hv hvk hfar hlt hroom
                    go_wp2_with fail
                    go_roundw
                    case rel => exact ⟨i + 1 + j, rep out (v + 1) (k / 2 + 3), by omega, HO4.out, HE4.out, HRR.out, hol2, HOS2.out⟩
                    case measure => rw [HMM.out]; omega
end Go.Proofs.YtckjmabacibojaaDoor.Lz
namespace Go.Proofs.YtckjmabacibojaaDoor.Lz
open Go.ChangeShapes Go.WideShapes Go.ChangeAt Go.RowKit
open Go.Proofs.YtckjmabacibojaaDoor.Wire Go.Proofs.YtckjmabacibojaaDoor.Map32
set_option linter.unusedVariables false

theorem unp_lits (M : Nat) : ∀ (n : Nat) (l out rest : List Nat), l.length = n → out.length + l.length ≤ M → unp M out (litT l ++ rest) = unp M (out ++ l) rest := by
  intro n
  induction n using Nat.strongRecOn with
  | ind n ih =>
    intro l out rest hl hM
    by_cases h : 0 < l.length
    · obtain ⟨m, hm⟩ : ∃ m, m = min 64 l.length := ⟨_, rfl⟩
      rw [litT_step h, ← hm]
      have e : 2 * (m - 1) / 2 + 1 = m := by omega
      rw [List.cons_append, unp_run (by omega) (by omega) (by rw [e]; omega) (by rw [e, List.length_append, List.length_append, List.length_take]; omega), e]
      have hlt : (l.take m).length = m := by rw [List.length_take]; omega
      rw [List.append_assoc, List.take_append_of_le_length (by omega), List.take_of_length_le (by omega), List.drop_append_of_le_length (by omega), List.drop_of_length_le (by omega), List.nil_append]
      rw [ih (l.drop m).length (by rw [List.length_drop]; omega) _ _ _ rfl (by rw [List.length_append, hlt, List.length_drop]; omega), List.append_assoc, List.take_append_drop]
    · obtain rfl : l = [] := List.eq_nil_of_length_eq_zero (by omega)
      rw [litT_nil, List.nil_append, List.append_nil]
theorem rep_good {xs : List Nat} {a b : Nat} (hb : 1 ≤ b) (hba : b ≤ a) : ∀ n, a + n ≤ xs.length → (∀ j, j < n → xs.getD (a - b + j) 0 = xs.getD (a + j) 0) → rep (xs.take a) b n = xs.take (a + n)
  | 0, h, _ => rfl
  | n + 1, h, he => by
    rw [rep, rep_good hb hba n (by omega) (fun j hj => he j (by omega))]
    have hl : (xs.take (a + n)).length = a + n := by rw [List.length_take]; omega
    rw [hl, show a + (n + 1) = a + n + 1 from by omega, List.take_succ_eq_append_getElem (by omega)]
    congr 1
    have h1 : (xs.take (a + n)).getD (a + n - b) 0 = xs.getD (a - b + n) 0 := by
      rw [List.getD_eq_getElem?_getD, List.getElem?_take, if_pos (by omega), List.getD_eq_getElem?_getD, show a + n - b = a - b + n from by omega]
    rw [h1, he n (by omega), List.getD_eq_getElem?_getD, List.getElem?_eq_getElem (by omega)]
    rfl
theorem unp_pk {xs : List Nat} (hx : ∀ j, xs.getD j 0 < 256) : ∀ (n told a : Nat), xs.length - a = n → told ≤ a → a ≤ xs.length → unp xs.length (xs.take told) (pk xs told a) = .ok xs := by
  intro n
  induction n using Nat.strongRecOn with
  | ind n ih =>
    intro told a hn ht ha
    have htl : (xs.take told).length = told := by rw [List.length_take]; omega
    by_cases h : a < xs.length
    · by_cases h2 : (bst xs a).2 = 0
      · rw [pk_lit h h2]; exact ih (xs.length - (a + 1)) (by omega) told (a + 1) rfl (by omega) (by omega)
      · rw [pk_match h h2]
        rcases bst_good hx a with hg | ⟨g1, g2, g3, g4, g5, g6, g7⟩
        · rw [hg] at h2; exact absurd rfl h2
        · generalize bst xs a = s at *
          have hdl : ((xs.drop told).take (a - told)).length = a - told := by rw [List.length_take, List.length_drop]; omega
          rw [unp_lits _ _ _ _ _ rfl (by rw [htl, hdl]; omega)]
          have e1 : xs.take told ++ (xs.drop told).take (a - told) = xs.take a := by
            rw [← List.take_add, show told + (a - told) = a from by omega]
          rw [e1]
          have hal : (xs.take a).length = a := by rw [List.length_take]; omega
          have hv := vr_put (m := s.1 - 1) (by omega) (pk xs (a + s.2) (a + s.2))
          have e2 : (2 * (s.2 - 3) + 1) / 2 + 3 = s.2 := by omega
          rw [unp_match (by omega) (by omega) hv (by rw [hal]; omega) (by rw [hal, e2]; omega), e2, show s.1 - 1 + 1 = s.1 from by omega, rep_good g4 g6 s.2 g3 g7]
          rw [List.drop_left]
          exact ih (xs.length - (a + s.2)) (by omega) (a + s.2) (a + s.2) rfl (Nat.le_refl _) g3
    · rw [pk_end (by omega)]
      have := unp_lits xs.length _ (xs.drop told) (xs.take told) [] rfl (by rw [htl, List.length_drop]; omega)
      rw [List.append_nil] at this
      rw [this, unp_nil, List.take_append_drop]
end Go.Proofs.YtckjmabacibojaaDoor.Lz
namespace Go.Proofs.YtckjmabacibojaaDoor.Lz
open Go.ChangeShapes Go.WideShapes Go.ChangeAt Go.RowKit
open Go.Proofs.YtckjmabacibojaaDoor.Wire Go.Proofs.YtckjmabacibojaaDoor.Map32
set_option linter.unusedVariables false

theorem bst_far (xs : List Nat) (a : Nat) (h : (bst xs a).2 = 3) : (bst xs a).1 ≤ 128 := by
  unfold bst at h ⊢
  by_cases ha : a + 3 ≤ xs.length
  · rw [if_pos ha] at h ⊢
    unfold mask at h ⊢
    split
    · exact Nat.zero_le _
    · rename_i hc
      rw [if_neg hc] at h
      by_cases h1 : 128 < (scan xs a (seen xs a (key xs a)).reverse).1
      · exact absurd ⟨h, h1⟩ hc
      · omega
  · rw [if_neg ha]; exact Nat.zero_le _
theorem vb_one {m : Nat} (h : m < 128) : (vb m).length = 1 := by rw [vb, dif_pos h]; rfl
theorem vb_two {m : Nat} (h : m < 16384) : (vb m).length ≤ 2 := by
  by_cases h1 : m < 128
  · rw [vb_one h1]; omega
  · rw [vb, dif_neg h1, List.length_cons, vb_one (by omega)]; omega
theorem pk_len {xs : List Nat} (hx : ∀ j, xs.getD j 0 < 256) : ∀ (n told a : Nat), xs.length - a = n → told ≤ a → a ≤ xs.length → (pk xs told a).length ≤ (xs.length - told) + (xs.length - told + 63) / 64 := by
  intro n
  induction n using Nat.strongRecOn with
  | ind n ih =>
    intro told a hn ht ha
    by_cases h : a < xs.length
    · by_cases h2 : (bst xs a).2 = 0
      · rw [pk_lit h h2]; exact ih (xs.length - (a + 1)) (by omega) told (a + 1) rfl (by omega) (by omega)
      · rw [pk_match h h2]
        have hfar := bst_far xs a
        rcases bst_good hx a with hg | ⟨g1, g2, g3, g4, g5, g6, g7⟩
        · rw [hg] at h2; exact absurd rfl h2
        · generalize bst xs a = s at *
          have hdl : ((xs.drop told).take (a - told)).length = a - told := by rw [List.length_take, List.length_drop]; omega
          have h3 := ih (xs.length - (a + s.2)) (by omega) (a + s.2) (a + s.2) rfl (Nat.le_refl _) g3
          have hc : 1 + (vb (s.1 - 1)).length ≤ s.2 - 1 := by
            by_cases h33 : s.2 = 3
            · rw [vb_one (by have := hfar h33; omega)]; omega
            · have := vb_two (m := s.1 - 1) (by omega); omega
          rw [List.length_append, List.length_cons, List.length_append, litT_len _ _ rfl, hdl]
          omega
    · rw [pk_end (by omega), litT_len _ _ rfl, List.length_drop]; exact Nat.le_refl _
/-- Literals that go beyond the limit. -/
theorem unp_lits_low (M : Nat) : ∀ (n : Nat) (l out rest : List Nat), l.length = n → M < out.length + l.length → out.length ≤ M → unp M out (litT l ++ rest) = .bad 6 := by
  intro n
  induction n using Nat.strongRecOn with
  | ind n ih =>
    intro l out rest hl hM ho
    have h : 0 < l.length := by omega
    obtain ⟨m, hm⟩ : ∃ m, m = min 64 l.length := ⟨_, rfl⟩
    rw [litT_step h, ← hm]
    have e : 2 * (m - 1) / 2 + 1 = m := by omega
    by_cases hb : M < out.length + m
    · rw [List.cons_append, unp_run6 (by omega) (by omega) (by rw [e]; omega)]
    · rw [List.cons_append, unp_run (by omega) (by omega) (by rw [e]; omega) (by rw [e, List.length_append, List.length_append, List.length_take]; omega), e]
      have hlt : (l.take m).length = m := by rw [List.length_take]; omega
      rw [List.append_assoc, List.take_append_of_le_length (by omega), List.take_of_length_le (by omega), List.drop_append_of_le_length (by omega), List.drop_of_length_le (by omega), List.nil_append]
      exact ih (l.drop m).length (by rw [List.length_drop]; omega) _ _ _ rfl (by rw [List.length_append, hlt, List.length_drop]; omega) (by rw [List.length_append, hlt]; omega)
theorem unp_low {xs : List Nat} (hx : ∀ j, xs.getD j 0 < 256) (M : Nat) (hM : M < xs.length) : ∀ (n told a : Nat), xs.length - a = n → told ≤ a → a ≤ xs.length → told ≤ M → unp M (xs.take told) (pk xs told a) = .bad 6 := by
  intro n
  induction n using Nat.strongRecOn with
  | ind n ih =>
    intro told a hn ht ha hto
    have htl : (xs.take told).length = told := by rw [List.length_take]; omega
    by_cases h : a < xs.length
    · by_cases h2 : (bst xs a).2 = 0
      · rw [pk_lit h h2]; exact ih (xs.length - (a + 1)) (by omega) told (a + 1) rfl (by omega) (by omega) hto
      · rw [pk_match h h2]
        rcases bst_good hx a with hg | ⟨g1, g2, g3, g4, g5, g6, g7⟩
        · rw [hg] at h2; exact absurd rfl h2
        · generalize bst xs a = s at *
          have hdl : ((xs.drop told).take (a - told)).length = a - told := by rw [List.length_take, List.length_drop]; omega
          by_cases hlow : M < a
          · exact unp_lits_low M _ _ _ _ rfl (by rw [htl, hdl]; omega) (by rw [htl]; exact hto)
          · rw [unp_lits _ _ _ _ _ rfl (by rw [htl, hdl]; omega)]
            have e1 : xs.take told ++ (xs.drop told).take (a - told) = xs.take a := by
              rw [← List.take_add, show told + (a - told) = a from by omega]
            rw [e1]
            have hal : (xs.take a).length = a := by rw [List.length_take]; omega
            have hv := vr_put (m := s.1 - 1) (by omega) (pk xs (a + s.2) (a + s.2))
            have e2 : (2 * (s.2 - 3) + 1) / 2 + 3 = s.2 := by omega
            by_cases hlow2 : M < a + s.2
            · rw [unp_match6 (by omega) (by omega) hv (by rw [hal]; omega) (by rw [hal, e2]; omega)]
            · rw [unp_match (by omega) (by omega) hv (by rw [hal]; omega) (by rw [hal, e2]; omega), e2, show s.1 - 1 + 1 = s.1 from by omega, rep_good g4 g6 s.2 g3 g7]
              rw [List.drop_left]
              exact ih (xs.length - (a + s.2)) (by omega) (a + s.2) (a + s.2) rfl (Nat.le_refl _) g3 (by omega)
    · rw [pk_end (by omega)]
      have := unp_lits_low M _ (xs.drop told) (xs.take told) [] rfl (by rw [htl, List.length_drop]; omega) (by rw [htl]; exact hto)
      rw [List.append_nil] at this
      exact this
end Go.Proofs.YtckjmabacibojaaDoor.Lz
namespace Go.Proofs.YtckjmabacibojaaDoor.Lz
open Go.ChangeShapes Go.WideShapes Go.ChangeAt Go.RowKit Go.Shelf
open Go.Proofs.YtckjmabacibojaaDoor.Wire Go.Proofs.YtckjmabacibojaaDoor.Map32
set_option linter.unusedVariables false

def PkRel (W : World) (G N : Nat) (sl : Value) (xs : List Nat) (av : Value) (wr : World) : Prop :=
  ∃ (a told : Nat) (v : Value) (ys : List Nat) (M : Nat → Option Value), a ≤ N ∧ told ≤ a ∧ av = .int .i64 (a : Int) ∧ Outs wr (G + 3) (G + 2) (G + 1) G told v sl ys ∧ Groups wr (G + 3) 3 (G + 3) M (seen xs a) ∧ ys ++ pk xs told a = pk xs 0 0 ∧ Ext W wr
def InRel (W : World) (G a L : Nat) (xs : List Nat) (av iv : Value) (wr : World) : Prop :=
  ∃ (k p : Nat) (M : Nat → Option Value), k ≤ L ∧ p = a + k ∧ iv = .int .i64 (k : Int) ∧ av = .int .i64 (p : Int) ∧ Groups wr (G + 3) 3 (G + 3) M (seen xs p) ∧ Keep (G + 3) W wr
/-- What Pack comes to. -/
def PkPost (w : World) (zs : List Nat) (e : Ending) (w' : World) : Prop := ∃ v, e = .returned v ∧ Wire.Own w w' v zs ∧ Ext w w'
theorem own_low {w : World} {a b : Nat} {e : TypeId} {size n : Nat} {v : Value} {xs : List Value} (h : w.ownsRow b e size v n xs) (hab : a ≤ b) : w.ownsRow a e size v n xs := by
  rcases h with ⟨hl, hq | ⟨g, cap, cur, hv, hb, r⟩⟩
  · exact ⟨hl, .inl hq⟩
  · exact ⟨hl, .inr ⟨g, cap, cur, hv, Nat.le_trans hab hb, r⟩⟩
theorem keep_old {a b c : World} {base : Nat} (h : Keep base b c) (e : Ext a b) (hb : a.heap.size ≤ base) : Ext a c :=
  ⟨h.low.os.trans e.os, h.low.tape.trans e.tape, h.low.output.trans e.output, Nat.le_trans e.size h.low.size, fun k hk => (h.low.block k (by omega)).trans (e.block k hk)⟩
set_option maxHeartbeats 8000000 in
set_option maxRecDepth 100000 in
theorem pack (A : Option Addr) (N c : Nat) (xs : List Nat) (w : World) (hB : Bs w A N xs) (hN : N ≤ 1000000) (hc1 : N ≤ c) (hc2 : c ≤ 9223372036854775807) :
    Calls Tryd.prog 13 #[.slice A N c] w (PkPost w (pk xs 0 0)) := by
  have hxl : xs.length = N := hB.1
  obtain ⟨G, hG⟩ : ∃ G, G = w.heap.size := ⟨_, rfl⟩
  have hAd : 0 < N → ∀ ad, A = some ad → ad.block < G := fun h0 ad ha => by
    obtain ⟨b, o, he, hb, _⟩ := hB.2.2 h0
    rw [ha] at he
    obtain rfl := Option.some.inj he
    rw [hG]; exact hb
  have hpl := pk_len hB.2.1 _ 0 0 rfl (Nat.le_refl _) (Nat.zero_le _)
  rw [hxl] at hpl
  have HB := Lib.hid hB; have HAD := Lib.hid hAd; have HXL := Lib.hid hxl; have HG := Lib.hid hG
  have HAP := Lib.hid (apart_of G)
  have HGD := Lib.hid (bst_good hB.2.1)
  obtain ⟨R, hR⟩ : ∃ R, R = pk xs 0 0 := ⟨_, rfl⟩
  have HR := Lib.hid hR
  rw [← hR] at hpl ⊢
  have hRl : R.length ≤ 2000000 := by omega
  obtain ⟨i0, hi0, hz0, hz1, hz2⟩ := info_parts info8
  have HI := Lib.hid (And.intro hi0 (And.intro hz0 (And.intro hz1 hz2))); clear hi0 hz0 hz1 hz2
  clear hB hAd hxl hR hpl hG
  have hmm := @run_makeMap Tryd.prog
  go_enter Tryd.func13, Tryd.ntmps13
  go_wp2_with fail
  have hE0 : Ext w ((((w.alloc (.cells #[.slice A N c] 22)).alloc (.cells #[.slice none 0 0] 22)).alloc (.cells #[.int .i64 0] 3)).alloc (.map #[] 0)) := ext_alloc (ext_alloc (ext_alloc (ext_alloc (Ext.rfl' w) _) _) _) _
  have hO0 : Outs ((((w.alloc (.cells #[.slice A N c] 22)).alloc (.cells #[.slice none 0 0] 22)).alloc (.cells #[.int .i64 0] 3)).alloc (.map #[] 0)) (w.heap.size + 3) (w.heap.size + 2) (w.heap.size + 1) w.heap.size 0 (.slice none 0 0) (.slice A N c) [] := by
    have b1 := Boxed.new w 22 (.slice A N c)
    have b2 := Boxed.new (w.alloc (.cells #[.slice A N c] 22)) 22 (.slice none 0 0)
    have b3 := Boxed.new ((w.alloc (.cells #[.slice A N c] 22)).alloc (.cells #[.slice none 0 0] 22)) 3 (.int .i64 0)
    simp only [World.size_alloc] at b2 b3
    exact ⟨b3.alloc _, (b2.alloc _).alloc _, ((b1.alloc _).alloc _).alloc _, World.ownsRow_nil _ _ _ _⟩
  have hG0 := Groups.new (((w.alloc (.cells #[.slice A N c] 22)).alloc (.cells #[.slice none 0 0] 22)).alloc (.cells #[.int .i64 0] 3)) (w.heap.size + 3) 3 (by simp only [World.size_alloc]; omega)
  simp only [World.size_alloc, Nat.add_assoc, Nat.reduceAdd] at hG0 ⊢
  have HE0 := Lib.hid hE0; have HO0 := Lib.hid hO0; have HG0 := Lib.hid hG0
  clear hE0 hO0 hG0 hmm
  obtain ⟨W0, hW0⟩ : ∃ W, W = ((((w.alloc (.cells #[.slice A N c] 22)).alloc (.cells #[.slice none 0 0] 22)).alloc (.cells #[.int .i64 0] 3)).alloc (.map #[] 0)) := ⟨_, rfl⟩
  rw [← hW0] at HE0 HO0 HG0 ⊢
  rw [← HG.out] at HO0 HG0 ⊢
  clear hW0
  go_wp2_with fail
  go_loopw [7] (fun av wr => PkRel w G N (.slice A N c) xs av wr) (fun av _ => N - (intOf av).toNat)
  case atStart => exact ⟨0, 0, _, _, _, Nat.zero_le _, Nat.le_refl _, rfl, HO0.out, HG0.out, by rw [List.nil_append], HE0.out⟩
  case round =>
    clear HO0 HG0 HE0
    obtain ⟨a, told, v, ys, M, ha, hta, rfl, hO, hGr, hE, hEx⟩ := hrel
    rw [← HR.out] at hE
    have hyl : ys.length ≤ 2000000 := by
      have e := congrArg List.length hE
      rw [List.length_append] at e
      omega
    have c2 := hO.b.cell
    have HO := Lib.hid hO; have HGr := Lib.hid hGr; have HE := Lib.hid hE; have HEx := Lib.hid hEx
    have HBr := Lib.hid (HB.out.ext hEx)
    clear hO hGr hE hEx
    obtain ⟨wo, hwo⟩ : ∃ wo, wo = wr := ⟨_, rfl⟩
    subst hwo
    by_cases hlt : a < N
    · have z0 : (a : Int) < (N : Int) := by omega
      go_wp2_with fail
      refine (best A N c a (G + 3) (G + 3) xs M _ HBr.out HGr.out hlt hN).mono ?_
      rintro e w1 ⟨rfl, b1⟩
      have HE1 := Lib.hid b1
      have c3 := (HO.out.ext b1).b.cell
      clear b1 c2
      obtain ⟨B, L, hBL⟩ : ∃ B L, bst xs a = (B, L) := ⟨_, _, rfl⟩
      have hgood := HGD.out a
      rw [hBL] at hgood ⊢
      simp only
      have HBL := Lib.hid hBL; clear hBL
      have HO1 := Lib.hid (HO.out.ext HE1.out)
      have HG1 := Lib.hid (HGr.out.ext HE1.out)
      have HB1 := Lib.hid (HBr.out.ext HE1.out)
      have HX1 := Lib.hid (ext_trans HEx.out HE1.out)
      by_cases hL : L = 0
      · subst hL
        have HPK : Hid (pk xs told a = pk xs told (a + 1)) := Lib.hid (pk_lit (by rw [HXL.out]; exact hlt) (by rw [HBL.out]))
        clear hgood
        go_wp2_with fail
        refine (remember A N c a (G + 3) (G + 3) xs M _ HB1.out (fun ad h => by have := HAD.out (by omega) ad h; omega) HG1.out hlt hN).mono ?_
        rintro e w2 ⟨rfl, M2, hG2, hK2⟩
        have HG2 := Lib.hid hG2; have HK2 := Lib.hid hK2; clear hG2 hK2
        go_wp2_with fail
        go_roundw
        case rel => exact ⟨a + 1, told, v, ys, M2, by omega, by omega, by go_num, HO1.out.keep HAP.out HK2.out, HG2.out, by rw [← HPK.out, ← HR.out]; exact HE.out, keep_old HK2.out HX1.out (by have := HG.out; omega)⟩
        case measure => simp [intOf]; omega
      · obtain ⟨h3, h66, haN, hB1, hB4, hBa⟩ : 3 ≤ L ∧ L ≤ 66 ∧ a + L ≤ N ∧ 1 ≤ B ∧ B ≤ 4096 ∧ B ≤ a := by
          rcases hgood with h | h
          · exact absurd (Prod.mk.inj h).2 hL
          · simp only at h; have := HXL.out; omega
        have HPK : Hid (ys ++ litT ((xs.drop told).take (a - told)) ++ [2 * (L - 3) + 1] ++ vb (B - 1) ++ pk xs (a + L) (a + L) = R) := Lib.hid (by
          have e := pk_match (xs := xs) (told := told) (a := a) (by rw [HXL.out]; exact hlt) (by rw [HBL.out]; exact hL)
          rw [HBL.out] at e
          rw [← HE.out, e]
          simp only [List.append_assoc, List.cons_append, List.nil_append])
        clear hgood
        have z1 : ((L : Int) == 0) = false := beq_eq_false_iff_ne.2 (by omega)
        clear hL
        go_wp2_with fail
        refine (putRuns G N c told a A xs ys v _ HB1.out HAD.out hN hc1 hc2 HO1.out hta (by omega) (by omega)).mono ?_
        rintro e w2 ⟨rfl, v2, hO2, hC2⟩
        obtain ⟨zs, hzs⟩ : ∃ zs, zs = ys ++ litT ((xs.drop told).take (a - told)) := ⟨_, rfl⟩
        rw [← hzs] at hO2
        rw [← hzs] at HPK
        clear hzs
        have hzl : zs.length ≤ 2000000 := by
          have e := congrArg List.length HPK.out
          simp only [List.length_append] at e
          omega
        have HO2 := Lib.hid hO2
        have HG2 := Lib.hid (Groups.chg HG1.out (by omega) (by omega) hC2)
        have HX2 := Lib.hid (hC2.old HX1.out (by have := HG.out; omega) (by have := HG.out; omega) (by have := HG.out; omega))
        have HB2 := Lib.hid (HB.out.ext HX2.out)
        clear hO2 hC2 c3
        obtain ⟨m, hm⟩ : ∃ m, m = 2 * (L - 3) + 1 := ⟨_, rfl⟩
        have q0 : (2 : Int) * ((L : Int) - 3) + 1 = (m : Int) := by omega
        have hm1 : m ≤ 127 := by omega
        have HM := Lib.hid hm; clear hm
        rw [← HM.out] at HPK
        have HO3 := Lib.hid (HO2.out.ext (ext_alloc (Ext.rfl' w2) (.cells #[.int .u8 (m : Int)] 5)))
        have HSR := Lib.hid (src_one w2 m)
        have d1 := HO2.out.o.cell
        have hzs := HO3.out.t.lt
        go_wp2_with (at_builtin; refine wpList_app_own rfl (.tmp 34) (.tmp 40) 22 22 rfl 5 i0 (.int .u8 0) 1 1 Tryd.underlying22 HI.out.1 HI.out.2.1 HI.out.2.2.1 HI.out.2.2.2 rfl (G + 3) v2 _ zs.length (c8 zs) rfl rfl HO3.out.r [m].length (c8 [m]) HSR.out (by unfold maxLen; simp; omega) (by simp; omega) (by omega) ?_; intro v5 w5 hown5 hgr5; have hst := Outs.put HO3.out HAP.out (zs := zs ++ [m]) (by rw [List.length_append, c8_app]; exact hown5) hgr5; obtain ⟨A5, k5, rfl, _⟩ := own_shape hown5; obtain ⟨hc5, hf5, hO5⟩ := hst; have HO5 := Lib.hid hO5; have HC5 := Lib.hid ((Chg.of_ext (base := G + 3) (bt := G + 2) (bo := G + 1) (ext_alloc (Ext.rfl' w2) (.cells #[.int .u8 (m : Int)] 5))).trans ((Chg.of_row HO3.out.r hgr5).trans (Chg.of_set (G + 1) (.slice A5 (zs.length + [m].length) k5) (.inr rfl)))); clear hown5 hgr5 hO5)
        have HO6 : Hid (Outs (w5.setCell ⟨G + 1, 0, none⟩ (.slice A5 (zs.length + 1) k5)) (G + 3) (G + 2) (G + 1) G a (.slice A5 (zs.length + 1) k5) (.slice A N c) (zs ++ [m])) := HO5
        have HC6 : Hid (Chg (G + 3) (G + 2) (G + 1) w2 (w5.setCell ⟨G + 1, 0, none⟩ (.slice A5 (zs.length + 1) k5))) := HC5
        clear HO5 HC5 HO3 HSR hzs hc5 hf5 d1
        obtain ⟨W1, hW1⟩ : ∃ W, W = w5.setCell ⟨G + 1, 0, none⟩ (.slice A5 (zs.length + 1) k5) := ⟨_, rfl⟩
        rw [← hW1] at HO6 HC6 ⊢
        clear hW1
        have HG3 := Lib.hid (Groups.chg HG2.out (by omega) (by omega) HC6.out)
        have HX3 := Lib.hid (HC6.out.old HX2.out (by have := HG.out; omega) (by have := HG.out; omega) (by have := HG.out; omega))
        clear HG2 HX2 HC6 HB2
        obtain ⟨q, hq⟩ : ∃ q, q = zs ++ [m] := ⟨_, rfl⟩
        rw [← hq] at HO6 HPK
        have hql : q.length ≤ 2000001 := by rw [hq, List.length_append]; simp; omega
        obtain ⟨u5, hu5⟩ : ∃ u5, u5 = Value.slice A5 (zs.length + 1) k5 := ⟨_, rfl⟩
        rw [← hu5] at HO6
        clear hq hu5
        obtain ⟨bb, hbb⟩ : ∃ bb, bb = B - 1 := ⟨_, rfl⟩
        have q1 : (B : Int) - 1 = (bb : Int) := by omega
        have hbb2 : bb < 4096 := by omega
        rw [← hbb] at HPK
        clear hbb
        obtain ⟨r, hr⟩ : ∃ r, r = q ++ vb bb := ⟨_, rfl⟩
        rw [← hr] at HPK
        have HRR := Lib.hid hr; clear hr
        go_cut [] (fun wx => (∃ v9, Outs wx (G + 3) (G + 2) (G + 1) G a v9 (.slice A N c) r) ∧ Chg (G + 3) (G + 2) (G + 1) W1 wx)
        case first =>
          have d1 := HO6.out.o.cell
          have q2 : IntKind.i64.wrap (bb : Int) = (bb : Int) := by rw [IntKind.wrap_i64]; omega
          have q3 : IntKind.u64.wrap (bb : Int) = (bb : Int) := by rw [IntKind.wrap_u64]; omega
          have hv1 := vb_ten (n := bb) (by omega)
          refine wp_region_held_drew (S := fun _ => True) hmx trivial (fun _ => ?_)
          (refine wpAnyH_take (i := 1) (v := ?_) rfl (by kernel_rfl) (by kernel_rfl) (by kernel_rfl) (fun _ _ _ h => h) (Or.inl ⟨by rfl, ?_⟩) trivial ?_); rotate_left
          · (intro w hSw; go_simp; try with_reducible rfl)
          (refine wpAnyH_take (i := 2) (v := ?_) rfl (by kernel_rfl) (by kernel_rfl) (by kernel_rfl) (fun _ _ _ h => h) (Or.inl ⟨by rfl, ?_⟩) trivial ?_); rotate_left
          · (intro w hSw; go_simp; try with_reducible rfl)
          (refine wpAnyH_take (i := 3) (v := ?_) rfl (by kernel_rfl) (by kernel_rfl) (by kernel_rfl) (fun _ _ _ h => h) (Or.inl ⟨by rfl, ?_⟩) trivial ?_); rotate_left
          · (intro w hSw; go_simp; try with_reducible rfl)
          refine wpAnyH_ready (rs := [0, 4]) (by kernel_rfl) (by simp) ?_
          refine AllReadyH.cons rfl (fun K hK => ?_) (AllReadyH.cons rfl (fun K hK => ?_) AllReadyH.nil)
          · go_simp
            refine hK.out _ _ trivial (fun _ => ?_)
            clear hK K
            refine wpAnyH_ready (rs := [4]) (by kernel_rfl) (by simp) ?_
            refine AllReadyH.cons rfl (fun K hK => ?_) AllReadyH.nil
            go_simp
            refine (put none 0 0 [] bb (by omega) _ (Bs.none _ _) (fun _ => ⟨rfl, rfl⟩) (by omega) (by omega) (by omega)).mono ?_
            rintro e w8 ⟨g2, k2, rfl, hd3, hd4, hg2, hO2, hE8⟩
            rw [List.nil_append] at hO2 hd3 ⊢
            have he8 : Ext W1 w8 := ext_trans (ext_drew (Ext.rfl' W1)) hE8
            have HO8 := Lib.hid (HO6.out.ext he8)
            have hc8 := HO8.out.o.cell
            obtain ⟨v2', w9, hrun, ho2, hgr2⟩ := run_app_own (P := Tryd.prog) 22 22 22 5 i0 (.int .u8 0) 1 1 Tryd.underlying22 HI.out.1 HI.out.2.1 HI.out.2.2.1 HI.out.2.2.2 rfl (G + 3) u5 q.length (c8 q) HO8.out.r (.slice (some ⟨g2, 0, none⟩) (vb bb).length k2) (vb bb).length (c8 (vb bb)) ((Own.bs hO2 (vb_byte bb)).src Tryd.underlying22 k2) (by unfold maxLen; omega) (by omega) (by have := HO8.out.t.lt; omega)
            have ho3 : w9.ownsRow (G + 3) 5 1 v2' r.length (c8 r) := by rw [HRR.out, List.length_append, c8_app]; exact ho2
            have hst := Outs.put HO8.out HAP.out ho3 hgr2
            obtain ⟨A2, c3, rfl, _⟩ := own_shape ho3
            obtain ⟨hc9, hf9, hO9⟩ := hst
            have HO9 := Lib.hid hO9
            have HC9 := Lib.hid ((Chg.of_ext (base := G + 3) (bt := G + 2) (bo := G + 1) he8).trans ((Chg.of_row HO8.out.r hgr2).trans (Chg.of_set (G + 1) (.slice A2 r.length c3) (.inr rfl))))
            have HRUN := Lib.hid hrun
            clear hrun ho2 ho3 hgr2 hO2 hE8 he8 hO9
            (try go_wp2_with fail)
            refine hK.out _ _ trivial (fun _ => ?_)
            clear hK K
            refine wpAnyH_ready (rs := [5]) (by kernel_rfl) (by simp) ?_
            refine AllReadyH.cons rfl (fun K hK => ?_) AllReadyH.nil
            refine wanted_append rfl (.tmp 42) (.tmp 46) 22 22 rfl _ _ rfl rfl HRUN.out ?_
            refine hK.out _ _ trivial (fun _ => ?_)
            clear hK K
            refine wpAnyH_ready (rs := [6]) (by kernel_rfl) (by simp) ?_
            refine AllReadyH.cons rfl (fun K hK => ?_) AllReadyH.nil
            go_simp
            refine hK.out _ _ trivial (fun _ => ?_)
            clear hK K
            refine wpAnyH_done (by kernel_rfl) ?_ _
            go_wp2_with fail
            go_meet
            exact ⟨⟨_, HO9.out⟩, HC9.out⟩
          · go_simp
            refine (put none 0 0 [] bb (by omega) _ (Bs.none _ _) (fun _ => ⟨rfl, rfl⟩) (by omega) (by omega) (by omega)).mono ?_
            rintro e w8 ⟨g2, k2, rfl, hd3, hd4, hg2, hO2, hE8⟩
            rw [List.nil_append] at hO2 hd3 ⊢
            have he8 : Ext W1 w8 := ext_trans (ext_drew (Ext.rfl' W1)) hE8
            have HO8 := Lib.hid (HO6.out.ext he8)
            have hc8 := HO8.out.o.cell
            obtain ⟨v2', w9, hrun, ho2, hgr2⟩ := run_app_own (P := Tryd.prog) 22 22 22 5 i0 (.int .u8 0) 1 1 Tryd.underlying22 HI.out.1 HI.out.2.1 HI.out.2.2.1 HI.out.2.2.2 rfl (G + 3) u5 q.length (c8 q) HO8.out.r (.slice (some ⟨g2, 0, none⟩) (vb bb).length k2) (vb bb).length (c8 (vb bb)) ((Own.bs hO2 (vb_byte bb)).src Tryd.underlying22 k2) (by unfold maxLen; omega) (by omega) (by have := HO8.out.t.lt; omega)
            have ho3 : w9.ownsRow (G + 3) 5 1 v2' r.length (c8 r) := by rw [HRR.out, List.length_append, c8_app]; exact ho2
            have hst := Outs.put HO8.out HAP.out ho3 hgr2
            obtain ⟨A2, c3, rfl, _⟩ := own_shape ho3
            obtain ⟨hc9, hf9, hO9⟩ := hst
            have HO9 := Lib.hid hO9
            have HC9 := Lib.hid ((Chg.of_ext (base := G + 3) (bt := G + 2) (bo := G + 1) he8).trans ((Chg.of_row HO8.out.r hgr2).trans (Chg.of_set (G + 1) (.slice A2 r.length c3) (.inr rfl))))
            have HRUN := Lib.hid hrun
            clear hrun ho2 ho3 hgr2 hO2 hE8 he8 hO9
            (try go_wp2_with fail)
            refine hK.out _ _ trivial (fun _ => ?_)
            clear hK K
            refine wpAnyH_ready (rs := [0]) (by kernel_rfl) (by simp) ?_
            refine AllReadyH.cons rfl (fun K hK => ?_) AllReadyH.nil
            go_simp
            refine hK.out _ _ trivial (fun _ => ?_)
            clear hK K
            refine wpAnyH_ready (rs := [5]) (by kernel_rfl) (by simp) ?_
            refine AllReadyH.cons rfl (fun K hK => ?_) AllReadyH.nil
            refine wanted_append rfl (.tmp 42) (.tmp 46) 22 22 rfl _ _ rfl rfl HRUN.out ?_
            refine hK.out _ _ trivial (fun _ => ?_)
            clear hK K
            refine wpAnyH_ready (rs := [6]) (by kernel_rfl) (by simp) ?_
            refine AllReadyH.cons rfl (fun K hK => ?_) AllReadyH.nil
            go_simp
            refine hK.out _ _ trivial (fun _ => ?_)
            clear hK K
            refine wpAnyH_done (by kernel_rfl) ?_ _
            go_wp2_with fail
            go_meet
            exact ⟨⟨_, HO9.out⟩, HC9.out⟩
        case rest =>
          obtain ⟨⟨v9, hO9⟩, hC9⟩ := hcut
          have HG9 := Lib.hid (Groups.chg HG3.out (by omega) (by omega) hC9)
          have HX9 := Lib.hid (hC9.old HX3.out (by have := HG.out; omega) (by have := HG.out; omega) (by have := HG.out; omega))
          have HO9 := Lib.hid hO9
          clear hO9 hC9 q1 q0 HG3 HX3 HO6
          go_wp2_with fail
          go_loopw [7, 49] (fun av iv wr => InRel wc G a L xs av iv wr) (fun _ iv _ => L - (intOf iv).toNat)
          case atStart => exact ⟨0, a, M, Nat.zero_le _, rfl, rfl, rfl, HG9.out, Keep.refl _ _⟩
          case round =>
            obtain ⟨k, p, M2, hk, hp, rfl, rfl, hG2, hK2⟩ := hrel
            have HG2 := Lib.hid hG2; have HK2 := Lib.hid hK2
            have HOK := Lib.hid (HO9.out.keep HAP.out hK2)
            have HXK := Lib.hid (keep_old hK2 HX9.out (by have := HG.out; omega))
            clear hG2 hK2
            have d2 := HOK.out.b.cell
            by_cases hkl : k < L
            · have z2 : (k : Int) < (L : Int) := by omega
              have hpN : p < N := by omega
              have HP := Lib.hid hp; clear hp
              go_wp2_with fail
              refine (remember A N c p (G + 3) (G + 3) xs M2 _ (HB.out.ext HXK.out) (fun ad h => by have := HAD.out (by omega) ad h; omega) HG2.out hpN hN).mono ?_
              rintro e w7 ⟨rfl, M7, hG7, hK7⟩
              have HG7 := Lib.hid hG7; have HK7 := Lib.hid hK7; clear hG7 hK7
              go_wp2_with fail
              go_roundw
              case rel => exact ⟨k + 1, p + 1, M7, by omega, by have := HP.out; omega, by go_num, by go_num, HG7.out, HK2.out.trans HK7.out⟩
              case measure => simp [intOf]; omega
            · have z2 : ¬ (k : Int) < (L : Int) := by omega
              have hpl : p = a + L := by omega
              have d0 := HOK.out.t.cell; have f0 := HOK.out.t.frozen
              have HP := Lib.hid hpl; clear hp hpl
              have hpN : p ≤ N := by have := HP.out; omega
              have hpa : a < p := by have := HP.out; omega
              go_wp2_with fail
              go_roundw
              case rel => exact ⟨p, p, v9, r, M2, hpN, Nat.le_refl _, rfl, HOK.out.tell HAP.out rfl, Groups.chg HG2.out (by omega) (by omega) (Chg.of_set (bt := G + 2) (bo := G + 1) (G + 2) _ (.inl rfl)), by rw [← HR.out, HP.out]; exact HPK.out, (Chg.of_set (base := G + 3) (bt := G + 2) (bo := G + 1) (G + 2) _ (.inl rfl)).old HXK.out (by have := HG.out; omega) (by have := HG.out; omega) (by have := HG.out; omega)⟩
              case measure => simp [intOf]; omega
    · have haN : a = N := by omega
      have z0 : ¬ (a : Int) < (N : Int) := by omega
      have HF : Hid (ys ++ litT ((xs.drop told).take (N - told)) = R) := Lib.hid (by
        rw [← HE.out, pk_end (by rw [HXL.out]; omega), List.take_of_length_le (by rw [List.length_drop, HXL.out]; exact Nat.le_refl _)])
      have HAN := Lib.hid haN; clear haN
      have htN : told ≤ N := by omega
      go_wp2_with fail
      refine (putRuns G N c told N A xs ys v _ HBr.out HAD.out hN hc1 hc2 HO.out htN (Nat.le_refl _) (by omega)).mono ?_
      rintro e w2 ⟨rfl, v2, hO2, hC2⟩
      rw [HF.out] at hO2
      have d1 := hO2.o.cell
      have HO2 := Lib.hid hO2
      have HX2 := Lib.hid (hC2.old HEx.out (by have := HG.out; omega) (by have := HG.out; omega) (by have := HG.out; omega))
      clear hO2 hC2 c2
      go_wp2_with fail
      go_ret
      exact ⟨_, rfl, own_low HO2.out.r (by have := HG.out; omega), HX2.out⟩
end Go.Proofs.YtckjmabacibojaaDoor.Lz
namespace Go.Proofs.YtckjmabacibojaaDoor.Lz
open Go.ChangeShapes Go.WideShapes Go.ChangeAt Go.RowKit
open Go.Proofs.YtckjmabacibojaaDoor.Wire Go.Proofs.YtckjmabacibojaaDoor.Map32
set_option linter.unusedVariables false

theorem zeros_get (N j : Nat) : (List.replicate N 0).getD j 0 = 0 := by
  rw [List.getD_eq_getElem?_getD, List.getElem?_replicate]
  split <;> rfl
theorem zeros_small (N : Nat) : ∀ j, (List.replicate N 0).getD j 0 < 256 := fun j => by rw [zeros_get]; omega
theorem bst_zero (xs : List Nat) : bst xs 0 = (0, 0) := by
  unfold bst
  split
  · rfl
  · rfl
theorem bst_end {xs : List Nat} {a : Nat} (h : xs.length < a + 3) : bst xs a = (0, 0) := by unfold bst; rw [if_neg (by omega)]
theorem bst_zeros {N a : Nat} (h1 : 1 ≤ a) (h : a + 3 ≤ N) : bst (List.replicate N 0) a = (1, min 66 (N - a)) := by
  have hl : (List.replicate N 0).length = N := List.length_replicate
  unfold bst
  rw [if_pos (by rw [hl]; exact h)]
  have hk : ∀ p, key (List.replicate N 0) p = 0 := fun p => by unfold key; rw [zeros_get, zeros_get, zeros_get]
  have hs : ∃ r, seen (List.replicate N 0) a (key (List.replicate N 0) a) = r ++ [a - 1] := by
    obtain ⟨b, rfl⟩ : ∃ b, a = b + 1 := ⟨a - 1, by omega⟩
    rw [hk, seen_hi, if_pos ⟨by rw [hl]; omega, hk b⟩]
    exact ⟨_, rfl⟩
  obtain ⟨r, hr⟩ := hs
  have hm : mt (List.replicate N 0) (a - 1) a = min 66 (N - a) := by
    rw [mt_most rfl (fun j _ => by rw [zeros_get, zeros_get]), hl]
  rw [hr, List.reverse_append]
  have e : scan (List.replicate N 0) a ([a - 1].reverse ++ r.reverse) = (1, min 66 (N - a)) := by
    have e1 : scan (List.replicate N 0) a [a - 1].reverse = (1, min 66 (N - a)) := by
      show pick _ _ (0, 0) (a - 1) = _
      unfold pick
      rw [hm, if_pos (by show 0 < _; omega), show a - (a - 1) = 1 from by omega]
    rw [scan_app (by rw [e1, hl]), e1]
  rw [e]
  unfold mask
  rw [if_neg (by simp)]
theorem pk_zeros (N : Nat) : ∀ (n a : Nat), N - a = n → 1 ≤ a → a ≤ N → (pk (List.replicate N 0) a a).length ≤ 2 * ((N - a) / 66) + 3 := by
  have hl : (List.replicate N 0).length = N := List.length_replicate
  intro n
  induction n using Nat.strongRecOn with
  | ind n ih =>
    intro a hn h1 ha
    by_cases h3 : a + 3 ≤ N
    · have hb := bst_zeros h1 h3
      rw [pk_match (by rw [hl]; omega) (by rw [hb]; simp only; omega), hb]
      simp only [Nat.sub_self, List.take_zero, litT_nil, List.nil_append, List.length_cons, List.length_append]
      rw [vb_one (by omega)]
      by_cases h66 : 66 ≤ N - a
      · rw [show min 66 (N - a) = 66 from by omega]
        have := ih (N - (a + 66)) (by omega) (a + 66) rfl (by omega) (by omega)
        omega
      · rw [show a + min 66 (N - a) = N from by omega, pk_end (by rw [hl]; exact Nat.le_refl _), List.drop_of_length_le (by rw [hl]; exact Nat.le_refl _), litT_nil]
        simp
    · have hz : ∀ b, a ≤ b → b ≤ N → (pk (List.replicate N 0) a b).length ≤ 3 := by
        intro b
        induction hd : N - b using Nat.strongRecOn generalizing b with
        | ind d ihd =>
          intro hab hbN
          by_cases hlt : b < N
          · rw [pk_lit (by rw [hl]; exact hlt) (by rw [bst_end (by rw [hl]; omega)])]
            exact ihd (N - (b + 1)) (by omega) (b + 1) rfl (by omega) (by omega)
          · rw [pk_end (by rw [hl]; omega), litT_len _ _ rfl, List.length_drop, hl]; omega
      have := hz a (Nat.le_refl _) ha
      omega
theorem pk_row (N : Nat) (hN : 0 < N) : (pk (List.replicate N 0) 0 0).length ≤ 2 + 2 * (N / 66 + 1) + 2 := by
  have hl : (List.replicate N 0).length = N := List.length_replicate
  rw [pk_lit (by rw [hl]; exact hN) (by rw [bst_zero])]
  by_cases h3 : 1 + 3 ≤ N
  · have hb := bst_zeros (N := N) (a := 1) (Nat.le_refl _) h3
    rw [pk_match (by rw [hl]; omega) (by rw [hb]; simp only; omega), hb]
    have h4 := pk_zeros N _ (1 + min 66 (N - 1)) rfl (by omega) (by omega)
    simp only [Nat.zero_add, Nat.sub_self, List.length_cons, List.length_append]
    rw [vb_one (by omega), litT_len _ _ rfl, List.length_take, List.length_drop, hl]
    by_cases h66 : 66 ≤ N - 1
    · rw [show min 66 (N - 1) = 66 from by omega] at h4 ⊢
      omega
    · rw [show 1 + min 66 (N - 1) = N from by omega] at h4 ⊢
      rw [pk_end (by rw [hl]; exact Nat.le_refl _), List.drop_of_length_le (by rw [hl]; exact Nat.le_refl _), litT_nil] at h4 ⊢
      simp only [List.length_nil]
      omega
  · have h4 := pk_len (zeros_small N) _ 0 (0 + 1) rfl (by omega) (by rw [hl]; omega)
    rw [hl] at h4
    omega
end Go.Proofs.YtckjmabacibojaaDoor.Lz
