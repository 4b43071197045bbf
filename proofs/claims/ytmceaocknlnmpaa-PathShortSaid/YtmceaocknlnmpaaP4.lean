/- The document's tiles around one, walked. -/
import Derived.Test.YtmceaocknlnmpaaGrdG
import Derived.RangeFuncNested
import Derived.RangeFuncBound
import Derived.RangeFuncFrom
import Derived.RangeFuncCalls
import Derived.RangeFuncLeaves
import Derived.RangeFuncBox
import Derived.Test.YtmceaocknlnmpaaP2
import Derived.Shelf.Abstract
import Derived.Shelf.RegionOpen
import Derived.OwnWalkIn
import Derived.TacticsInMore
import Derived.LoopNIn
import Derived.LoopIn
import Derived.Sort.CutIn
import Derived.OrdersHeld
import Derived.Deep.RegionHeld
namespace Go.Proofs.Ytmceaocknlnmpaa.Grid
open Go.ChangeShapes Go.WideShapes Go.ChangeAt Go.RowKit
set_option linter.unusedVariables false

def RaRel (w : World) (W P t : Nat) (f : Int) (ov iv : Value) (wr : World) : Prop := ∃ k : Nat, k ≤ P ∧ iv = .int .i64 (k : Int) ∧ Row w wr ov (upto W t f k) ∧ Ext w wr
end Go.Proofs.Ytmceaocknlnmpaa.Grid
namespace Go.Proofs.Ytmceaocknlnmpaa
open Go.RowKit
set_option linter.unusedVariables false

/-- What is said does not hang on the cell of block b. -/
def StoreAt {β : Type} (b : Nat) (J : β → World → Prop) : Prop := ∀ s W v, J s W → J s (W.setCell ⟨b, 0, none⟩ v)
/-- The function calls yield with each of a list that S allows, whatever the caller says of the world, if it does not hang on block b. -/
def Rounds {α : Type} (F : Fence) (n : Nat) (P : Program) (g : Nat) (lb : Array Value) (encs : α → Array Value) (b : Nat) (Kp : World → World → Prop) (S : List α → Prop) (N : Nat) (w : World) : Prop :=
  ∀ (l : Nat) (J : List α → World → Prop) (W : World), Below w.heap.size w W → AbidesFrom W.heap.size J → StoreAt b J →
    (∀ pre x W1, J pre W1 → pre.length < N → YieldAt F (n - 1) P l (encs x) W1 fun e W' => e = .returned (.bool true) ∧ J (pre ++ [x]) W' ∧ Kp W1 W') →
    J [] W → CallsIn F n P g (#[.func (.yield l) #[] #[]] ++ lb) W fun e W' => (∃ v, e = .returned v) ∧ ∃ xs, S xs ∧ J xs W'
/-- The loop's own two blocks: its record, and that for deferred calls. -/
def Book (L D : Nat) (r : Loop) (W : World) : Prop := W.heap[L]? = some (.loop r) ∧ W.heap[D]? = some (.deferred (some []))
theorem Book.store {L D b : Nat} {r : Loop} {W : World} (h : Book L D r W) (hL : b ≠ L) (hD : b ≠ D) (v : Value) : Book L D r (W.setCell ⟨b, 0, none⟩ v) :=
  ⟨(Below.heap_setCell W ⟨b, 0, none⟩ v L (Ne.symm hL)).trans h.1, (Below.heap_setCell W ⟨b, 0, none⟩ v D (Ne.symm hD)).trans h.2⟩
theorem Book.turn {L D : Nat} {r r' : Loop} {W : World} (h : Book L D r W) (hLD : L ≠ D) : Book L D r' (W.putObj L (.loop r')) :=
  ⟨World.putObj_heap_same (Array.getElem?_eq_some_iff.1 h.1).1, (World.putObj_heap_other (Ne.symm hLD)).trans h.2⟩
theorem Book.others {L D : Nat} {r : Loop} {W W' : World} (h : Book L D r W) (k : KeepsOthers W W') : Book L D r W' := ⟨k.same _ _ h.1 rfl, k.same _ _ h.2 rfl⟩
theorem Book.abides {L D : Nat} {r : Loop} {W W' : World} {row : Option Nat} (h : Book L D r W) (g : W.grownBy W' row) (hr : ∀ k, row = some k → ∃ o : Obj, W.heap[k]? = some o ∧ o.isWalk = true) : Book L D r W' :=
  ⟨(grownBy_keeps g hr h.1 rfl).trans h.1, (grownBy_keeps g hr h.2 rfl).trans h.2⟩
section
variable {F : Fence} {n : Nat} {P : Program}
theorem range_rounds {α : Type} {g : Operand} {ps : Array Tmp} {assign body : Code} {Q : Exit → Act → World → Prop} {a : Act} {w : World} (hro : F.round = none) (h1 : 1 ≤ n) {gf : Nat} {lb : Array Value}
    (hg : a.eval g = .func (.func gf) #[] lb) (hFg : F.fn gf) (eg : ∀ args w, (callFunc gf args).run P w = .ok (.enter gf args) w) {encs : α → Array Value} {b : Nat} {Kp : World → World → Prop} {S : List α → Prop} {N : Nat}
    (hb : b < w.heap.size) (hseq : Rounds F (n - 1) P gf lb encs b Kp S N w) (hKt : ∀ {A B C : World}, Kp A B → Kp B C → Kp A C)
    (hKb : ∀ (W : World) (l : Nat) (o o' : Obj), w.heap.size ≤ l → W.heap[l]? = some o → o.isCells = false → o.isWalk = false → Kp W (W.putObj l o')) (hps : ∀ x, (encs x).size = ps.size)
    (I : List α → World → Prop) (hI : OwnFrom w.heap.size I) (hIb : StoreAt b I) (h0 : I [] w) (a₁ : α → Act)
    (hassign : ∀ (l : Nat) (x : α) (W : World) (K : Act → World → Prop), K (a₁ x) W →
      assign.wpIn (F.inRound l) (n - 1 - 1) P (Exit.then K (fun _ _ _ => False)) { tmps := (ps.zip (encs x)).foldl (fun t (p, v) => t.setIfInBounds p v) a.tmps, defers := [] } W)
    (hbody : ∀ (l : Nat) (pre : List α) (x : α) (W : World), I pre W → pre.length < N → body.wpIn (F.inRound l) (n - 1 - 1) P (ownPostK Kp I (fun _ _ _ => False) (pre ++ [x]) W) (a₁ x) W)
    (hdone : ∀ (D : Nat) (xs : List α) (W : World), w.heap.size ≤ D → S xs → I xs W → W.heap[D]? = some (.deferred (some [])) → Q .normal { a with defers := { target := .collected D, args := #[] } :: a.defers } W) :
    (Code.rangeFunc g ps assign body).wpIn F n P Q a w := by
  refine wpIn_rangeFunc (fun fn hfn => ?_)
  rw [hro]
  obtain ⟨D, hD⟩ : ∃ D, D = w.heap.size := ⟨_, rfl⟩
  obtain ⟨r0, hr0⟩ : ∃ r0 : Loop, r0 = { state := .ready, pending := none, fn, tmps := a.tmps, params := ps, assign, body, defers := D } := ⟨_, rfl⟩
  obtain ⟨W1, hW1⟩ : ∃ W1, W1 = (w.alloc (.deferred (some []))).alloc (.loop r0) := ⟨_, rfl⟩
  have hbk : Book (D + 1) D r0 W1 := by
    rw [hW1, hD]
    refine ⟨?_, (Below.heap_alloc _ _ _ (by simp)).trans (World.alloc_heap_new w _)⟩
    have := World.alloc_heap_new (w.alloc (.deferred (some []))) (.loop r0)
    rwa [World.size_alloc] at this
  have hsz : W1.heap.size = D + 2 := by rw [hW1, hD]; simp
  have hne : D + 1 ≠ D := by omega
  have hI1 : I [] W1 := by rw [hW1]; exact hI.alloc _ (hI.alloc _ h0)
  have hbel : Below w.heap.size w W1 := by rw [hW1]; exact ((Below.refl _ w).alloc (Nat.le_refl _) _).alloc (by simp) _
  refine ⟨D + 1, [{ target := .collected D, args := #[] }], W1, { target := .fn (.func gf) lb, args := #[.func (.yield (D + 1)) #[] #[]] }, W1, gf, #[.func (.yield (D + 1)) #[] #[]] ++ lb, W1, ?_, ?_, ?_, ?_, fun _ => h1, ?_⟩
  · rw [hW1, hr0, hD]; exact run_enterLoop_outer _ _ _ _ _
  · simp only [resolve, hg]
    simp [go_sem]
  · intro f' hf'; simp [Target.leads] at hf'; subst hf'; exact hFg
  · simp [invoke, go_sem, eg]
  · refine (hseq (D + 1) (fun pre W => I pre W ∧ Book (D + 1) D r0 W) W1 hbel (fun s A B row hs hgr hr => ⟨hI s A B row hs.1 hgr (fun k e => ?_), hs.2.abides hgr (fun k e => (hr k e).2)⟩)
      (fun s W v hs => ⟨hIb s W v hs.1, hs.2.store (by omega) (by omega) v⟩) (fun pre x W hs hlen => ?_) ⟨hI1, hbk⟩).mono ?_
    · obtain ⟨hk, o, ho, hw⟩ := hr k e
      exact ⟨by omega, o, ho, Obj.not_cells_of_walk hw⟩
    · obtain ⟨hi, hk⟩ := hs
      have hy := run_yield (P := P) (args := encs x) hk.1 (by rw [hr0]; exact hps x)
      rw [hr0] at hy
      refine ⟨fn, _, assign, body, hy, roundIn_of_wpIn hfn (hassign _ x W _ ⟨_, run_beginRound hk.1 (by rw [hr0]), ?_⟩)⟩
      have hk2 : Book (D + 1) D { r0 with state := .busy } (W.putObj (D + 1) (.loop { r0 with state := .busy })) := hk.turn hne
      refine wpIn_mono (hbody _ pre x _ (hI.putObj _ hi (by omega) hk.1 rfl) hlen) ?_
      rintro e a3 W3 hp
      cases e with
      | normal =>
        obtain ⟨ho3, hkp3, hi3⟩ := hp
        have hk3 := hk2.others ho3
        have hend := run_endRound (P := P) none hk3.1
        have hk4 : Book (D + 1) D r0 (W3.putObj (D + 1) (.loop r0)) := hk3.turn hne
        have er : ({ ({ r0 with state := .busy } : Loop) with state := if (none : Option Code).isNone then .ready else .done, pending := none } : Loop) = r0 := by rw [hr0]; rfl
        rw [er] at hend
        exact ⟨_, _, hend, rfl, ⟨hI.putObj _ hi3 (by omega) hk3.1 rfl, hk4⟩, hKt (hKt (hKb _ _ _ _ (by omega) hk.1 rfl rfl) hkp3) (hKb _ _ _ _ (by omega) hk3.1 rfl rfl)⟩
      | ret => exact hp.2.elim
      | exit id => exact hp.2.elim
      | goto t => exact hp.2.elim
      | panic ch => exact hp.elim
      | outgrown => exact hp.elim
    · rintro e W2 ⟨⟨v, rfl⟩, xs, hS, hi, hk⟩
      have hend := run_endLoop (P := P) hk.1 (by rw [hr0]; simp)
      have ep : r0.pending = none := by rw [hr0]
      rw [ep] at hend
      exact ⟨none, _, hend, hdone _ xs _ (by omega) hS (hI.putObj _ hi (by omega) hk.1 rfl) ((World.putObj_heap_other (by omega)).trans hk.2)⟩
end
end Go.Proofs.Ytmceaocknlnmpaa
namespace Go.Proofs.Ytmceaocknlnmpaa.Grid
open Go.ChangeShapes Go.WideShapes Go.ChangeAt Go.RowKit Go.Shelf
set_option linter.unusedVariables false

/-- The two blocks that are read between rounds stay as they were. -/
def KpA (bm bf : Nat) (w w' : World) : Prop := w.heap.size ≤ w'.heap.size ∧ ∀ k, k = bm ∨ k = bf → k < w.heap.size → w'.heap[k]? = w.heap[k]?
theorem KpA.trans {x g : Nat} {a b c : World} (h : KpA x g a b) (k : KpA x g b c) : KpA x g a c := ⟨Nat.le_trans h.1 k.1, fun i hi hl => (k.2 i hi (Nat.lt_of_lt_of_le hl h.1)).trans (h.2 i hi hl)⟩
theorem Blk.kpA {bm bf : Nat} {w w' : World} {g : Nat} {t : TypeId} {cs : Array Value} (h : Blk w g t cs) (k : KpA bm bf w w') (hg : g = bm ∨ g = bf) : Blk w' g t cs := (k.2 g hg h.lt).trans h
def ORel (bm bf W H y F t : Nat) (T : ByteArray) (J : List Nat → World → Prop) (rv : Value) (wr : World) : Prop :=
  ∃ r : Nat, y - F ≤ r ∧ r ≤ min H (y + F + 1) ∧ rv = .int .i64 (r : Int) ∧ J (upto W t (F : Int) (r * W)) wr ∧ Blk wr bm 25 #[.int .i64 (W : Int), .int .i64 (H : Int), .string T] ∧ Blk wr bf 3 #[.int .i64 (F : Int)]
def CRel (bm bf W H x F L t r : Nat) (T : ByteArray) (J : List Nat → World → Prop) (cv : Value) (wr : World) : Prop :=
  ∃ c : Nat, x - L ≤ c ∧ c ≤ min W (x + L + 1) ∧ cv = .int .i64 (c : Int) ∧ J (upto W t (F : Int) (r * W + c)) wr ∧ Blk wr bm 25 #[.int .i64 (W : Int), .int .i64 (H : Int), .string T] ∧ Blk wr bf 3 #[.int .i64 (F : Int)]
end Go.Proofs.Ytmceaocknlnmpaa.Grid
namespace Go.Proofs.Ytmceaocknlnmpaa.Grid
open Go.ChangeShapes Go.WideShapes Go.ChangeAt Go.RowKit Go.Shelf
set_option linter.unusedVariables false
attribute [local go_sem] Oper.semAt_some

/-- Something is appended, in a round. -/
theorem wpListIn_of_append {F : Fence} {n : Nat} {P : Program} {w : World} {ops : Array Oper} {rest : List Oper} {o : Oper} {a : Act} {Q : Exit → Act → World → Prop} (hgd : o.guard = none) (s x : Operand) (t tx : TypeId)
    (ho : o.op = .call { callee := .builtin .append, args := #[s, x], argTypes := #[t, tx] }) (vs vx : Value) (hs : a.eval s = vs) (hx : a.eval x = vx) {v' : Value} {w' : World}
    (hr : (Builtin.append_ #[t, tx] o.type #[vs, vx]).run P w = .ok v' w') (h : wpListIn F n P ops Q rest (a.put o.dst v') w') : wpListIn F n P ops Q (o :: rest) a w := by
  refine wpListIn_plain hgd fun K hK => ?_
  unfold Oper.wpIn
  refine ⟨?_, ?_⟩
  · simp [Oper.about, ho, resolve, Target.leads, Sem.run_pure]
  · rw [Oper.semAt_plain F _ _ (by rw [ho]; intro c hc'; cases hc')]
    simp [execOp, ho, resolve, invoke, builtin, hs, hx, hr, Result.andThen]
    exact hK _ _ h
def Three (w : World) (W H : Nat) (T : ByteArray) (t : Int) (f : Int) : World := ((w.alloc (.cells #[.int .i64 (W : Int), .int .i64 (H : Int), .string T] 25)).alloc (.cells #[.int .i64 t] 3)).alloc (.cells #[.int .i64 f] 3)
/-- What holds between rounds. -/
def AIn (w : World) (D base : Nat) (pre : List Nat) (W : World) : Prop :=
  (∃ v, Boxed W D 22 v ∧ W.ownsRow base 3 1 v pre.length (nums pre) ∧ True) ∧ Ext w W ∧ base ≤ W.heap.size
theorem aIn_own (w : World) (D base B : Nat) (hB : w.heap.size ≤ B) : OwnFrom B (AIn w D base) :=
  OwnFrom.and (Own.from (holdsRow_own base D 22 3 1 (fun pre => pre.length) (fun pre => nums pre) (fun _ _ => True)) _) (OwnFrom.and (ownFrom_below (Nat.le_refl _) hB) (fun _ _ _ _ h hg _ => Nat.le_trans h hg.size))
theorem aIn_store {w : World} {D base b : Nat} (hb : w.heap.size ≤ b) (hbb : b < base) (hD : D ≠ b) : StoreAt b (AIn w D base) := by
  rintro pre W u ⟨⟨v, hv, hr, _⟩, hE, hs⟩
  exact ⟨⟨v, hv.other hD u, hr.kept (grownBy_setCell' W b u) (.inr (fun e => by
    have := own_ge hr b e
    omega)), trivial⟩, ext_set hE hb u, by simpa [World.setCell] using hs⟩
theorem aIn_put {w W w9 : World} {D base bm bf x : Nat} {pre : List Nat} {v v9 : Value} (hv : Boxed W D 22 v) (hr : W.ownsRow base 3 1 v pre.length (nums pre)) (hE : Ext w W) (hD : w.heap.size ≤ D) (hDb : D < base) (hbm : bm < base) (hbf : bf < base) (hDm : D ≠ bm) (hDf : D ≠ bf) (hm : bm < W.heap.size) (hf : bf < W.heap.size) (hbw : w.heap.size ≤ base) (hbs : base ≤ W.heap.size)
    (ho : w9.ownsRow base 3 1 v9 (pre.length + [x].length) (nums pre ++ nums [x])) (hg : (W.alloc (.cells #[.int .i64 (x : Int)] 3)).grownBy w9 v.ownBlock) :
    (w9.cell? ⟨D, 0, none⟩ = some v ∧ w9.frozen? ⟨D, 0, none⟩ = false) ∧ AIn w D base (pre ++ [x]) (w9.setCell ⟨D, 0, none⟩ v9) ∧ KeepsOthers W (w9.setCell ⟨D, 0, none⟩ v9) ∧ KpA bm bf W (w9.setCell ⟨D, 0, none⟩ v9) := by
  have nv : ∀ k, k < base → some k ≠ v.ownBlock := fun k hk e => by have := own_ge hr k e.symm; omega
  have hv1 := hv.alloc (.cells #[.int .i64 (x : Int)] 3)
  have hv9 := hv1.kept hg (nv D hDb)
  refine ⟨⟨hv9.cell, hv9.frozen⟩, ⟨⟨v9, hv9.set v9, ?_, trivial⟩, ?_⟩, ?_, ?_⟩
  · rw [List.length_append, nums_app]
    exact ho.kept (grownBy_setCell' w9 D v9) (.inr (fun e => by have := own_ge ho D e; omega))
  · have hsz := hg.size
    rw [World.size_alloc] at hsz
    exact ⟨ext_set (ext_grown (ext_alloc hE _) hg (fun k hk => by have := own_ge hr k hk; omega)) hD _, by simpa [World.setCell] using (by omega : base ≤ w9.heap.size)⟩
  · refine ((KeepsOthers.alloc W _).trans (KeepsOthers.of_grownBy hg fun j o ej hj => ?_)).trans (KeepsOthers.setCell _ _ _)
    have hr1 := hr.kept (World.grownBy_alloc W (.cells #[.int .i64 (x : Int)] 3) none) (by
      rcases hr.2 with ⟨rfl, _⟩ | ⟨g', cap, cur, rfl, _⟩
      · exact .inl rfl
      · exact .inr (by simp [Value.ownBlock]))
    rcases hr1.2 with ⟨rfl, _⟩ | ⟨g', cap, cur, rfl, _, hgb, _⟩
    · simp [Value.ownBlock] at ej
    · obtain rfl : g' = j := by simpa [Value.ownBlock] using ej
      rw [hgb] at hj; cases hj; rfl
  · have hsz := hg.size
    rw [World.size_alloc] at hsz
    refine ⟨by simpa [World.setCell] using (by omega : W.heap.size ≤ w9.heap.size), fun k hk hl => ?_⟩
    have h1 : (w9.setCell ⟨D, 0, none⟩ v9).heap[k]? = w9.heap[k]? := Below.heap_setCell w9 ⟨D, 0, none⟩ v9 k (by rcases hk with rfl | rfl <;> simp only <;> omega)
    rw [h1, hg.block k (by rw [World.size_alloc]; omega) (nv k (by rcases hk with rfl | rfl <;> omega))]
    exact Below.heap_alloc W _ k hl
end Go.Proofs.Ytmceaocknlnmpaa.Grid
namespace Go.Proofs.Ytmceaocknlnmpaa.Grid
open Go.ChangeShapes Go.WideShapes Go.ChangeAt Go.RowKit Go.Shelf
set_option linter.unusedVariables false

/-- A slice reads as these numbers. -/
def Ns (w : World) (A : Option Addr) (n : Nat) (zs : List Nat) : Prop :=
  zs.length = n ∧ (0 < n → ∃ b o, A = some ⟨b, o, none⟩ ∧ b < w.heap.size ∧ ∀ j, j < n → w.cell? ⟨b, o + j, none⟩ = some (.int .i64 ((zs.getD j 0 : Nat) : Int)))
theorem Ns.ext {w w' : World} {A : Option Addr} {n : Nat} {zs : List Nat} (h : Ns w A n zs) (e : Ext w w') : Ns w' A n zs :=
  ⟨h.1, fun hn => by
    obtain ⟨b, o, he, hl, hc⟩ := h.2 hn
    exact ⟨b, o, he, Nat.lt_of_lt_of_le hl e.size, fun j hj => (e.cell (p := ⟨b, o + j, none⟩) hl).trans (hc j hj)⟩⟩
theorem Row.ns {W w : World} {A : Option Addr} {n c : Nat} {zs : List Nat} (h : Row W w (.slice A n c) zs) : n = zs.length ∧ Ns w A zs.length zs := by
  have hl : (nums zs).length = zs.length := by simp [nums]
  rcases h.2 with ⟨hv, hq⟩ | ⟨g, cap, cur, hv, hb, hg, h1, h2, h3, h4⟩
  · obtain ⟨h1, h2, h3⟩ := Value.slice.inj hv
    have hz : zs.length = 0 := hq
    exact ⟨by omega, rfl, fun h0 => by omega⟩
  · obtain ⟨e1, e2, e3⟩ := Value.slice.inj hv
    refine ⟨e2, rfl, fun h0 => ⟨g, 0, e1, (Array.getElem?_eq_some_iff.1 hg).1, fun j hj => ?_⟩⟩
    rw [Nat.zero_add, cell_of_row w g j cur _ (0, 0) hg]
    have := congrArg (fun l => l[j]?) h4
    rw [Nat.mul_one] at this
    simp only [List.getElem?_take, if_pos hj] at this
    rw [← Array.getElem?_toList, this]
    simp [nums, List.getD_eq_getElem?_getD, List.getElem?_eq_getElem hj]
def SmRel (w : World) (zs : List Nat) (iv : Value) (wr : World) : Prop := ∃ k : Nat, k ≤ zs.length ∧ iv = .int .i64 (k : Int) ∧ Ext w wr
end Go.Proofs.Ytmceaocknlnmpaa.Grid
namespace Go.Proofs.Ytmceaocknlnmpaa.Grid
open Go.ChangeShapes Go.WideShapes Go.ChangeAt Go.RowKit Go.Shelf
set_option linter.unusedVariables false

def SE (w0 w : World) : Prop := Ext w0 w
theorem hmx : Try.prog.follows .mixedOrders = true := by kernel_rfl
theorem okm_k : okm 4 4 ⟨#[0, 0, 0, 0, 0, 0, 0, 0, 0, 0, 0, 0, 0, 0, 0, 1]⟩ := by decide
theorem k_new (w : World) : Calls Try.prog 6 #[.int .i64 4, .int .i64 4, .string ⟨#[0, 0, 0, 0, 0, 0, 0, 0, 0, 0, 0, 0, 0, 0, 0, 1]⟩] w fun e w' => e = .returned (.tuple #[.agg #[.int .i64 4, .int .i64 4, .string ⟨#[0, 0, 0, 0, 0, 0, 0, 0, 0, 0, 0, 0, 0, 0, 0, 1]⟩], .int .i64 0]) ∧ Ext w w' := by
  have h := new_any 4 4 ⟨#[0, 0, 0, 0, 0, 0, 0, 0, 0, 0, 0, 0, 0, 0, 0, 1]⟩ w (by decide) (by decide) (by decide) (by decide) (by decide)
  refine h.mono (fun e w' h => ?_)
  obtain ⟨h1, h2⟩ := h
  unfold newR at h1
  rw [if_pos okm_k] at h1
  exact ⟨h1, h2⟩
theorem k_next (w : World) : Calls Try.prog 14 #[.agg #[.int .i64 4, .int .i64 4, .string ⟨#[0, 0, 0, 0, 0, 0, 0, 0, 0, 0, 0, 0, 0, 0, 0, 1]⟩], .int .i64 0] w (NxPost w [1, 4]) := by
  have h := next_yes 4 4 0 ⟨#[0, 0, 0, 0, 0, 0, 0, 0, 0, 0, 0, 0, 0, 0, 0, 1]⟩ w (by decide) (by decide) (by decide) (by decide) (by decide) (by decide)
  rw [show nxt 4 4 0 = [1, 4] from by decide] at h
  exact h
theorem k_xy (w : World) : Calls Try.prog 26 #[.agg #[.int .i64 4, .int .i64 4, .string ⟨#[0, 0, 0, 0, 0, 0, 0, 0, 0, 0, 0, 0, 0, 0, 0, 1]⟩], .int .i64 6] w fun e w' => e = .returned (.tuple #[.int .i64 2, .int .i64 1]) ∧ Ext w w' :=
  xy_yes 4 4 6 ⟨#[0, 0, 0, 0, 0, 0, 0, 0, 0, 0, 0, 0, 0, 0, 0, 1]⟩ w (by decide) (by decide) (by decide) (by decide)
theorem k_len (w : World) : Calls Try.prog 53 #[.agg #[.int .i64 4, .int .i64 4, .string ⟨#[0, 0, 0, 0, 0, 0, 0, 0, 0, 0, 0, 0, 0, 0, 0, 1]⟩]] w fun e w' => e = .returned (.int .i64 16) ∧ Ext w w' := len_map 4 4 ⟨#[0, 0, 0, 0, 0, 0, 0, 0, 0, 0, 0, 0, 0, 0, 0, 1]⟩ w (by decide)
theorem k_far (w : World) : Calls Try.prog 13 #[.agg #[.int .i64 4, .int .i64 4, .string ⟨#[0, 0, 0, 0, 0, 0, 0, 0, 0, 0, 0, 0, 0, 0, 0, 1]⟩], .int .i64 0, .int .i64 15] w fun e w' => e = .returned (.int .i64 6) ∧ Ext w w' := by
  have h := far_yes 4 4 0 15 ⟨#[0, 0, 0, 0, 0, 0, 0, 0, 0, 0, 0, 0, 0, 0, 0, 1]⟩ w (by decide) (by decide) (by decide) (by decide) (by decide)
  rw [show far 4 0 15 = 6 from by decide] at h
  exact h
theorem k_walk14 (w : World) : Calls Try.prog 15 #[.agg #[.int .i64 4, .int .i64 4, .string ⟨#[0, 0, 0, 0, 0, 0, 0, 0, 0, 0, 0, 0, 0, 0, 0, 1]⟩], .int .i64 14] w fun e w' => e = .returned (.bool true) ∧ Ext w w' := walk_yes 4 4 14 ⟨#[0, 0, 0, 0, 0, 0, 0, 0, 0, 0, 0, 0, 0, 0, 0, 1]⟩ w (by decide) (by decide) (by decide)
theorem k_walk15 (w : World) : Calls Try.prog 15 #[.agg #[.int .i64 4, .int .i64 4, .string ⟨#[0, 0, 0, 0, 0, 0, 0, 0, 0, 0, 0, 0, 0, 0, 0, 1]⟩], .int .i64 15] w fun e w' => e = .returned (.bool false) ∧ Ext w w' := walk_yes 4 4 15 ⟨#[0, 0, 0, 0, 0, 0, 0, 0, 0, 0, 0, 0, 0, 0, 0, 1]⟩ w (by decide) (by decide) (by decide)
end Go.Proofs.Ytmceaocknlnmpaa.Grid
