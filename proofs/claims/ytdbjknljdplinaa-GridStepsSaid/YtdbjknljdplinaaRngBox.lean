/- A loop over a function that itself stores into one block of its own (a captured variable), and never stops early. -/
import Derived.RangeFuncNested
import Derived.RangeFuncBound
import Derived.RangeFuncFrom
import Derived.RangeFuncCalls
import Derived.RangeFuncLeaves
import Derived.RangeFuncBox
namespace Go.Proofs.Ytdbjknljdplinaa
open Go.RowKit
set_option linter.unusedVariables false

/-- What is said does not hang on the cell of block b. -/
def StoreAt {β : Type} (b : Nat) (J : β → World → Prop) : Prop := ∀ s W v, J s W → J s (W.setCell ⟨b, 0, none⟩ v)
/-- The function calls yield with each of a list that S allows, whatever the caller says of the world, if it does not hang on block b. -/
def Rounds {α : Type} (F : Fence) (n : Nat) (P : Program) (g : Nat) (lb : Array Value) (encs : α → Array Value) (b : Nat) (Kp : World → World → Prop) (S : List α → Prop) (N : Nat) (w : World) : Prop :=
  ∀ (l : Nat) (J : List α → World → Prop) (W : World), Below w.heap.size w W → AbidesFrom W.heap.size J → StoreAt b J →
    (∀ pre x W1, J pre W1 → pre.length < N → YieldAt F (n - 1) P l (encs x) W1 fun e W' => e = .returned (.bool true) ∧ J (pre ++ [x]) W' ∧ Kp W1 W') →
    J [] W → CallsIn F n P g (#[.func (.yield l) #[] #[]] ++ lb) W fun e W' => (∃ v, e = .returned v) ∧ ∃ xs, S xs ∧ J xs W'
/-- The loop's own two blocks: its record, and that for deferred calls. -/
def Book (L D : Nat) (r : Loop) (W : World) : Prop := W.heap[L]? = some (.loop r) ∧ W.heap[D]? = some (.deferred (some []))
theorem Book.store {L D b : Nat} {r : Loop} {W : World} (h : Book L D r W) (hL : b ≠ L) (hD : b ≠ D) (v : Value) : Book L D r (W.setCell ⟨b, 0, none⟩ v) :=
  ⟨(Below.heap_setCell W ⟨b, 0, none⟩ v L (Ne.symm hL)).trans h.1, (Below.heap_setCell W ⟨b, 0, none⟩ v D (Ne.symm hD)).trans h.2⟩
theorem Book.turn {L D : Nat} {r r' : Loop} {W : World} (h : Book L D r W) (hLD : L ≠ D) : Book L D r' (W.putObj L (.loop r')) :=
  ⟨World.putObj_heap_same (Array.getElem?_eq_some_iff.1 h.1).1, (World.putObj_heap_other (Ne.symm hLD)).trans h.2⟩
theorem Book.others {L D : Nat} {r : Loop} {W W' : World} (h : Book L D r W) (k : KeepsOthers W W') : Book L D r W' := ⟨k.same _ _ h.1 rfl, k.same _ _ h.2 rfl⟩
theorem Book.abides {L D : Nat} {r : Loop} {W W' : World} {row : Option Nat} (h : Book L D r W) (g : W.grownBy W' row) (hr : ∀ k, row = some k → ∃ o : Obj, W.heap[k]? = some o ∧ o.isWalk = true) : Book L D r W' :=
  ⟨(grownBy_keeps g hr h.1 rfl).trans h.1, (grownBy_keeps g hr h.2 rfl).trans h.2⟩
section
variable {F : Fence} {n : Nat} {P : Program}
theorem range_rounds {α : Type} {g : Operand} {ps : Array Tmp} {assign body : Code} {Q : Exit → Act → World → Prop} {a : Act} {w : World} (hro : F.round = none) (h1 : 1 ≤ n) {gf : Nat} {lb : Array Value}
    (hg : a.eval g = .func (.func gf) #[] lb) (hFg : F.fn gf) (eg : ∀ args w, (callFunc gf args).run P w = .ok (.enter gf args) w) {encs : α → Array Value} {b : Nat} {Kp : World → World → Prop} {S : List α → Prop} {N : Nat}
    (hb : b < w.heap.size) (hseq : Rounds F (n - 1) P gf lb encs b Kp S N w) (hKt : ∀ {A B C : World}, Kp A B → Kp B C → Kp A C)
    (hKb : ∀ (W : World) (l : Nat) (o o' : Obj), w.heap.size ≤ l → W.heap[l]? = some o → o.isCells = false → o.isWalk = false → Kp W (W.putObj l o')) (hps : ∀ x, (encs x).size = ps.size)
    (I : List α → World → Prop) (hI : OwnFrom w.heap.size I) (hIb : StoreAt b I) (h0 : I [] w) (a₁ : α → Act)
    (hassign : ∀ (l : Nat) (x : α) (W : World) (K : Act → World → Prop), K (a₁ x) W →
      assign.wpIn (F.inRound l) (n - 1 - 1) P (Exit.then K (fun _ _ _ => False)) { tmps := (ps.zip (encs x)).foldl (fun t (p, v) => t.setIfInBounds p v) a.tmps, defers := [] } W)
    (hbody : ∀ (l : Nat) (pre : List α) (x : α) (W : World), I pre W → pre.length < N → body.wpIn (F.inRound l) (n - 1 - 1) P (ownPostK Kp I (fun _ _ _ => False) (pre ++ [x]) W) (a₁ x) W)
    (hdone : ∀ (D : Nat) (xs : List α) (W : World), w.heap.size ≤ D → S xs → I xs W → W.heap[D]? = some (.deferred (some [])) → Q .normal { a with defers := { target := .collected D, args := #[] } :: a.defers } W) :
    (Code.rangeFunc g ps assign body).wpIn F n P Q a w := by
  refine wpIn_rangeFunc (fun fn hfn => ?_)
  rw [hro]
  obtain ⟨D, hD⟩ : ∃ D, D = w.heap.size := ⟨_, rfl⟩
  obtain ⟨r0, hr0⟩ : ∃ r0 : Loop, r0 = { state := .ready, pending := none, fn, tmps := a.tmps, params := ps, assign, body, defers := D } := ⟨_, rfl⟩
  obtain ⟨W1, hW1⟩ : ∃ W1, W1 = (w.alloc (.deferred (some []))).alloc (.loop r0) := ⟨_, rfl⟩
  have hbk : Book (D + 1) D r0 W1 := by
    rw [hW1, hD]
    refine ⟨?_, (Below.heap_alloc _ _ _ (by simp)).trans (World.alloc_heap_new w _)⟩
    have := World.alloc_heap_new (w.alloc (.deferred (some []))) (.loop r0)
    rwa [World.size_alloc] at this
  have hsz : W1.heap.size = D + 2 := by rw [hW1, hD]; simp
  have hne : D + 1 ≠ D := by omega
  have hI1 : I [] W1 := by rw [hW1]; exact hI.alloc _ (hI.alloc _ h0)
  have hbel : Below w.heap.size w W1 := by rw [hW1]; exact ((Below.refl _ w).alloc (Nat.le_refl _) _).alloc (by simp) _
  refine ⟨D + 1, [{ target := .collected D, args := #[] }], W1, { target := .fn (.func gf) lb, args := #[.func (.yield (D + 1)) #[] #[]] }, W1, gf, #[.func (.yield (D + 1)) #[] #[]] ++ lb, W1, ?_, ?_, ?_, ?_, fun _ => h1, ?_⟩
  · rw [hW1, hr0, hD]; exact run_enterLoop_outer _ _ _ _ _
  · simp only [resolve, hg]
    simp [go_sem]
  · intro f' hf'; simp [Target.leads] at hf'; subst hf'; exact hFg
  · simp [invoke, go_sem, eg]
  · refine (hseq (D + 1) (fun pre W => I pre W ∧ Book (D + 1) D r0 W) W1 hbel (fun s A B row hs hgr hr => ⟨hI s A B row hs.1 hgr (fun k e => ?_), hs.2.abides hgr (fun k e => (hr k e).2)⟩)
      (fun s W v hs => ⟨hIb s W v hs.1, hs.2.store (by omega) (by omega) v⟩) (fun pre x W hs hlen => ?_) ⟨hI1, hbk⟩).mono ?_
    · obtain ⟨hk, o, ho, hw⟩ := hr k e
      exact ⟨by omega, o, ho, Obj.not_cells_of_walk hw⟩
    · obtain ⟨hi, hk⟩ := hs
      have hy := run_yield (P := P) (args := encs x) hk.1 (by rw [hr0]; exact hps x)
      rw [hr0] at hy
      refine ⟨fn, _, assign, body, hy, roundIn_of_wpIn hfn (hassign _ x W _ ⟨_, run_beginRound hk.1 (by rw [hr0]), ?_⟩)⟩
      have hk2 : Book (D + 1) D { r0 with state := .busy } (W.putObj (D + 1) (.loop { r0 with state := .busy })) := hk.turn hne
      refine wpIn_mono (hbody _ pre x _ (hI.putObj _ hi (by omega) hk.1 rfl) hlen) ?_
      rintro e a3 W3 hp
      cases e with
      | normal =>
        obtain ⟨ho3, hkp3, hi3⟩ := hp
        have hk3 := hk2.others ho3
        have hend := run_endRound (P := P) none hk3.1
        have hk4 : Book (D + 1) D r0 (W3.putObj (D + 1) (.loop r0)) := hk3.turn hne
        have er : ({ ({ r0 with state := .busy } : Loop) with state := if (none : Option Code).isNone then .ready else .done, pending := none } : Loop) = r0 := by rw [hr0]; rfl
        rw [er] at hend
        exact ⟨_, _, hend, rfl, ⟨hI.putObj _ hi3 (by omega) hk3.1 rfl, hk4⟩, hKt (hKt (hKb _ _ _ _ (by omega) hk.1 rfl rfl) hkp3) (hKb _ _ _ _ (by omega) hk3.1 rfl rfl)⟩
      | ret => exact hp.2.elim
      | exit id => exact hp.2.elim
      | goto t => exact hp.2.elim
      | panic ch => exact hp.elim
      | outgrown => exact hp.elim
    · rintro e W2 ⟨⟨v, rfl⟩, xs, hS, hi, hk⟩
      have hend := run_endLoop (P := P) hk.1 (by rw [hr0]; simp)
      have ep : r0.pending = none := by rw [hr0]
      rw [ep] at hend
      exact ⟨none, _, hend, hdone _ xs _ (by omega) hS (hI.putObj _ hi (by omega) hk.1 rfl) ((World.putObj_heap_other (by omega)).trans hk.2)⟩
end
end Go.Proofs.Ytdbjknljdplinaa
