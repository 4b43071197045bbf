/- Path: the document's tiles. -/
import Derived.Test.YtmceaocknlnmpaaPthW
import Derived.Test.YtmceaocknlnmpaaP1
namespace Go.Proofs.Ytmceaocknlnmpaa.Pth
open Go.ChangeShapes Go.WideShapes Go.ChangeAt Go.RowKit
open Go.Proofs.Ytmceaocknlnmpaa.Rec Go.Proofs.Ytmceaocknlnmpaa.Grid
set_option linter.unusedVariables false
theorem infoT : (Try.prog.info? 57).map (fun i => (i.zero, i.size, i.bytes)) = some (some (.agg #[.bool false, .bool false, .int .i64 0, .int .i64 0]), 4, 24) := by kernel_rfl
/-- The document's tiles, in a row of one's own. -/
def TR (base : Nat) (w : World) (G P : Nat) (all : List Ti) : Prop := OwnR base w 57 4 cT (.slice (some ⟨G, 0, none⟩) P P) all ∧ all.length = P
section
variable {base G P : Nat} {w w' : World} {all : List Ti}
theorem TR.ext (h : TR base w G P all) (e : Ext w w') : TR base w' G P all := ⟨h.1.ext e, h.2⟩
theorem TR.row (h : TR base w G P all) : RowR w (some ⟨G, 0, none⟩) P 4 cT all := h.1.row cT_len
theorem TR.blk (h : TR base w G P all) : base ≤ G ∧ G < w.heap.size := by
  obtain ⟨h1, h2⟩ := h
  exact World.ownsRow.lt h1 G rfl
theorem TR.cells (h : TR base w G P all) {j : Nat} (hj : j < P) : w.cell? ⟨G, j * 4, none⟩ = some (.bool (ti all j).seen) ∧ w.cell? ⟨G, j * 4 + 1, none⟩ = some (.bool (ti all j).opn) ∧ w.cell? ⟨G, j * 4 + 2, none⟩ = some (.int .i64 ((ti all j).g : Int)) ∧ w.cell? ⟨G, j * 4 + 3, none⟩ = some (.int .i64 ((ti all j).by' : Int)) := by
  have hjl : j < all.length := by rw [h.2]; exact hj
  obtain ⟨_, hc⟩ := h.row
  obtain ⟨b, o, e, hb, hcell⟩ := hc (by omega)
  obtain ⟨rfl, rfl, _⟩ := Addr.mk.inj (Option.some.inj e)
  have c0 := hcell j hjl 0 (by omega); have c1 := hcell j hjl 1 (by omega); have c2 := hcell j hjl 2 (by omega); have c3 := hcell j hjl 3 (by omega)
  rw [← ti_at hjl] at c0 c1 c2 c3
  simp only [Nat.zero_add, Nat.add_zero] at c0 c1 c2 c3
  exact ⟨c0, c1, c2, c3⟩
theorem TR.frozen (h : TR base w G P all) (i : Nat) : w.frozen? ⟨G, i, none⟩ = false := by
  obtain ⟨h1, h2⟩ := h
  subst h2
  exact World.ownsRow.frozenAt h1 i
end
theorem flat_set4 (y : Ti) : ∀ (q : List Ti) (i : Nat), i < q.length → (q.set i y).flatMap cT = ((((q.flatMap cT).set (i * 4) (.bool y.seen)).set (i * 4 + 1) (.bool y.opn)).set (i * 4 + 2) (.int .i64 (y.g : Int))).set (i * 4 + 3) (.int .i64 (y.by' : Int))
  | [], i, h => absurd h (by simp)
  | x :: q, 0, _ => rfl
  | x :: q, i + 1, h => by
    have ih := flat_set4 y q i (by simpa using h)
    rw [List.set_cons_succ, List.flatMap_cons, List.flatMap_cons, ih]
    have e0 : (i + 1) * 4 = i * 4 + 1 + 1 + 1 + 1 := by omega
    rw [e0]
    rfl
theorem flat_shut : ∀ (q : List Ti) (i : Nat), i < q.length → (shut q i).flatMap cT = (q.flatMap cT).set (i * 4 + 1) (.bool false)
  | [], i, h => absurd h (by simp)
  | x :: q, 0, _ => rfl
  | x :: q, i + 1, h => by
    have ih := flat_shut q i (by simpa using h)
    have e1 : shut (x :: q) (i + 1) = x :: shut q i := rfl
    rw [e1, List.flatMap_cons, List.flatMap_cons, ih]
    have e0 : (i + 1) * 4 = i * 4 + 1 + 1 + 1 + 1 := by omega
    rw [e0]
    rfl
section
variable {base G P : Nat} {w w' : World} {all : List Ti}
theorem TR.set (h : TR base w G P all) {i : Nat} (hi : i < P) (y : Ti) :
    TR base ((((w.setCell ⟨G, i * 4, none⟩ (.bool y.seen)).setCell ⟨G, i * 4 + 1, none⟩ (.bool y.opn)).setCell ⟨G, i * 4 + 2, none⟩ (.int .i64 (y.g : Int))).setCell ⟨G, i * 4 + 3, none⟩ (.int .i64 (y.by' : Int))) G P (all.set i y) ∧
      w.grownBy ((((w.setCell ⟨G, i * 4, none⟩ (.bool y.seen)).setCell ⟨G, i * 4 + 1, none⟩ (.bool y.opn)).setCell ⟨G, i * 4 + 2, none⟩ (.int .i64 (y.g : Int))).setCell ⟨G, i * 4 + 3, none⟩ (.int .i64 (y.by' : Int))) (some G) := by
  obtain ⟨hO, hl⟩ := h
  subst hl
  obtain ⟨h1, g1⟩ := World.ownsRow.stored hO (i * 4) (.bool y.seen)
  obtain ⟨h2, g2⟩ := World.ownsRow.stored h1 (i * 4 + 1) (.bool y.opn)
  obtain ⟨h3, g3⟩ := World.ownsRow.stored h2 (i * 4 + 2) (.int .i64 (y.g : Int))
  obtain ⟨h4, g4⟩ := World.ownsRow.stored h3 (i * 4 + 3) (.int .i64 (y.by' : Int))
  refine ⟨⟨?_, by rw [List.length_set]⟩, gbt (gbt (gbt g1 g2) g3) g4⟩
  unfold OwnR
  rw [List.length_set, flat_set4 y all i hi]; exact h4
theorem TR.put (h : TR base w G P all) {i : Nat} (hi : i < P) (a b : Bool) (g y : Nat) :
    TR base ((((w.setCell ⟨G, i * 4, none⟩ (.bool a)).setCell ⟨G, i * 4 + 1, none⟩ (.bool b)).setCell ⟨G, i * 4 + 2, none⟩ (.int .i64 (g : Int))).setCell ⟨G, i * 4 + 3, none⟩ (.int .i64 (y : Int))) G P (all.set i (a, b, g, y)) ∧
      w.grownBy ((((w.setCell ⟨G, i * 4, none⟩ (.bool a)).setCell ⟨G, i * 4 + 1, none⟩ (.bool b)).setCell ⟨G, i * 4 + 2, none⟩ (.int .i64 (g : Int))).setCell ⟨G, i * 4 + 3, none⟩ (.int .i64 (y : Int))) (some G) := h.set hi (a, b, g, y)
theorem TR.shut (h : TR base w G P all) {i : Nat} (hi : i < P) :
    TR base (w.setCell ⟨G, i * 4 + 1, none⟩ (.bool false)) G P (Pth.shut all i) ∧ w.grownBy (w.setCell ⟨G, i * 4 + 1, none⟩ (.bool false)) (some G) := by
  obtain ⟨hO, hl⟩ := h
  subst hl
  obtain ⟨h1, g1⟩ := World.ownsRow.stored hO (i * 4 + 1) (.bool false)
  refine ⟨⟨?_, by rw [shut_len]⟩, g1⟩
  unfold OwnR
  rw [shut_len, flat_shut all i hi]; exact h1
theorem TR.made {g P : Nat} (h : w.ownsRow base 57 4 (.slice (some ⟨g, 0, none⟩) P P) P (madeCells (Value.agg #[.bool false, .bool false, .int .i64 0, .int .i64 0]).cells (P * 4)).toList) : TR base w g P (List.replicate P (false, false, 0, 0)) := by
  refine ⟨?_, by simp⟩
  unfold OwnR
  have e : (madeCells (Value.agg #[.bool false, .bool false, .int .i64 0, .int .i64 0]).cells (P * 4)).toList = (List.replicate P ((false, false, 0, 0) : Ti)).flatMap cT := by
    clear h
    have hl : ((List.replicate P ((false, false, 0, 0) : Ti)).flatMap cT).length = P * 4 := by rw [flat_len cT_len]; simp
    refine List.ext_getElem? fun j => ?_
    by_cases hj : j < P * 4
    · have hd : j / 4 < (List.replicate P ((false, false, 0, 0) : Ti)).length := by simp; omega
      have hq := flat_get cT_len (List.replicate P ((false, false, 0, 0) : Ti)) (j / 4) hd (j % 4) (by omega)
      rw [show j / 4 * 4 + j % 4 = j from by omega] at hq
      rw [hq, List.getElem_replicate]
      unfold madeCells
      rw [Array.getElem?_toList, Array.getElem?_map, Array.getElem?_range]
      rw [if_pos hj]
      have : j % 4 < 4 := by omega
      show some ((Value.agg #[.bool false, .bool false, .int .i64 0, .int .i64 0]).cells[j % 4]!) = _
      generalize j % 4 = r at *
      match r, this with
      | 0, _ => rfl
      | 1, _ => rfl
      | 2, _ => rfl
      | 3, _ => rfl
    · rw [List.getElem?_eq_none (by simp [size_madeCells]; omega), List.getElem?_eq_none (by rw [hl]; omega)]
  rw [← e, List.length_replicate]; exact h
end
/-- The document's tiles as they are at first. -/
theorem first_eq (P f : Nat) : (List.replicate P ((false, false, 0, 0) : Ti)).set f (true, true, 0, 0) = first P f := rfl
end Go.Proofs.Ytmceaocknlnmpaa.Pth
