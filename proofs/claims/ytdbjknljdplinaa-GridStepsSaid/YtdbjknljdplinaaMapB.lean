/- A map of rows of numbers: each row in a block of its own, from a place on. -/
import Derived.Test.YtdbjknljdplinaaMapA
import Derived.Test.YtdbjknljdplinaaApp
namespace Go.Proofs.Ytdbjknljdplinaa.Map32
open Go.ChangeShapes Go.WideShapes Go.ChangeAt Go.RowKit
set_option linter.unusedVariables false

def nums (zs : List Nat) : List Value := zs.map fun (z : Nat) => Value.int .i64 (z : Int)
/-- A row of numbers in a block from base on, that may begin further back in it. -/
def Sl (w : World) (base e : Nat) (v : Value) (zs : List Nat) : Prop :=
  ∃ g o cap cur, v = .slice (some ⟨g, o, none⟩) zs.length cap ∧ base ≤ g ∧ w.heap[g]? = some (.cells cur e (0, 0)) ∧ zs.length ≤ cap ∧ cap ≤ maxLen ∧ cur.size = o + cap ∧ (cur.toList.drop o).take zs.length = nums zs
section
variable {P : Program} {w w' : World} {base e : Nat} {v : Value} {zs : List Nat}
theorem nums_len (zs : List Nat) : (nums zs).length = zs.length := by simp [nums]
theorem Sl.kept {row : Option Nat} (h : Sl w base e v zs) (hg : w.grownBy w' row) (hne : v.ownBlock ≠ row) : Sl w' base e v zs := by
  obtain ⟨g, o, cap, cur, rfl, hb, hh, r⟩ := h
  exact ⟨g, o, cap, cur, rfl, hb, (hg.block g (Array.getElem?_eq_some_iff.1 hh).1 hne).trans hh, r⟩
theorem Sl.ext (h : Sl w base e v zs) (hg : Ext w w') : Sl w' base e v zs := by
  obtain ⟨g, o, cap, cur, rfl, hb, hh, r⟩ := h
  exact ⟨g, o, cap, cur, rfl, hb, (hg.block g (Array.getElem?_eq_some_iff.1 hh).1).trans hh, r⟩
theorem Sl.block (h : Sl w base e v zs) : ∃ g, v.ownBlock = some g ∧ base ≤ g ∧ g < w.heap.size := by
  obtain ⟨g, o, cap, cur, rfl, hb, hh, r⟩ := h
  exact ⟨g, rfl, hb, (Array.getElem?_eq_some_iff.1 hh).1⟩
theorem Sl.cells {g o cap n : Nat} (h : Sl w base e (.slice (some ⟨g, o, none⟩) n cap) zs) (j : Nat) (hj : j < zs.length) : w.cell? ⟨g, o + j, none⟩ = some (.int .i64 ((zs.getD j 0 : Nat) : Int)) := by
  obtain ⟨g', o', cap', cur, hv, hb, hh, h1, h2, h3, h4⟩ := h
  obtain ⟨e1, _, _⟩ := Value.slice.inj hv
  obtain ⟨rfl, rfl, _⟩ := Addr.mk.inj (Option.some.inj e1)
  rw [cell_of_row w g (o + j) cur e (0, 0) hh]
  have := congrArg (fun l => l[j]?) h4
  simp only [List.getElem?_take, if_pos hj, List.getElem?_drop] at this
  rw [← Array.getElem?_toList, this]
  simp [nums, List.getD_eq_getElem?_getD, List.getElem?_eq_getElem hj]
theorem Sl.frozen {g o cap n : Nat} (h : Sl w base e (.slice (some ⟨g, o, none⟩) n cap) zs) (j : Nat) (hj : j < zs.length) : w.frozen? ⟨g, o + j, none⟩ = false := by
  obtain ⟨g', o', cap', cur, hv, hb, hh, _⟩ := h
  obtain ⟨e1, _, _⟩ := Value.slice.inj hv
  obtain ⟨rfl, rfl, _⟩ := Addr.mk.inj (Option.some.inj e1)
  simp [World.frozen?, hh]
theorem Sl.shape (h : Sl w base e v zs) : ∃ g o cap, v = .slice (some ⟨g, o, none⟩) zs.length cap ∧ zs.length ≤ cap ∧ cap ≤ maxLen ∧ base ≤ g := by
  obtain ⟨g, o, cap, cur, rfl, hb, hh, h1, h2, r⟩ := h
  exact ⟨g, o, cap, rfl, h1, h2, hb⟩
theorem Sl.tail {g o cap n z : Nat} (h : Sl w base e (.slice (some ⟨g, o, none⟩) (n + 1) cap) (z :: zs)) : Sl w base e (.slice (some ⟨g, o + 1, none⟩) n (cap - 1)) zs := by
  obtain ⟨g', o', cap', cur, hv, hb, hh, h1, h2, h3, h4⟩ := h
  obtain ⟨e1, e2, e3⟩ := Value.slice.inj hv
  obtain ⟨rfl, rfl, _⟩ := Addr.mk.inj (Option.some.inj e1)
  subst e3
  simp only [List.length_cons] at e2 h1 h4
  obtain rfl : n = zs.length := by omega
  refine ⟨g, o + 1, cap - 1, cur, rfl, hb, hh, by omega, by omega, by omega, ?_⟩
  have := congrArg List.tail h4
  rw [show (nums (z :: zs)).tail = nums zs from rfl] at this
  rw [← this]
  apply List.ext_getElem?
  intro j
  rw [List.getElem?_tail, List.getElem?_take, List.getElem?_take, List.getElem?_drop, List.getElem?_drop, show o + 1 + j = o + (j + 1) from by omega]
  by_cases hj : j < zs.length
  · rw [if_pos hj, if_pos (by omega)]
  · rw [if_neg hj, if_neg (by omega)]
/-- One more behind it. -/
theorem run_more (t ty : TypeId) (i : TypeInfo) (z : Value) (ht : P.underlying t = some (.slice e)) (hi : P.info? e = some i) (hz : i.zero = some z) (hsize : i.size = 1) (hby : i.bytes = 8) (hzs : z.cells.size = 1)
    (h : (v = .slice none 0 0 ∧ zs = []) ∨ Sl w base e v zs) (a : Addr) (x : Nat) (hx : w.cell? a = some (.int .i64 (x : Int))) (hl : zs.length ≤ 1000) (hbase : base ≤ w.heap.size) :
    ∃ v' w', (Builtin.append_ #[t, t] ty #[v, .slice (some a) 1 1]).run P w = .ok v' w' ∧ Sl w' base e v' (zs ++ [x]) ∧ w.grownBy w' v.ownBlock ∧ (v'.ownBlock = v.ownBlock ∨ v'.ownBlock = some w.heap.size) := by
  have hnews : ∀ j u, [Value.int .i64 (x : Int)][j]? = some u → w.cell? (a.add j) = some u := by
    intro j u hj
    match j, hj with
    | 0, hj => simp at hj; subst hj; simpa [Addr.add] using hx
  have hnl : [Value.int .i64 (x : Int)].length = 1 * i.size := by rw [hsize]; rfl
  have hh1 : ∀ u ∈ [Value.int .i64 (x : Int)], u.oneCell' = true := by intro u hu; simp at hu; subst hu; rfl
  have hNW : ∀ old : Nat, old < zs.length + 1 → Sl (w.drew.alloc (.cells ((nums zs).toArray ++ [Value.int .i64 (x : Int)].toArray ++ Builtin.zeroCells z.cells (grownCap w (zs.length + 1) old e - (zs.length + 1))) e)) base e
      (.slice (some ⟨w.heap.size, 0, none⟩) (zs.length + 1) (grownCap w (zs.length + 1) old e)) (zs ++ [x]) := by
    intro old ho
    have hge := grownCap_ge w (zs.length + 1) old e
    have hcm : grownCap w (zs.length + 1) old e ≤ maxLen := grownCap_le_maxLen w (zs.length + 1) old e (by unfold maxLen; omega)
    refine ⟨w.heap.size, 0, _, _, by rw [List.length_append]; rfl, hbase, heap_alloc_new w.drew _, by rw [List.length_append]; exact hge, hcm, ?_, ?_⟩
    · simp only [Array.size_append, List.size_toArray, nums_len, size_zeroCells, hzs, List.length_cons, List.length_nil]; omega
    · rw [List.drop_zero, Array.toList_append, Array.toList_append, List.length_append, show zs.length + [x].length = ((nums zs).toArray.toList ++ [Value.int .i64 (x : Int)].toArray.toList).length from by simp [nums_len], List.take_left]
      simp [nums]
  rcases h with ⟨rfl, rfl⟩ | ⟨g, o, cap, cur, rfl, hb, hh, h1, h2, h3, h4⟩
  · have hr := run_append_nil (P := P) w t ty e i z ht hi hz a 1 1 [Value.int .i64 (x : Int)] hnl hnews (by omega) (by omega) (by rw [hby]; omega)
    have hn := hNW 0 (by simp)
    refine ⟨_, _, hr, ?_, ⟨rfl, rfl, rfl, by simp, fun k hk _ => Below.heap_alloc w.drew _ k hk⟩, .inr rfl⟩
    simpa [nums] using hn
  · by_cases hroom : zs.length + 1 ≤ cap
    · have hst := run_storeCells_at P g (o + zs.length) e [Value.int .i64 (x : Int)] 0 cur w hh (by simp; omega) hh1
      have hf := run_firstCells_some (P := P) w i.size 1 a 1 1 [Value.int .i64 (x : Int)] hnl hnews
      simp only [Nat.add_zero] at hst
      have hr : (Builtin.append_ #[t, t] ty #[.slice (some ⟨g, o, none⟩) zs.length cap, .slice (some a) 1 1]).run P w =
          .ok (.slice (some ⟨g, o, none⟩) (zs.length + 1) cap) (w.setRow g (cur.toList.take (o + zs.length) ++ [Value.int .i64 (x : Int)] ++ cur.toList.drop (o + zs.length + 1)).toArray) := by
        rw [hsize] at hf
        simp [Builtin.append_, run_underlying ht, sizeOf, typeInfo, hi, hsize, Builtin.lenOf, hroom, hf, Addr.add_lit, hst]
      have hct : cur.toList.length = cur.size := Array.length_toList
      refine ⟨_, _, hr, ⟨g, o, cap, _, by rw [List.length_append]; rfl, hb, setRow_heap w g cur _ e _ hh, by rw [List.length_append]; exact hroom, h2, ?_, ?_⟩, ⟨rfl, rfl, rfl, by simp, fun k _ hk => setRow_other w g k _ (fun e => hk (by simp [Value.ownBlock, e]))⟩, .inl rfl⟩
      · rw [List.size_toArray, List.length_append, List.length_append, List.length_take, List.length_drop, hct]
        simp only [List.length_cons, List.length_nil]; omega
      · have hlt : o + zs.length ≤ cur.toList.length := by rw [hct]; omega
        rw [List.append_assoc, List.drop_append_of_le_length (by rw [List.length_take]; omega), List.drop_take, show o + zs.length - o = zs.length from by omega, h4]
        rw [List.length_append, show zs.length + [x].length = (nums zs ++ [Value.int .i64 (x : Int)]).length from by simp [nums_len], ← List.append_assoc, List.take_left]
        simp [nums]
    · have holds : ∀ j u, (nums zs)[j]? = some u → w.cell? ((⟨g, o, none⟩ : Addr).add j) = some u := by
        intro j u hj
        have hjl : j < zs.length := by have := (List.getElem?_eq_some_iff.1 hj).1; rw [nums_len] at this; exact this
        rw [Addr.add_lit, cell_of_row w g (o + j) cur e (0, 0) hh, ← Array.getElem?_toList]
        have := congrArg (fun l => l[j]?) h4
        simp only [List.getElem?_take, if_pos hjl, List.getElem?_drop] at this
        rw [this]; exact hj
      have hr := run_append_grow (P := P) w t ty e i z ht hi hz ⟨g, o, none⟩ zs.length cap (nums zs) (by rw [nums_len, hsize, Nat.mul_one]) holds a 1 1 [Value.int .i64 (x : Int)] hnl hnews (by omega) (by omega) (by rw [hby]; exact growslice_fits (by omega) (by omega))
      exact ⟨_, _, hr, hNW cap (by omega), ⟨rfl, rfl, rfl, by simp, fun k hk _ => Below.heap_alloc w.drew _ k hk⟩, .inr rfl⟩
end
end Go.Proofs.Ytdbjknljdplinaa.Map32
