/- A map from ints. -/
import Derived.Test.YtmceaocknlnmpaaP1
import Derived.Maps.Keyed
import Derived.Maps.Own
import Derived.Maps.OwnOps
import Derived.BigFrame
import Derived.OrdersHeld
import Derived.Laws.BytesArg
import Derived.OpenShut
namespace Go.Proofs.Ytmceaocknlnmpaa.Map64
open Go.ChangeShapes Go.WideShapes Go.ChangeAt Go.RowKit
set_option linter.unusedVariables false

def Ents (l : List MapEntry) (L : List (Int × Value)) : Prop := l.map (fun e => (e.key, e.val)) = L.map (fun p => (Value.int .i64 (p.1 : Int), p.2)) ∧ (L.map (·.1)).Nodup
/-- Block b is a map; F says what stands at each number. -/
def MapR (w : World) (b : Nat) (F : Int → Option Value) : Prop := ∃ es cl L, w.heap[b]? = some (.map es cl) ∧ Ents es.toList L ∧ ∀ k, F k = L.lookup k
theorem find64 (k : Int) : ∀ (l : List MapEntry) (L : List (Int × Value)) (i : Nat), l.map (fun e => (e.key, e.val)) = L.map (fun p => (Value.int .i64 (p.1 : Int), p.2)) →
    (Instr.findNow (.int .i64) (.int .i64 (k : Int)) l i = some none ∧ L.lookup k = none ∧ k ∉ L.map (·.1)) ∨
    ∃ q v, Instr.findNow (.int .i64) (.int .i64 (k : Int)) l i = some (some (i + q, v)) ∧ L[q]? = some (k, v) ∧ L.lookup k = some v
  | [], [], i, _ => .inl ⟨rfl, rfl, by simp⟩
  | [], _ :: _, _, h => by simp at h
  | _ :: _, [], _, h => by simp at h
  | e :: l, (k', v') :: L, i, h => by
    simp only [List.map_cons, List.cons.injEq, Prod.mk.injEq] at h
    obtain ⟨⟨h1, h2⟩, h3⟩ := h
    by_cases hk : k = k'
    · subst hk
      refine .inr ⟨0, v', ?_, rfl, ?_⟩
      · simp [Instr.findNow, h1, h2, Instr.sameNow]
      · simp [List.lookup]
    · have hne : ((k : Int) == (k' : Int)) = false := beq_eq_false_iff_ne.2 (by omega)
      have hne' : (k == k') = false := beq_eq_false_iff_ne.2 hk
      rcases find64 k l L (i + 1) h3 with ⟨a, b, c⟩ | ⟨q, v, a, b, c⟩
      · refine .inl ⟨?_, ?_, ?_⟩
        · rw [Instr.findNow, h1]; simp only [Instr.sameNow, if_true, hne, a]
        · simp only [List.lookup, hne', b]
        · simp only [List.map_cons, List.mem_cons, not_or]; exact ⟨hk, c⟩
      · refine .inr ⟨q + 1, v, ?_, ?_, ?_⟩
        · rw [Instr.findNow, h1]; simp only [Instr.sameNow, if_true, hne, a]; rw [show i + 1 + q = i + (q + 1) from by omega]
        · rw [List.getElem?_cons_succ, b]
        · simp only [List.lookup, hne', c]
theorem lookup_none {L : List (Int × Value)} {k : Int} (h : k ∉ L.map (·.1)) : L.lookup k = none := by
  induction L with
  | nil => rfl
  | cons p L ih =>
    obtain ⟨k', v'⟩ := p
    simp only [List.map_cons, List.mem_cons, not_or] at h
    simp only [List.lookup, beq_eq_false_iff_ne.2 h.1, ih h.2]
theorem lookup_app {L : List (Int × Value)} {k : Int} {v : Value} (h : k ∉ L.map (·.1)) (x : Int) : (L ++ [(k, v)]).lookup x = if x = k then some v else L.lookup x := by
  induction L with
  | nil => by_cases hx : x = k
           · simp [hx]
           · simp [List.lookup, hx, beq_eq_false_iff_ne.2 hx]
  | cons p L ih =>
    obtain ⟨k', v'⟩ := p
    simp only [List.map_cons, List.mem_cons, not_or] at h
    by_cases hx : x = k'
    · subst hx
      simp [List.lookup, Ne.symm h.1]
    · simp only [List.cons_append, List.lookup, beq_eq_false_iff_ne.2 hx, ih h.2]
theorem lookup_set : ∀ {L : List (Int × Value)} {k : Int} {q : Nat} {u v : Value} (h : (L.map (·.1)).Nodup) (hq : L[q]? = some (k, u)) (x : Int), (L.set q (k, v)).lookup x = if x = k then some v else L.lookup x
  | [], k, q, u, v, h, hq, x => by simp at hq
  | (k', v') :: L, k, 0, u, v, h, hq, x => by
    simp only [List.getElem?_cons_zero, Option.some.injEq, Prod.mk.injEq] at hq
    obtain ⟨rfl, rfl⟩ := hq
    by_cases hx : x = k'
    · simp [hx]
    · simp [List.lookup, hx, beq_eq_false_iff_ne.2 hx]
  | (k', v') :: L, k, q + 1, u, v, h, hq, x => by
    simp only [List.map_cons, List.nodup_cons] at h
    rw [List.getElem?_cons_succ] at hq
    have hne : k' ≠ k := fun e => h.1 (e ▸ List.mem_map_of_mem (f := (·.1)) (List.mem_of_getElem? hq))
    rw [List.set_cons_succ]
    by_cases hx : x = k'
    · subst hx
      simp [List.lookup, hne]
    · simp only [List.lookup, beq_eq_false_iff_ne.2 hx, lookup_set h.2 hq x]
theorem lookup_erase : ∀ {L : List (Int × Value)} {k : Int} {q : Nat} {u : Value} (h : (L.map (·.1)).Nodup) (hq : L[q]? = some (k, u)) (x : Int), (L.eraseIdx q).lookup x = if x = k then none else L.lookup x
  | [], k, q, u, h, hq, x => by simp at hq
  | (k', v') :: L, k, 0, u, h, hq, x => by
    simp only [List.getElem?_cons_zero, Option.some.injEq, Prod.mk.injEq] at hq
    obtain ⟨rfl, rfl⟩ := hq
    simp only [List.map_cons, List.nodup_cons] at h
    by_cases hx : x = k'
    · subst hx
      rw [if_pos rfl]; exact lookup_none h.1
    · simp [List.lookup, hx, beq_eq_false_iff_ne.2 hx]
  | (k', v') :: L, k, q + 1, u, h, hq, x => by
    simp only [List.map_cons, List.nodup_cons] at h
    rw [List.getElem?_cons_succ] at hq
    have hne : k' ≠ k := fun e => h.1 (e ▸ List.mem_map_of_mem (f := (·.1)) (List.mem_of_getElem? hq))
    rw [List.eraseIdx_cons_succ]
    by_cases hx : x = k'
    · subst hx
      simp [List.lookup, hne]
    · simp only [List.lookup, beq_eq_false_iff_ne.2 hx, lookup_erase h.2 hq x]
theorem nodup_set {L : List (Int × Value)} {k : Int} {q : Nat} {u v : Value} (h : (L.map (·.1)).Nodup) (hq : L[q]? = some (k, u)) : ((L.set q (k, v)).map (·.1)).Nodup := by
  have e : (L.set q (k, v)).map (·.1) = L.map (·.1) := by
    apply List.ext_getElem?
    intro j
    rw [List.getElem?_map, List.getElem?_map, List.getElem?_set]
    by_cases hj : q = j
    · subst hj
      rw [if_pos rfl, hq]
      have : q < L.length := (List.getElem?_eq_some_iff.1 hq).1
      simp [this]
    · rw [if_neg hj]
  rw [e]; exact h
/-- The world with another block. -/
def mset (w : World) (b : Nat) (o : Obj) : World := { w with heap := w.heap.setIfInBounds b o }
theorem mset_same {w : World} {b : Nat} {o o' : Obj} (h : w.heap[b]? = some o') : (mset w b o).heap[b]? = some o := by
  have : b < w.heap.size := (Array.getElem?_eq_some_iff.1 h).1
  simp [mset, this]
theorem mset_grown (w : World) (b : Nat) (o : Obj) : w.grownBy (mset w b o) (some b) :=
  ⟨rfl, rfl, rfl, by simp [mset], fun i _ hi => by
    simp only [mset, Array.getElem?_setIfInBounds]
    rw [if_neg (fun e => hi (by rw [e]))]⟩
section
variable {P : Program} {w : World} {b : Nat} {F : Int → Option Value} {t kt e : TypeId}
theorem MapR.new (w : World) : MapR (w.alloc (.map #[] 0)) w.heap.size (fun _ => none) := ⟨#[], 0, [], heap_alloc_new w _, ⟨rfl, List.nodup_nil⟩, fun k => rfl⟩
theorem MapR.kept {w' : World} {row : Option Nat} (h : MapR w b F) (hg : w.grownBy w' row) (hne : some b ≠ row) : MapR w' b F := by
  obtain ⟨es, cl, L, hb, hE, hF⟩ := h
  exact ⟨es, cl, L, (hg.block b (Array.getElem?_eq_some_iff.1 hb).1 hne).trans hb, hE, hF⟩
theorem MapR.lt (h : MapR w b F) : b < w.heap.size := by
  obtain ⟨es, cl, L, hb, hE, hF⟩ := h
  exact (Array.getElem?_eq_some_iff.1 hb).1
theorem run_look (h : MapR w b F) (ht : P.underlying t = some (.map kt e)) (hk : P.underlying kt = some (.int .i64)) {z : Value} (hz : (zeroValue e).run P w = .ok z w) (k : Int) :
    (Instr.lookup t (.map (some b)) (.int .i64 (k : Int)) false).run P w = .ok ((F k).getD z) w := by
  obtain ⟨es, cl, L, hb, ⟨hm, hn⟩, hF⟩ := h
  have hc := MapKept.run_checkKey (w := w) hk (k := .int .i64 (k : Int)) (by simp [MapKept.IsKey]) es.isEmpty 9999
  rcases find64 k es.toList L 0 hm with ⟨h1, h2, h3⟩ | ⟨q, v, h1, h2, h3⟩
  · simp [Instr.lookup, run_underlying ht, MapKept.run_getObj_map hb, hc, Instr.findKey, run_underlying hk, h1, hz, Result.andThen, hF, h2]
  · simp [Instr.lookup, run_underlying ht, MapKept.run_getObj_map hb, hc, Instr.findKey, run_underlying hk, h1, Result.andThen, hF, h3]
theorem run_put (h : MapR w b F) (ht : P.underlying t = some (.map kt e)) (hk : P.underlying kt = some (.int .i64)) (k : Int) (v : Value) :
    ∃ w', (Instr.mapUpdate t (.map (some b)) (.int .i64 (k : Int)) v).run P w = .ok () w' ∧ MapR w' b (fun x => if x = k then some v else F x) ∧ w.grownBy w' (some b) := by
  obtain ⟨es, cl, L, hb, ⟨hm, hn⟩, hF⟩ := h
  have hc := MapKept.run_checkKey (w := w) hk (k := .int .i64 (k : Int)) (by simp [MapKept.IsKey]) false 9999
  rcases find64 k es.toList L 0 hm with ⟨h1, h2, h3⟩ | ⟨q, u, h1, h2, h3⟩
  · refine ⟨mset w b (.map (es.push ⟨.int .i64 (k : Int), v, cl⟩) (cl + 1)), ?_, ⟨_, _, L ++ [(k, v)], mset_same hb, ⟨?_, ?_⟩, ?_⟩, mset_grown w b _⟩
    · simp [Instr.mapUpdate, run_underlying ht, MapKept.run_getObj_map hb, hc, Instr.findKey, run_underlying hk, h1, Result.andThen, MapKept.run_setObj_map _ hb, mset]
    · simp [hm]
    · rw [List.map_append, List.nodup_append]; refine ⟨hn, by simp, ?_⟩
      intro a ha c hc e
      simp only [List.map_cons, List.map_nil, List.mem_cons, List.not_mem_nil, or_false] at hc
      exact h3 (by rw [← hc, ← e]; exact ha)
    · intro x; rw [lookup_app h3, ← hF]
  · have hq := (List.getElem?_eq_some_iff.1 h2).1
    have hq' : q < es.size := by
      have := congrArg List.length hm
      simp only [List.length_map, Array.length_toList] at this
      omega
    have hkq : es[q].key = .int .i64 (k : Int) := by
      have := congrArg (fun l => l[q]?) hm
      simp only [List.getElem?_map, h2, Option.map_some] at this
      rw [List.getElem?_eq_getElem (by simpa using hq')] at this
      simp only [Option.map_some, Option.some.injEq, Prod.mk.injEq] at this
      simpa using this.1
    refine ⟨mset w b (.map (es.modify q fun e => { e with key := .int .i64 (k : Int), val := v }) cl), ?_, ⟨_, _, L.set q (k, v), mset_same hb, ⟨?_, nodup_set hn h2⟩, ?_⟩, mset_grown w b _⟩
    · simp [Instr.mapUpdate, run_underlying ht, MapKept.run_getObj_map hb, hc, Instr.findKey, run_underlying hk, h1, Result.andThen, MapKept.run_setObj_map _ hb, mset, hq', hkq, Instr.keyThatStays, Instr.sameBits]
    · apply List.ext_getElem?
      intro j
      rw [List.getElem?_map, List.getElem?_map, List.getElem?_set, Array.getElem?_toList, Array.getElem?_modify]
      have hj' := congrArg (fun l => l[j]?) hm
      simp only [List.getElem?_map, Array.getElem?_toList] at hj'
      by_cases hj : q = j
      · subst hj
        rw [if_pos rfl, if_pos rfl, if_pos hq]
        simp [hq']
      · rw [if_neg hj, if_neg hj]; exact hj'
    · intro x; rw [lookup_set hn h2, ← hF]
theorem run_del (h : MapR w b F) (ht : P.underlying t = some (.map kt e)) (hk : P.underlying kt = some (.int .i64)) (k : Int) (ats : Array TypeId) (ha : ats[0]? = some t) (ty : TypeId) :
    ∃ w', (Builtin.delete_ ats ty #[.map (some b), .int .i64 (k : Int)]).run P w = .ok (.tuple #[]) w' ∧ MapR w' b (fun x => if x = k then none else F x) ∧ w.grownBy w' (some b) := by
  obtain ⟨es, cl, L, hb, ⟨hm, hn⟩, hF⟩ := h
  have hc := MapKept.run_checkKey (w := w) hk (k := .int .i64 (k : Int)) (by simp [MapKept.IsKey]) es.isEmpty 9999
  rcases find64 k es.toList L 0 hm with ⟨h1, h2, h3⟩ | ⟨q, u, h1, h2, h3⟩
  · refine ⟨mset w b (.map es cl), ?_, ⟨_, _, L, mset_same hb, ⟨hm, hn⟩, ?_⟩, mset_grown w b _⟩
    · simp [Builtin.delete_, ha, run_underlying ht, MapKept.run_getObj_map hb, hc, Instr.findKey, run_underlying hk, h1, Result.andThen, MapKept.run_setObj_map _ hb, mset]
    · intro x
      by_cases hx : x = k
      · simp only [if_pos hx]; rw [hx, h2]
      · simp only [if_neg hx]; exact hF x
  · refine ⟨mset w b (.map (es.eraseIdxIfInBounds q) cl), ?_, ⟨_, _, L.eraseIdx q, mset_same hb, ⟨?_, ?_⟩, ?_⟩, mset_grown w b _⟩
    · simp [Builtin.delete_, ha, run_underlying ht, MapKept.run_getObj_map hb, hc, Instr.findKey, run_underlying hk, h1, Result.andThen, MapKept.run_setObj_map _ hb, mset]
    · rw [show (es.eraseIdxIfInBounds q).toList = es.toList.eraseIdx q from by simp [Array.eraseIdxIfInBounds]; split <;> simp_all [List.eraseIdx_of_length_le]]
      rw [ChangeMaps.map_eraseIdx, ChangeMaps.map_eraseIdx, hm]
    · exact hn.sublist ((List.eraseIdx_sublist L q).map _)
    · intro x; rw [lookup_erase hn h2, ← hF]
theorem MapR.ext {w' : World} (h : MapR w b F) (hg : Ext w w') : MapR w' b F := by
  obtain ⟨es, cl, L, hb, r⟩ := h
  exact ⟨es, cl, L, (hg.block b (Array.getElem?_eq_some_iff.1 hb).1).trans hb, r⟩
theorem MapR.blk {w' : World} (h : MapR w b F) (hg : w'.heap[b]? = w.heap[b]?) : MapR w' b F := by
  obtain ⟨es, cl, L, hb, r⟩ := h
  exact ⟨es, cl, L, hg.trans hb, r⟩
theorem run_look2 (h : MapR w b F) (ht : P.underlying t = some (.map kt e)) (hk : P.underlying kt = some (.int .i64)) {z : Value} (hz : (zeroValue e).run P w = .ok z w) (k : Int) :
    (Instr.lookup t (.map (some b)) (.int .i64 (k : Int)) true).run P w = .ok (.tuple #[(F k).getD z, .bool (F k).isSome]) w := by
  obtain ⟨es, cl, L, hb, ⟨hm, hn⟩, hF⟩ := h
  have hc := MapKept.run_checkKey (w := w) hk (k := .int .i64 (k : Int)) (by simp [MapKept.IsKey]) es.isEmpty 9999
  rcases find64 k es.toList L 0 hm with ⟨h1, h2, h3⟩ | ⟨q, v, h1, h2, h3⟩
  · simp [Instr.lookup, run_underlying ht, MapKept.run_getObj_map hb, hc, Instr.findKey, run_underlying hk, h1, hz, Result.andThen, hF, h2]
  · simp [Instr.lookup, run_underlying ht, MapKept.run_getObj_map hb, hc, Instr.findKey, run_underlying hk, h1, Result.andThen, hF, h3]
/-- How many there are. -/
theorem size_eq {es : Array MapEntry} {L : List (Int × Value)} {I : List Int} (hm : es.toList.map (fun e => (e.key, e.val)) = L.map (fun p => (Value.int .i64 (p.1 : Int), p.2))) (hn : (L.map (·.1)).Nodup) (hF : ∀ k, F k = L.lookup k) (hI : I.Nodup) (hIF : ∀ k, k ∈ I ↔ F k ≠ none) : es.size = I.length := by
  have h1 : es.size = (L.map (·.1)).length := by
    have := congrArg List.length hm
    simpa using this
  rw [h1]
  have hp : (L.map (·.1)).Perm I := (List.perm_ext_iff_of_nodup hn hI).2 (fun k => by
    rw [hIF, hF]
    constructor
    · intro hk hc
      obtain ⟨p, hp, rfl⟩ := List.mem_map.1 hk
      have := List.lookup_eq_none_iff.1 hc p hp
      simp at this
    · intro hc
      by_cases hk : k ∈ L.map (·.1)
      · exact hk
      · exact absurd (lookup_none hk) hc)
  exact hp.length_eq
theorem run_len (h : MapR w b F) (ht : P.underlying t = some (.map kt e)) (ty : TypeId) {I : List Int} (hI : I.Nodup) (hIF : ∀ k, k ∈ I ↔ F k ≠ none) :
    (Builtin.len_ #[t] ty #[.map (some b)]).run P w = .ok (.int .i64 (I.length : Int)) w := by
  obtain ⟨es, cl, L, hb, ⟨hm, hn⟩, hF⟩ := h
  have := size_eq hm hn hF hI hIF
  simp [Builtin.len_, run_underlying ht, MapKept.run_getObj_map hb, goInt, this]
variable {et : TypeId} {ops : Array Oper} {rest : List Oper} {o : Oper} {a : Act} {Q : Exit → Act → World → Prop}
theorem wpList_look (hw : Region.wanted o (yielded ops a.tmps) = true) (m x : Operand) (hop : o.op = Op.lookup t m x false) (ht : P.underlying t = some (.map kt et)) (hk : P.underlying kt = some (.int .i64)) {z : Value} (hz : (zeroValue et).run P w = .ok z w)
    (hm : a.eval m = .map (some b)) (h : MapR w b F) (k : Int) (hx : a.eval x = .int .i64 (k : Int)) (v : Value) (hv : (F k).getD z = v) (hK : wpList P ops Q rest (a.put o.dst v) w) : wpList P ops Q (o :: rest) a w := by
  refine BigFrame.wpList_want hw fun K' hK' => ?_
  have hrun := run_look (P := P) h ht hk hz k
  rw [hv] at hrun
  unfold Oper.wp
  simp [execOp, hop, hm, hx, hrun, Result.andThen]
  exact hK' _ _ hK
theorem wpList_look2 (hg : o.guard = none) (m x : Operand) (hop : o.op = Op.lookup t m x true) (ht : P.underlying t = some (.map kt et)) (hk : P.underlying kt = some (.int .i64)) {z : Value} (hz : (zeroValue et).run P w = .ok z w)
    (hm : a.eval m = .map (some b)) (h : MapR w b F) (k : Int) (hx : a.eval x = .int .i64 (k : Int)) (v : Value) (c : Bool) (hv : (F k).getD z = v) (hc : (F k).isSome = c) (hK : wpList P ops Q rest (a.put o.dst (.tuple #[v, .bool c])) w) : wpList P ops Q (o :: rest) a w := by
  refine wpList_plain hg fun K' hK' => ?_
  have hrun := run_look2 (P := P) h ht hk hz k
  rw [hv, hc] at hrun
  unfold Oper.wp
  simp [execOp, hop, hm, hx, hrun, Result.andThen]
  exact hK' _ _ hK
theorem wpList_len (hw : Region.wanted o (yielded ops a.tmps) = true) (m : Operand) (hop : o.op = .call { callee := .builtin .len, args := #[m], argTypes := #[t] }) (ht : P.underlying t = some (.map kt et))
    (hm : a.eval m = .map (some b)) (h : MapR w b F) (I : List Int) (hI : I.Nodup) (hIF : ∀ k, k ∈ I ↔ F k ≠ none) (n : Nat) (hn : I.length = n) (hK : wpList P ops Q rest (a.put o.dst (.int .i64 (n : Int))) w) : wpList P ops Q (o :: rest) a w := by
  refine BigFrame.wpList_want hw fun K' hK' => ?_
  have hrun := run_len (P := P) h ht o.type hI hIF
  rw [hn] at hrun
  unfold Oper.wp execOp
  simp only [hop, resolve, invoke, builtin, Sem.run_bind, Sem.run_pure, Result.andThen_ok, List.map_toArray, List.map_cons, List.map_nil, hm, hrun]
  exact hK' _ _ hK
theorem wpList_put (hg : o.guard = none) (m x v : Operand) (hop : o.op = Op.mapUpdate t m x v) (ht : P.underlying t = some (.map kt et)) (hk : P.underlying kt = some (.int .i64))
    (hm : a.eval m = .map (some b)) (h : MapR w b F) (k : Int) (val : Value) (hx : a.eval x = .int .i64 (k : Int)) (hv : a.eval v = val)
    (hK : ∀ w', MapR w' b (fun x => if x = k then some val else F x) → w.grownBy w' (some b) → wpList P ops Q rest (a.put o.dst undef) w') : wpList P ops Q (o :: rest) a w := by
  refine wpList_plain hg fun K' hK' => ?_
  obtain ⟨w', hrun, r1, r2⟩ := run_put (P := P) h ht hk k val
  unfold Oper.wp
  simp [execOp, hop, hm, hx, hv, hrun, Result.andThen]
  exact hK' _ _ (hK w' r1 r2)
theorem wpList_del (hg : o.guard = none) (m x : Operand) (tk : TypeId) (hop : o.op = .call { callee := .builtin .delete, args := #[m, x], argTypes := #[t, tk] }) (ht : P.underlying t = some (.map kt et)) (hk : P.underlying kt = some (.int .i64))
    (hm : a.eval m = .map (some b)) (h : MapR w b F) (k : Int) (hx : a.eval x = .int .i64 (k : Int))
    (hK : ∀ w', MapR w' b (fun x => if x = k then none else F x) → w.grownBy w' (some b) → wpList P ops Q rest (a.put o.dst (.tuple #[])) w') : wpList P ops Q (o :: rest) a w := by
  refine wpList_plain hg fun K' hK' => ?_
  obtain ⟨w', hrun, r1, r2⟩ := run_del (P := P) h ht hk k #[t, tk] rfl o.type
  unfold Oper.wp execOp
  simp only [hop, resolve, invoke, builtin, Sem.run_bind, Sem.run_pure, Result.andThen_ok, List.map_toArray, List.map_cons, List.map_nil, hm, hx, hrun]
  exact hK' _ _ (hK w' r1 r2)
end
end Go.Proofs.Ytmceaocknlnmpaa.Map64
namespace Go.Proofs.Ytmceaocknlnmpaa.Map32
open Go.ChangeShapes Go.WideShapes Go.ChangeAt Go.RowKit
set_option linter.unusedVariables false

def Ents (l : List MapEntry) (L : List (Nat × Value)) : Prop := l.map (fun e => (e.key, e.val)) = L.map (fun p => (Value.int .u32 (p.1 : Int), p.2)) ∧ (L.map (·.1)).Nodup
/-- Block b is a map; F says what stands at each number. -/
def MapR (w : World) (b : Nat) (F : Nat → Option Value) : Prop := ∃ es cl L, w.heap[b]? = some (.map es cl) ∧ Ents es.toList L ∧ ∀ k, F k = L.lookup k
theorem find32 (k : Nat) : ∀ (l : List MapEntry) (L : List (Nat × Value)) (i : Nat), l.map (fun e => (e.key, e.val)) = L.map (fun p => (Value.int .u32 (p.1 : Int), p.2)) →
    (Instr.findNow (.int .u32) (.int .u32 (k : Int)) l i = some none ∧ L.lookup k = none ∧ k ∉ L.map (·.1)) ∨
    ∃ q v, Instr.findNow (.int .u32) (.int .u32 (k : Int)) l i = some (some (i + q, v)) ∧ L[q]? = some (k, v) ∧ L.lookup k = some v
  | [], [], i, _ => .inl ⟨rfl, rfl, by simp⟩
  | [], _ :: _, _, h => by simp at h
  | _ :: _, [], _, h => by simp at h
  | e :: l, (k', v') :: L, i, h => by
    simp only [List.map_cons, List.cons.injEq, Prod.mk.injEq] at h
    obtain ⟨⟨h1, h2⟩, h3⟩ := h
    by_cases hk : k = k'
    · subst hk
      refine .inr ⟨0, v', ?_, rfl, ?_⟩
      · simp [Instr.findNow, h1, h2, Instr.sameNow]
      · simp [List.lookup]
    · have hne : ((k : Int) == (k' : Int)) = false := beq_eq_false_iff_ne.2 (by omega)
      have hne' : (k == k') = false := beq_eq_false_iff_ne.2 hk
      rcases find32 k l L (i + 1) h3 with ⟨a, b, c⟩ | ⟨q, v, a, b, c⟩
      · refine .inl ⟨?_, ?_, ?_⟩
        · rw [Instr.findNow, h1]; simp only [Instr.sameNow, if_true, hne, a]
        · simp only [List.lookup, hne', b]
        · simp only [List.map_cons, List.mem_cons, not_or]; exact ⟨hk, c⟩
      · refine .inr ⟨q + 1, v, ?_, ?_, ?_⟩
        · rw [Instr.findNow, h1]; simp only [Instr.sameNow, if_true, hne, a]; rw [show i + 1 + q = i + (q + 1) from by omega]
        · rw [List.getElem?_cons_succ, b]
        · simp only [List.lookup, hne', c]
theorem lookup_none {L : List (Nat × Value)} {k : Nat} (h : k ∉ L.map (·.1)) : L.lookup k = none := by
  induction L with
  | nil => rfl
  | cons p L ih =>
    obtain ⟨k', v'⟩ := p
    simp only [List.map_cons, List.mem_cons, not_or] at h
    simp only [List.lookup, beq_eq_false_iff_ne.2 h.1, ih h.2]
theorem lookup_app {L : List (Nat × Value)} {k : Nat} {v : Value} (h : k ∉ L.map (·.1)) (x : Nat) : (L ++ [(k, v)]).lookup x = if x = k then some v else L.lookup x := by
  induction L with
  | nil => by_cases hx : x = k
           · simp [hx]
           · simp [List.lookup, hx, beq_eq_false_iff_ne.2 hx]
  | cons p L ih =>
    obtain ⟨k', v'⟩ := p
    simp only [List.map_cons, List.mem_cons, not_or] at h
    by_cases hx : x = k'
    · subst hx
      simp [List.lookup, Ne.symm h.1]
    · simp only [List.cons_append, List.lookup, beq_eq_false_iff_ne.2 hx, ih h.2]
theorem lookup_set : ∀ {L : List (Nat × Value)} {k q : Nat} {u v : Value} (h : (L.map (·.1)).Nodup) (hq : L[q]? = some (k, u)) (x : Nat), (L.set q (k, v)).lookup x = if x = k then some v else L.lookup x
  | [], k, q, u, v, h, hq, x => by simp at hq
  | (k', v') :: L, k, 0, u, v, h, hq, x => by
    simp only [List.getElem?_cons_zero, Option.some.injEq, Prod.mk.injEq] at hq
    obtain ⟨rfl, rfl⟩ := hq
    by_cases hx : x = k'
    · simp [hx]
    · simp [List.lookup, hx, beq_eq_false_iff_ne.2 hx]
  | (k', v') :: L, k, q + 1, u, v, h, hq, x => by
    simp only [List.map_cons, List.nodup_cons] at h
    rw [List.getElem?_cons_succ] at hq
    have hne : k' ≠ k := fun e => h.1 (e ▸ List.mem_map_of_mem (f := (·.1)) (List.mem_of_getElem? hq))
    rw [List.set_cons_succ]
    by_cases hx : x = k'
    · subst hx
      simp [List.lookup, hne]
    · simp only [List.lookup, beq_eq_false_iff_ne.2 hx, lookup_set h.2 hq x]
theorem lookup_erase : ∀ {L : List (Nat × Value)} {k q : Nat} {u : Value} (h : (L.map (·.1)).Nodup) (hq : L[q]? = some (k, u)) (x : Nat), (L.eraseIdx q).lookup x = if x = k then none else L.lookup x
  | [], k, q, u, h, hq, x => by simp at hq
  | (k', v') :: L, k, 0, u, h, hq, x => by
    simp only [List.getElem?_cons_zero, Option.some.injEq, Prod.mk.injEq] at hq
    obtain ⟨rfl, rfl⟩ := hq
    simp only [List.map_cons, List.nodup_cons] at h
    by_cases hx : x = k'
    · subst hx
      rw [if_pos rfl]; exact lookup_none h.1
    · simp [List.lookup, hx, beq_eq_false_iff_ne.2 hx]
  | (k', v') :: L, k, q + 1, u, h, hq, x => by
    simp only [List.map_cons, List.nodup_cons] at h
    rw [List.getElem?_cons_succ] at hq
    have hne : k' ≠ k := fun e => h.1 (e ▸ List.mem_map_of_mem (f := (·.1)) (List.mem_of_getElem? hq))
    rw [List.eraseIdx_cons_succ]
    by_cases hx : x = k'
    · subst hx
      simp [List.lookup, hne]
    · simp only [List.lookup, beq_eq_false_iff_ne.2 hx, lookup_erase h.2 hq x]
theorem nodup_set {L : List (Nat × Value)} {k q : Nat} {u v : Value} (h : (L.map (·.1)).Nodup) (hq : L[q]? = some (k, u)) : ((L.set q (k, v)).map (·.1)).Nodup := by
  have e : (L.set q (k, v)).map (·.1) = L.map (·.1) := by
    apply List.ext_getElem?
    intro j
    rw [List.getElem?_map, List.getElem?_map, List.getElem?_set]
    by_cases hj : q = j
    · subst hj
      rw [if_pos rfl, hq]
      have : q < L.length := (List.getElem?_eq_some_iff.1 hq).1
      simp [this]
    · rw [if_neg hj]
  rw [e]; exact h
/-- The world with another block. -/
def mset (w : World) (b : Nat) (o : Obj) : World := { w with heap := w.heap.setIfInBounds b o }
theorem mset_same {w : World} {b : Nat} {o o' : Obj} (h : w.heap[b]? = some o') : (mset w b o).heap[b]? = some o := by
  have : b < w.heap.size := (Array.getElem?_eq_some_iff.1 h).1
  simp [mset, this]
theorem mset_grown (w : World) (b : Nat) (o : Obj) : w.grownBy (mset w b o) (some b) :=
  ⟨rfl, rfl, rfl, by simp [mset], fun i _ hi => by
    simp only [mset, Array.getElem?_setIfInBounds]
    rw [if_neg (fun e => hi (by rw [e]))]⟩
section
variable {P : Program} {w : World} {b : Nat} {F : Nat → Option Value} {t kt e : TypeId}
theorem MapR.new (w : World) : MapR (w.alloc (.map #[] 0)) w.heap.size (fun _ => none) := ⟨#[], 0, [], heap_alloc_new w _, ⟨rfl, List.nodup_nil⟩, fun k => rfl⟩
theorem MapR.kept {w' : World} {row : Option Nat} (h : MapR w b F) (hg : w.grownBy w' row) (hne : some b ≠ row) : MapR w' b F := by
  obtain ⟨es, cl, L, hb, hE, hF⟩ := h
  exact ⟨es, cl, L, (hg.block b (Array.getElem?_eq_some_iff.1 hb).1 hne).trans hb, hE, hF⟩
theorem MapR.lt (h : MapR w b F) : b < w.heap.size := by
  obtain ⟨es, cl, L, hb, hE, hF⟩ := h
  exact (Array.getElem?_eq_some_iff.1 hb).1
theorem run_look (h : MapR w b F) (ht : P.underlying t = some (.map kt e)) (hk : P.underlying kt = some (.int .u32)) {z : Value} (hz : (zeroValue e).run P w = .ok z w) (k : Nat) :
    (Instr.lookup t (.map (some b)) (.int .u32 (k : Int)) false).run P w = .ok ((F k).getD z) w := by
  obtain ⟨es, cl, L, hb, ⟨hm, hn⟩, hF⟩ := h
  have hc := MapKept.run_checkKey (w := w) hk (k := .int .u32 (k : Int)) (by simp [MapKept.IsKey]) es.isEmpty 9999
  rcases find32 k es.toList L 0 hm with ⟨h1, h2, h3⟩ | ⟨q, v, h1, h2, h3⟩
  · simp [Instr.lookup, run_underlying ht, MapKept.run_getObj_map hb, hc, Instr.findKey, run_underlying hk, h1, hz, Result.andThen, hF, h2]
  · simp [Instr.lookup, run_underlying ht, MapKept.run_getObj_map hb, hc, Instr.findKey, run_underlying hk, h1, Result.andThen, hF, h3]
theorem run_put (h : MapR w b F) (ht : P.underlying t = some (.map kt e)) (hk : P.underlying kt = some (.int .u32)) (k : Nat) (v : Value) :
    ∃ w', (Instr.mapUpdate t (.map (some b)) (.int .u32 (k : Int)) v).run P w = .ok () w' ∧ MapR w' b (fun x => if x = k then some v else F x) ∧ w.grownBy w' (some b) := by
  obtain ⟨es, cl, L, hb, ⟨hm, hn⟩, hF⟩ := h
  have hc := MapKept.run_checkKey (w := w) hk (k := .int .u32 (k : Int)) (by simp [MapKept.IsKey]) false 9999
  rcases find32 k es.toList L 0 hm with ⟨h1, h2, h3⟩ | ⟨q, u, h1, h2, h3⟩
  · refine ⟨mset w b (.map (es.push ⟨.int .u32 (k : Int), v, cl⟩) (cl + 1)), ?_, ⟨_, _, L ++ [(k, v)], mset_same hb, ⟨?_, ?_⟩, ?_⟩, mset_grown w b _⟩
    · simp [Instr.mapUpdate, run_underlying ht, MapKept.run_getObj_map hb, hc, Instr.findKey, run_underlying hk, h1, Result.andThen, MapKept.run_setObj_map _ hb, mset]
    · simp [hm]
    · rw [List.map_append, List.nodup_append]; refine ⟨hn, by simp, ?_⟩
      intro a ha c hc e
      simp only [List.map_cons, List.map_nil, List.mem_cons, List.not_mem_nil, or_false] at hc
      exact h3 (by rw [← hc, ← e]; exact ha)
    · intro x; rw [lookup_app h3, ← hF]
  · have hq := (List.getElem?_eq_some_iff.1 h2).1
    have hq' : q < es.size := by
      have := congrArg List.length hm
      simp only [List.length_map, Array.length_toList] at this
      omega
    have hkq : es[q].key = .int .u32 (k : Int) := by
      have := congrArg (fun l => l[q]?) hm
      simp only [List.getElem?_map, h2, Option.map_some] at this
      rw [List.getElem?_eq_getElem (by simpa using hq')] at this
      simp only [Option.map_some, Option.some.injEq, Prod.mk.injEq] at this
      simpa using this.1
    refine ⟨mset w b (.map (es.modify q fun e => { e with key := .int .u32 (k : Int), val := v }) cl), ?_, ⟨_, _, L.set q (k, v), mset_same hb, ⟨?_, nodup_set hn h2⟩, ?_⟩, mset_grown w b _⟩
    · simp [Instr.mapUpdate, run_underlying ht, MapKept.run_getObj_map hb, hc, Instr.findKey, run_underlying hk, h1, Result.andThen, MapKept.run_setObj_map _ hb, mset, hq', hkq, Instr.keyThatStays, Instr.sameBits]
    · apply List.ext_getElem?
      intro j
      rw [List.getElem?_map, List.getElem?_map, List.getElem?_set, Array.getElem?_toList, Array.getElem?_modify]
      have hj' := congrArg (fun l => l[j]?) hm
      simp only [List.getElem?_map, Array.getElem?_toList] at hj'
      by_cases hj : q = j
      · subst hj
        rw [if_pos rfl, if_pos rfl, if_pos hq]
        simp [hq']
      · rw [if_neg hj, if_neg hj]; exact hj'
    · intro x; rw [lookup_set hn h2, ← hF]
theorem run_del (h : MapR w b F) (ht : P.underlying t = some (.map kt e)) (hk : P.underlying kt = some (.int .u32)) (k : Nat) (ats : Array TypeId) (ha : ats[0]? = some t) (ty : TypeId) :
    ∃ w', (Builtin.delete_ ats ty #[.map (some b), .int .u32 (k : Int)]).run P w = .ok (.tuple #[]) w' ∧ MapR w' b (fun x => if x = k then none else F x) ∧ w.grownBy w' (some b) := by
  obtain ⟨es, cl, L, hb, ⟨hm, hn⟩, hF⟩ := h
  have hc := MapKept.run_checkKey (w := w) hk (k := .int .u32 (k : Int)) (by simp [MapKept.IsKey]) es.isEmpty 9999
  rcases find32 k es.toList L 0 hm with ⟨h1, h2, h3⟩ | ⟨q, u, h1, h2, h3⟩
  · refine ⟨mset w b (.map es cl), ?_, ⟨_, _, L, mset_same hb, ⟨hm, hn⟩, ?_⟩, mset_grown w b _⟩
    · simp [Builtin.delete_, ha, run_underlying ht, MapKept.run_getObj_map hb, hc, Instr.findKey, run_underlying hk, h1, Result.andThen, MapKept.run_setObj_map _ hb, mset]
    · intro x
      by_cases hx : x = k
      · simp only [if_pos hx]; rw [hx, h2]
      · simp only [if_neg hx]; exact hF x
  · refine ⟨mset w b (.map (es.eraseIdxIfInBounds q) cl), ?_, ⟨_, _, L.eraseIdx q, mset_same hb, ⟨?_, ?_⟩, ?_⟩, mset_grown w b _⟩
    · simp [Builtin.delete_, ha, run_underlying ht, MapKept.run_getObj_map hb, hc, Instr.findKey, run_underlying hk, h1, Result.andThen, MapKept.run_setObj_map _ hb, mset]
    · rw [show (es.eraseIdxIfInBounds q).toList = es.toList.eraseIdx q from by simp [Array.eraseIdxIfInBounds]; split <;> simp_all [List.eraseIdx_of_length_le]]
      rw [ChangeMaps.map_eraseIdx, ChangeMaps.map_eraseIdx, hm]
    · exact hn.sublist ((List.eraseIdx_sublist L q).map _)
    · intro x; rw [lookup_erase hn h2, ← hF]
end
end Go.Proofs.Ytmceaocknlnmpaa.Map32
namespace Go.Proofs.Ytmceaocknlnmpaa.Map32
open Go.ChangeShapes Go.WideShapes Go.ChangeAt Go.RowKit
set_option linter.unusedVariables false

def nums (zs : List Nat) : List Value := zs.map fun (z : Nat) => Value.int .i64 (z : Int)
/-- A row of numbers in a block from base on, that may begin further back in it. -/
def Sl (w : World) (base e : Nat) (v : Value) (zs : List Nat) : Prop :=
  ∃ g o cap cur, v = .slice (some ⟨g, o, none⟩) zs.length cap ∧ base ≤ g ∧ w.heap[g]? = some (.cells cur e (0, 0)) ∧ zs.length ≤ cap ∧ cap ≤ maxLen ∧ cur.size = o + cap ∧ (cur.toList.drop o).take zs.length = nums zs
section
variable {P : Program} {w w' : World} {base e : Nat} {v : Value} {zs : List Nat}
theorem nums_len (zs : List Nat) : (nums zs).length = zs.length := by simp [nums]
theorem Sl.kept {row : Option Nat} (h : Sl w base e v zs) (hg : w.grownBy w' row) (hne : v.ownBlock ≠ row) : Sl w' base e v zs := by
  obtain ⟨g, o, cap, cur, rfl, hb, hh, r⟩ := h
  exact ⟨g, o, cap, cur, rfl, hb, (hg.block g (Array.getElem?_eq_some_iff.1 hh).1 hne).trans hh, r⟩
theorem Sl.ext (h : Sl w base e v zs) (hg : Ext w w') : Sl w' base e v zs := by
  obtain ⟨g, o, cap, cur, rfl, hb, hh, r⟩ := h
  exact ⟨g, o, cap, cur, rfl, hb, (hg.block g (Array.getElem?_eq_some_iff.1 hh).1).trans hh, r⟩
theorem Sl.block (h : Sl w base e v zs) : ∃ g, v.ownBlock = some g ∧ base ≤ g ∧ g < w.heap.size := by
  obtain ⟨g, o, cap, cur, rfl, hb, hh, r⟩ := h
  exact ⟨g, rfl, hb, (Array.getElem?_eq_some_iff.1 hh).1⟩
theorem Sl.cells {g o cap n : Nat} (h : Sl w base e (.slice (some ⟨g, o, none⟩) n cap) zs) (j : Nat) (hj : j < zs.length) : w.cell? ⟨g, o + j, none⟩ = some (.int .i64 ((zs.getD j 0 : Nat) : Int)) := by
  obtain ⟨g', o', cap', cur, hv, hb, hh, h1, h2, h3, h4⟩ := h
  obtain ⟨e1, _, _⟩ := Value.slice.inj hv
  obtain ⟨rfl, rfl, _⟩ := Addr.mk.inj (Option.some.inj e1)
  rw [cell_of_row w g (o + j) cur e (0, 0) hh]
  have := congrArg (fun l => l[j]?) h4
  simp only [List.getElem?_take, if_pos hj, List.getElem?_drop] at this
  rw [← Array.getElem?_toList, this]
  simp [nums, List.getD_eq_getElem?_getD, List.getElem?_eq_getElem hj]
theorem Sl.frozen {g o cap n : Nat} (h : Sl w base e (.slice (some ⟨g, o, none⟩) n cap) zs) (j : Nat) (hj : j < zs.length) : w.frozen? ⟨g, o + j, none⟩ = false := by
  obtain ⟨g', o', cap', cur, hv, hb, hh, _⟩ := h
  obtain ⟨e1, _, _⟩ := Value.slice.inj hv
  obtain ⟨rfl, rfl, _⟩ := Addr.mk.inj (Option.some.inj e1)
  simp [World.frozen?, hh]
theorem Sl.shape (h : Sl w base e v zs) : ∃ g o cap, v = .slice (some ⟨g, o, none⟩) zs.length cap ∧ zs.length ≤ cap ∧ cap ≤ maxLen ∧ base ≤ g := by
  obtain ⟨g, o, cap, cur, rfl, hb, hh, h1, h2, r⟩ := h
  exact ⟨g, o, cap, rfl, h1, h2, hb⟩
theorem Sl.tail {g o cap n z : Nat} (h : Sl w base e (.slice (some ⟨g, o, none⟩) (n + 1) cap) (z :: zs)) : Sl w base e (.slice (some ⟨g, o + 1, none⟩) n (cap - 1)) zs := by
  obtain ⟨g', o', cap', cur, hv, hb, hh, h1, h2, h3, h4⟩ := h
  obtain ⟨e1, e2, e3⟩ := Value.slice.inj hv
  obtain ⟨rfl, rfl, _⟩ := Addr.mk.inj (Option.some.inj e1)
  subst e3
  simp only [List.length_cons] at e2 h1 h4
  obtain rfl : n = zs.length := by omega
  refine ⟨g, o + 1, cap - 1, cur, rfl, hb, hh, by omega, by omega, by omega, ?_⟩
  have := congrArg List.tail h4
  rw [show (nums (z :: zs)).tail = nums zs from rfl] at this
  rw [← this]
  apply List.ext_getElem?
  intro j
  rw [List.getElem?_tail, List.getElem?_take, List.getElem?_take, List.getElem?_drop, List.getElem?_drop, show o + 1 + j = o + (j + 1) from by omega]
  by_cases hj : j < zs.length
  · rw [if_pos hj, if_pos (by omega)]
  · rw [if_neg hj, if_neg (by omega)]
/-- One more behind it. -/
theorem run_more (t ty : TypeId) (i : TypeInfo) (z : Value) (ht : P.underlying t = some (.slice e)) (hi : P.info? e = some i) (hz : i.zero = some z) (hsize : i.size = 1) (hby : i.bytes = 8) (hzs : z.cells.size = 1)
    (h : (v = .slice none 0 0 ∧ zs = []) ∨ Sl w base e v zs) (a : Addr) (x : Nat) (hx : w.cell? a = some (.int .i64 (x : Int))) (hl : zs.length ≤ 1000) (hbase : base ≤ w.heap.size) :
    ∃ v' w', (Builtin.append_ #[t, t] ty #[v, .slice (some a) 1 1]).run P w = .ok v' w' ∧ Sl w' base e v' (zs ++ [x]) ∧ w.grownBy w' v.ownBlock ∧ (v'.ownBlock = v.ownBlock ∨ v'.ownBlock = some w.heap.size) := by
  have hnews : ∀ j u, [Value.int .i64 (x : Int)][j]? = some u → w.cell? (a.add j) = some u := by
    intro j u hj
    match j, hj with
    | 0, hj => simp at hj; subst hj; simpa [Addr.add] using hx
  have hnl : [Value.int .i64 (x : Int)].length = 1 * i.size := by rw [hsize]; rfl
  have hh1 : ∀ u ∈ [Value.int .i64 (x : Int)], u.oneCell' = true := by intro u hu; simp at hu; subst hu; rfl
  have hNW : ∀ old : Nat, old < zs.length + 1 → Sl (w.drew.alloc (.cells ((nums zs).toArray ++ [Value.int .i64 (x : Int)].toArray ++ Builtin.zeroCells z.cells (grownCap w (zs.length + 1) old e - (zs.length + 1))) e)) base e
      (.slice (some ⟨w.heap.size, 0, none⟩) (zs.length + 1) (grownCap w (zs.length + 1) old e)) (zs ++ [x]) := by
    intro old ho
    have hge := grownCap_ge w (zs.length + 1) old e
    have hcm : grownCap w (zs.length + 1) old e ≤ maxLen := grownCap_le_maxLen w (zs.length + 1) old e (by unfold maxLen; omega)
    refine ⟨w.heap.size, 0, _, _, by rw [List.length_append]; rfl, hbase, heap_alloc_new w.drew _, by rw [List.length_append]; exact hge, hcm, ?_, ?_⟩
    · simp only [Array.size_append, List.size_toArray, nums_len, size_zeroCells, hzs, List.length_cons, List.length_nil]; omega
    · rw [List.drop_zero, Array.toList_append, Array.toList_append, List.length_append, show zs.length + [x].length = ((nums zs).toArray.toList ++ [Value.int .i64 (x : Int)].toArray.toList).length from by simp [nums_len], List.take_left]
      simp [nums]
  rcases h with ⟨rfl, rfl⟩ | ⟨g, o, cap, cur, rfl, hb, hh, h1, h2, h3, h4⟩
  · have hr := run_append_nil (P := P) w t ty e i z ht hi hz a 1 1 [Value.int .i64 (x : Int)] hnl hnews (by omega) (by omega) (by rw [hby]; omega)
    have hn := hNW 0 (by simp)
    refine ⟨_, _, hr, ?_, ⟨rfl, rfl, rfl, by simp, fun k hk _ => Below.heap_alloc w.drew _ k hk⟩, .inr rfl⟩
    simpa [nums] using hn
  · by_cases hroom : zs.length + 1 ≤ cap
    · have hst := run_storeCells_at P g (o + zs.length) e [Value.int .i64 (x : Int)] 0 cur w hh (by simp; omega) hh1
      have hf := run_firstCells_some (P := P) w i.size 1 a 1 1 [Value.int .i64 (x : Int)] hnl hnews
      simp only [Nat.add_zero] at hst
      have hr : (Builtin.append_ #[t, t] ty #[.slice (some ⟨g, o, none⟩) zs.length cap, .slice (some a) 1 1]).run P w =
          .ok (.slice (some ⟨g, o, none⟩) (zs.length + 1) cap) (w.setRow g (cur.toList.take (o + zs.length) ++ [Value.int .i64 (x : Int)] ++ cur.toList.drop (o + zs.length + 1)).toArray) := by
        rw [hsize] at hf
        simp [Builtin.append_, run_underlying ht, sizeOf, typeInfo, hi, hsize, Builtin.lenOf, hroom, hf, Addr.add_lit, hst]
      have hct : cur.toList.length = cur.size := Array.length_toList
      refine ⟨_, _, hr, ⟨g, o, cap, _, by rw [List.length_append]; rfl, hb, setRow_heap w g cur _ e _ hh, by rw [List.length_append]; exact hroom, h2, ?_, ?_⟩, ⟨rfl, rfl, rfl, by simp, fun k _ hk => setRow_other w g k _ (fun e => hk (by simp [Value.ownBlock, e]))⟩, .inl rfl⟩
      · rw [List.size_toArray, List.length_append, List.length_append, List.length_take, List.length_drop, hct]
        simp only [List.length_cons, List.length_nil]; omega
      · have hlt : o + zs.length ≤ cur.toList.length := by rw [hct]; omega
        rw [List.append_assoc, List.drop_append_of_le_length (by rw [List.length_take]; omega), List.drop_take, show o + zs.length - o = zs.length from by omega, h4]
        rw [List.length_append, show zs.length + [x].length = (nums zs ++ [Value.int .i64 (x : Int)]).length from by simp [nums_len], ← List.append_assoc, List.take_left]
        simp [nums]
    · have holds : ∀ j u, (nums zs)[j]? = some u → w.cell? ((⟨g, o, none⟩ : Addr).add j) = some u := by
        intro j u hj
        have hjl : j < zs.length := by have := (List.getElem?_eq_some_iff.1 hj).1; rw [nums_len] at this; exact this
        rw [Addr.add_lit, cell_of_row w g (o + j) cur e (0, 0) hh, ← Array.getElem?_toList]
        have := congrArg (fun l => l[j]?) h4
        simp only [List.getElem?_take, if_pos hjl, List.getElem?_drop] at this
        rw [this]; exact hj
      have hr := run_append_grow (P := P) w t ty e i z ht hi hz ⟨g, o, none⟩ zs.length cap (nums zs) (by rw [nums_len, hsize, Nat.mul_one]) holds a 1 1 [Value.int .i64 (x : Int)] hnl hnews (by omega) (by omega) (by rw [hby]; exact growslice_fits (by omega) (by omega))
      exact ⟨_, _, hr, hNW cap (by omega), ⟨rfl, rfl, rfl, by simp, fun k hk _ => Below.heap_alloc w.drew _ k hk⟩, .inr rfl⟩
end
end Go.Proofs.Ytmceaocknlnmpaa.Map32
namespace Go.Proofs.Ytmceaocknlnmpaa
open Go.ChangeShapes Go.WideShapes Go.ChangeAt Go.RowKit
set_option linter.unusedVariables false
/-- A slice reads as these bytes. -/
def Bs (w : World) (A : Option Addr) (n : Nat) (xs : List Nat) : Prop :=
  xs.length = n ∧ (∀ j, xs.getD j 0 < 256) ∧ (0 < n → ∃ b o, A = some ⟨b, o, none⟩ ∧ b < w.heap.size ∧ ∀ j, j < n → w.cell? ⟨b, o + j, none⟩ = some (.int .u8 (xs.getD j 0 : Nat)))
def c8 (ys : List Nat) : List Value := ys.map fun (y : Nat) => Value.int .u8 (y : Int)
theorem c8_len (ys : List Nat) : (c8 ys).length = ys.length := by simp [c8]
theorem c8_app (xs ys : List Nat) : c8 (xs ++ ys) = c8 xs ++ c8 ys := by simp [c8]
theorem c8_one (ys : List Nat) : ∀ u ∈ c8 ys, u.oneCell' = true := fun u hu => by
  obtain ⟨_, _, rfl⟩ := List.mem_map.1 hu; rfl
theorem c8_get {ys : List Nat} {j : Nat} {u : Value} (h : (c8 ys)[j]? = some u) : j < ys.length ∧ u = .int .u8 (ys.getD j 0 : Nat) := by
  unfold c8 at h
  rw [List.getElem?_map, Option.map_eq_some_iff] at h
  obtain ⟨y, hy, rfl⟩ := h
  have hj := (List.getElem?_eq_some_iff.1 hy).1
  exact ⟨hj, by rw [List.getD_eq_getElem?_getD, hy]; rfl⟩
theorem c8_at {ys : List Nat} {j : Nat} (h : j < ys.length) : (c8 ys)[j]? = some (.int .u8 (ys.getD j 0 : Nat)) := by
  unfold c8
  rw [List.getElem?_map, List.getElem?_eq_getElem h, List.getD_eq_getElem?_getD, List.getElem?_eq_getElem h]; rfl
theorem small_app {xs ys : List Nat} (hx : ∀ j, xs.getD j 0 < 256) (hy : ∀ j, ys.getD j 0 < 256) : ∀ j, (xs ++ ys).getD j 0 < 256 := fun j => by
  rw [List.getD_eq_getElem?_getD, List.getElem?_append]
  split
  · rw [← List.getD_eq_getElem?_getD]; exact hx j
  · rw [← List.getD_eq_getElem?_getD]; exact hy _
theorem small_mem {xs : List Nat} (h : ∀ c ∈ xs, c < 256) : ∀ j, xs.getD j 0 < 256 := fun j => by
  rw [List.getD_eq_getElem?_getD]
  by_cases hj : j < xs.length
  · rw [List.getElem?_eq_getElem hj]; exact h _ (List.getElem_mem hj)
  · rw [List.getElem?_eq_none (by omega)]; simp
theorem mem_small {xs : List Nat} (h : ∀ j, xs.getD j 0 < 256) : ∀ c ∈ xs, c < 256 := fun c hc => by
  obtain ⟨j, hj, rfl⟩ := List.getElem_of_mem hc
  have := h j
  rwa [List.getD_eq_getElem?_getD, List.getElem?_eq_getElem hj] at this
section
variable {w w' : World} {A : Option Addr} {n : Nat} {xs : List Nat}
theorem Bs.ext (h : Bs w A n xs) (hb : Ext w w') : Bs w' A n xs :=
  ⟨h.1, h.2.1, fun hn => by
    obtain ⟨b, o, e, hl, hc⟩ := h.2.2 hn
    exact ⟨b, o, e, Nat.lt_of_lt_of_le hl hb.size, fun j hj => (hb.cell (p := ⟨b, o + j, none⟩) hl).trans (hc j hj)⟩⟩
theorem Bs.kept (h : Bs w A n xs) {row : Option Nat} (hg : w.grownBy w' row) (hne : ∀ a, A = some a → some a.block ≠ row) : Bs w' A n xs :=
  ⟨h.1, h.2.1, fun hn => by
    obtain ⟨b, o, e, hl, hc⟩ := h.2.2 hn
    exact ⟨b, o, e, Nat.lt_of_lt_of_le hl hg.size, fun j hj => hg.cell (hc j hj) (by have := hne _ e; exact this)⟩⟩
theorem Bs.none (w : World) (A : Option Addr) : Bs w A 0 [] := ⟨rfl, fun j => by simp, fun h => absurd h (by omega)⟩
theorem Bs.take (h : Bs w A n xs) {m : Nat} (hm : m ≤ n) : Bs w A m (xs.take m) := by
  have g : ∀ j, j < m → (xs.take m).getD j 0 = xs.getD j 0 := fun j hj => by simp [List.getD_eq_getElem?_getD, hj]
  refine ⟨by rw [List.length_take, h.1]; omega, fun j => ?_, fun hn => ?_⟩
  · by_cases hj : j < m
    · rw [g j hj]; exact h.2.1 j
    · rw [List.getD_eq_getElem?_getD, List.getElem?_eq_none (by rw [List.length_take]; omega)]; simp
  · obtain ⟨b, o, e, hl, hc⟩ := h.2.2 (by omega)
    exact ⟨b, o, e, hl, fun j hj => by rw [hc j (by omega), g j hj]⟩
/-- A row of the call's own, read. -/
theorem Bs.own {base : Nat} {e : TypeId} {c : Nat} (h : w.ownsRow base e 1 (.slice A n c) n (c8 xs)) (hx : ∀ j, xs.getD j 0 < 256) : Bs w A n xs := by
  have hl : xs.length = n := by have := h.1; rwa [c8_len, Nat.mul_one] at this
  refine ⟨hl, hx, fun hn => ?_⟩
  rcases h.2 with ⟨_, rfl⟩ | ⟨g, cap, cur, h1, _⟩
  · omega
  · obtain ⟨rfl, _, rfl⟩ := Value.slice.inj h1
    refine ⟨g, 0, rfl, (h.lt g rfl).2, fun j hj => ?_⟩
    have := h.cellAt j (by omega)
    rw [Nat.zero_add, this, c8_at (by omega)]
/-- What a slice yields to an append. -/
theorem Bs.src {P : Program} {tx e' : TypeId} (h : Bs w A n xs) (hk : P.underlying tx = some (.slice e')) (c : Nat) : Src P 1 tx (.slice A n c) n (c8 xs) w := by
  rcases Nat.eq_zero_or_pos n with rfl | hp
  · have : xs = [] := List.eq_nil_of_length_eq_zero h.1
    subst this
    rcases A with _ | a
    · exact Src.ofNil w hk c
    · exact Src.ofSlice w hk a 0 c [] (by simp) (fun j u hu => by simp at hu) (fun u hu => by cases hu)
  · obtain ⟨b, o, rfl, _, hc⟩ := h.2.2 hp
    refine Src.ofSlice w hk _ n c (c8 xs) (by rw [c8_len, h.1, Nat.mul_one]) (fun j u hu => ?_) (c8_one xs)
    obtain ⟨hj, rfl⟩ := c8_get hu
    have hadd : (⟨b, o, Option.none⟩ : Addr).add j = ⟨b, o + j, Option.none⟩ := by unfold Addr.add; split <;> simp_all
    rw [hadd]
    exact hc j (by rw [h.1] at hj; exact hj)
theorem Bs.first {P : Program} (h : Bs w A n xs) (c : Nat) : (Builtin.firstCells 1 n (.slice A n c)).run P w.drew = .ok (c8 xs).toArray w.drew := by
  rcases Nat.eq_zero_or_pos n with rfl | hp
  · have : xs = [] := List.eq_nil_of_length_eq_zero h.1
    subst this
    rcases A with _ | a
    · exact run_firstCells_none w.drew 1 0 0 c
    · exact run_firstCells_some w.drew 1 0 _ _ _ [] (by simp) (fun j u hu => by simp at hu)
  · obtain ⟨b, o, rfl, _, hc⟩ := h.2.2 hp
    refine run_firstCells_some w.drew 1 n _ _ _ _ (by rw [c8_len, h.1, Nat.mul_one]) (fun j u hu => ?_)
    obtain ⟨hj, rfl⟩ := c8_get hu
    have hadd : (⟨b, o, Option.none⟩ : Addr).add j = ⟨b, o + j, Option.none⟩ := by unfold Addr.add; split <;> simp_all
    rw [hadd]
    have := hc j (by rw [h.1] at hj; exact hj)
    simpa using this
/-- Bytes as a text. -/
def strOf (xs : List Nat) : ByteArray := ⟨(xs.map UInt8.ofNat).toArray⟩
theorem strOf_nums (xs : List Nat) : strOfNums (xs.map fun (x : Nat) => (x : Int)) = strOf xs := by
  unfold strOfNums strOf
  rw [List.map_map]; rfl
theorem strOf_nil : strOf [] = ByteArray.empty := rfl
theorem strOf_app (xs ys : List Nat) : strOf (xs ++ ys) = strOf xs ++ strOf ys := by
  apply ByteArray.ext
  rw [ByteArray.data_append]
  simp [strOf]
theorem strOf_size (xs : List Nat) : (strOf xs).size = xs.length := by simp [strOf, ByteArray.size]
theorem str_ne {a b : ByteArray} (h : a ≠ b) : ¬ a.toList = b.toList := fun e => h (by
  rw [ByteArray.toList_eq, ByteArray.toList_eq] at e
  exact ByteArray.ext (Array.ext' e))
theorem strOf_inj {xs ys : List Nat} (hx : ∀ j, xs.getD j 0 < 256) (hy : ∀ j, ys.getD j 0 < 256) (h : strOf xs = strOf ys) : xs = ys := by
  have h1 : xs.map UInt8.ofNat = ys.map UInt8.ofNat := by
    have := congrArg (fun s => s.data.toList) h
    simpa [strOf] using this
  have h2 := congrArg (List.map UInt8.toNat) h1
  have key : ∀ zs : List Nat, (∀ j, zs.getD j 0 < 256) → (zs.map UInt8.ofNat).map UInt8.toNat = zs := fun zs hz => by
    rw [List.map_map]
    conv => rhs; rw [← List.map_id zs]
    refine List.map_congr_left fun c hc => ?_
    have := mem_small hz c hc
    show (UInt8.ofNat c).toNat = c
    rw [UInt8.toNat_ofNat', Nat.mod_eq_of_lt this]
  rwa [key xs hx, key ys hy] at h2
theorem Bs.conv {P : Program} (h : Bs w A n xs) (src e dst : TypeId) (hs : P.underlying src = some (.slice e)) (he : P.underlying e = some (.int .u8)) (hd : P.underlying dst = some .string) (c : Nat) :
    (convert src dst (.slice A n c)).run P w = .ok (.string (strOf xs)) w := by
  rcases Nat.eq_zero_or_pos n with rfl | hp
  · have : xs = [] := List.eq_nil_of_length_eq_zero h.1
    subst this
    rcases A with _ | a
    · exact run_convert_bytes_nil w src e hs he 0 c dst hd
    · have := run_convert_bytes_back w src dst e a c [] hs he hd (fun j hj => absurd hj (by simp))
      exact this
  · obtain ⟨b, o, rfl, _, hc⟩ := h.2.2 hp
    have := run_convert_bytes_arg (P := P) w src e hs he b o n c (xs.map fun (x : Nat) => (x : Int)) (by rw [List.length_map]; exact h.1) (fun i hi => by
      have hl := h.1
      rw [hc i hi, List.getD_eq_getElem?_getD, List.getD_eq_getElem?_getD, List.getElem?_map, List.getElem?_eq_getElem (by omega)]; rfl) dst hd
    rwa [strOf_nums] at this
/-- A text's bytes. -/
def natsOf (s : ByteArray) : List Nat := s.data.toList.map UInt8.toNat
theorem natsOf_small (s : ByteArray) : ∀ j, (natsOf s).getD j 0 < 256 := small_mem fun c hc => by
  obtain ⟨b, _, rfl⟩ := List.mem_map.1 hc
  exact b.toNat_lt
theorem natsOf_len (s : ByteArray) : (natsOf s).length = s.size := by
  unfold natsOf
  rw [List.length_map, Array.length_toList]; rfl
theorem byteCells_eq (s : ByteArray) : byteCells s = c8 (natsOf s) := by
  unfold byteCells c8 natsOf
  rw [List.map_map]; rfl
theorem strOf_nats (s : ByteArray) : strOf (natsOf s) = s := by
  apply ByteArray.ext
  unfold strOf natsOf
  rw [List.map_map]
  have : (UInt8.ofNat ∘ UInt8.toNat) = id := by funext b; simp
  rw [this, List.map_id]
theorem nats_strOf {xs : List Nat} (hx : ∀ j, xs.getD j 0 < 256) : natsOf (strOf xs) = xs :=
  strOf_inj (natsOf_small _) hx (strOf_nats _)
end
/-- A slice of bytes that came in. -/
def IsRow (w : World) (a : Option Addr) (len cap : Nat) (zs : List Int) : Prop :=
  (a = none ∧ len = 0 ∧ cap = 0 ∧ zs = []) ∨
  ∃ x, a = some x ∧ len ≤ cap ∧ cap ≤ maxLen ∧ zs.length = cap ∧ (∀ i, i < zs.length → w.cell? (x.add i) = some (.int .u8 (zs.getD i 0))) ∧ ∀ n ∈ zs, (Lit.int .u8 n).wf = true
theorem bs_of_row {w : World} {a : Option Addr} {len cap : Nat} {zs : List Int} (h : IsRow w a len cap zs) : ∃ xs, Bs w a len xs := by
  rcases h with ⟨rfl, rfl, rfl, rfl⟩ | ⟨x, rfl, hl, hm, hz, hcell, hwz⟩
  · exact ⟨[], Bs.none w none⟩
  · have bd : ∀ j, 0 ≤ zs.getD j 0 ∧ zs.getD j 0 ≤ 255 := fun j => by
      rw [List.getD_eq_getElem?_getD]
      by_cases hj : j < zs.length
      · rw [List.getElem?_eq_getElem hj]
        have := bounds_u8 (hwz _ (List.getElem_mem hj))
        simp only [Option.getD_some]; omega
      · rw [List.getElem?_eq_none (by omega)]; simp
    have gd : ∀ j, j < len → ((zs.take len).map Int.toNat).getD j 0 = (zs.getD j 0).toNat := fun j hj => by
      simp [List.getD_eq_getElem?_getD, hj, List.getElem?_eq_getElem (show j < zs.length by omega)]
    refine ⟨(zs.take len).map Int.toNat, by simp; omega, fun j => ?_, fun hn => ?_⟩
    · by_cases hj : j < len
      · rw [gd j hj]; have := bd j; omega
      · rw [List.getD_eq_getElem?_getD, List.getElem?_eq_none (by simp; omega)]; simp
    · obtain ⟨b, o, spot⟩ := x
      have hspot : spot = none := by
        have := hcell 0 (by omega)
        simpa [Addr.add] using World.cell?_spot this
      subst hspot
      have hadd : ∀ j, (⟨b, o, none⟩ : Addr).add j = ⟨b, o + j, none⟩ := fun j => by unfold Addr.add; split <;> simp_all
      have c0 := hcell 0 (by omega)
      rw [hadd] at c0
      refine ⟨b, o, rfl, World.block_lt_of_cell? w _ c0, fun j hj => ?_⟩
      have := hcell j (by omega)
      rw [hadd] at this
      rw [this, gd j hj, Int.toNat_of_nonneg (bd j).1]
theorem IsRow.nil {w : World} {a : Option Addr} {len cap : Nat} {zs : List Int} (h : IsRow w a len cap zs) : a = none → len = 0 ∧ cap = 0 := fun e => by
  rcases h with ⟨_, h1, h2, _⟩ | ⟨x, hx, _⟩
  · exact ⟨h1, h2⟩
  · rw [e] at hx; cases hx
theorem IsRow.bounds {w : World} {a : Option Addr} {len cap : Nat} {zs : List Int} (h : IsRow w a len cap zs) : len ≤ cap ∧ cap ≤ 9223372036854775807 := by
  rcases h with ⟨_, rfl, rfl, _⟩ | ⟨_, _, hl, hm, _⟩
  · omega
  · unfold maxLen at hm; omega
end Go.Proofs.Ytmceaocknlnmpaa
