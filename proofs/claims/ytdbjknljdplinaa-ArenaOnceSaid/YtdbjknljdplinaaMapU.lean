/- A map from numbers of 16 bits. -/
import Derived.Test.YtdbjknljdplinaaBlk
import Derived.Maps.Keyed
import Derived.Maps.Own
import Derived.Maps.OwnOps
import Derived.BigFrame
import Derived.OrdersHeld
namespace Go.Proofs.Ytdbjknljdplinaa.Map16
open Go.ChangeShapes Go.WideShapes Go.ChangeAt Go.RowKit
set_option linter.unusedVariables false

def Ents (l : List MapEntry) (L : List (Nat × Value)) : Prop := l.map (fun e => (e.key, e.val)) = L.map (fun p => (Value.int .u16 (p.1 : Int), p.2)) ∧ (L.map (·.1)).Nodup
/-- Block b is a map; F says what stands at each number. -/
def MapR (w : World) (b : Nat) (F : Nat → Option Value) : Prop := ∃ es cl L, w.heap[b]? = some (.map es cl) ∧ Ents es.toList L ∧ ∀ k, F k = L.lookup k
theorem find16 (k : Nat) : ∀ (l : List MapEntry) (L : List (Nat × Value)) (i : Nat), l.map (fun e => (e.key, e.val)) = L.map (fun p => (Value.int .u16 (p.1 : Int), p.2)) →
    (Instr.findNow (.int .u16) (.int .u16 (k : Int)) l i = some none ∧ L.lookup k = none ∧ k ∉ L.map (·.1)) ∨
    ∃ q v, Instr.findNow (.int .u16) (.int .u16 (k : Int)) l i = some (some (i + q, v)) ∧ L[q]? = some (k, v) ∧ L.lookup k = some v
  | [], [], i, _ => .inl ⟨rfl, rfl, by simp⟩
  | [], _ :: _, _, h => by simp at h
  | _ :: _, [], _, h => by simp at h
  | e :: l, (k', v') :: L, i, h => by
    simp only [List.map_cons, List.cons.injEq, Prod.mk.injEq] at h
    obtain ⟨⟨h1, h2⟩, h3⟩ := h
    by_cases hk : k = k'
    · subst hk
      refine .inr ⟨0, v', ?_, rfl, ?_⟩
      · simp [Instr.findNow, h1, h2, Instr.sameNow]
      · simp [List.lookup]
    · have hne : ((k : Int) == (k' : Int)) = false := beq_eq_false_iff_ne.2 (by omega)
      have hne' : (k == k') = false := beq_eq_false_iff_ne.2 hk
      rcases find16 k l L (i + 1) h3 with ⟨a, b, c⟩ | ⟨q, v, a, b, c⟩
      · refine .inl ⟨?_, ?_, ?_⟩
        · rw [Instr.findNow, h1]; simp only [Instr.sameNow, if_true, hne, a]
        · simp only [List.lookup, hne', b]
        · simp only [List.map_cons, List.mem_cons, not_or]; exact ⟨hk, c⟩
      · refine .inr ⟨q + 1, v, ?_, ?_, ?_⟩
        · rw [Instr.findNow, h1]; simp only [Instr.sameNow, if_true, hne, a]; rw [show i + 1 + q = i + (q + 1) from by omega]
        · rw [List.getElem?_cons_succ, b]
        · simp only [List.lookup, hne', c]
theorem lookup_none {L : List (Nat × Value)} {k : Nat} (h : k ∉ L.map (·.1)) : L.lookup k = none := by
  induction L with
  | nil => rfl
  | cons p L ih =>
    obtain ⟨k', v'⟩ := p
    simp only [List.map_cons, List.mem_cons, not_or] at h
    simp only [List.lookup, beq_eq_false_iff_ne.2 h.1, ih h.2]
theorem lookup_app {L : List (Nat × Value)} {k : Nat} {v : Value} (h : k ∉ L.map (·.1)) (x : Nat) : (L ++ [(k, v)]).lookup x = if x = k then some v else L.lookup x := by
  induction L with
  | nil => by_cases hx : x = k
           · simp [hx]
           · simp [List.lookup, hx, beq_eq_false_iff_ne.2 hx]
  | cons p L ih =>
    obtain ⟨k', v'⟩ := p
    simp only [List.map_cons, List.mem_cons, not_or] at h
    by_cases hx : x = k'
    · subst hx
      simp [List.lookup, Ne.symm h.1]
    · simp only [List.cons_append, List.lookup, beq_eq_false_iff_ne.2 hx, ih h.2]
theorem lookup_set : ∀ {L : List (Nat × Value)} {k q : Nat} {u v : Value} (h : (L.map (·.1)).Nodup) (hq : L[q]? = some (k, u)) (x : Nat), (L.set q (k, v)).lookup x = if x = k then some v else L.lookup x
  | [], k, q, u, v, h, hq, x => by simp at hq
  | (k', v') :: L, k, 0, u, v, h, hq, x => by
    simp only [List.getElem?_cons_zero, Option.some.injEq, Prod.mk.injEq] at hq
    obtain ⟨rfl, rfl⟩ := hq
    by_cases hx : x = k'
    · simp [hx]
    · simp [List.lookup, hx, beq_eq_false_iff_ne.2 hx]
  | (k', v') :: L, k, q + 1, u, v, h, hq, x => by
    simp only [List.map_cons, List.nodup_cons] at h
    rw [List.getElem?_cons_succ] at hq
    have hne : k' ≠ k := fun e => h.1 (e ▸ List.mem_map_of_mem (f := (·.1)) (List.mem_of_getElem? hq))
    rw [List.set_cons_succ]
    by_cases hx : x = k'
    · subst hx
      simp [List.lookup, hne]
    · simp only [List.lookup, beq_eq_false_iff_ne.2 hx, lookup_set h.2 hq x]
theorem lookup_erase : ∀ {L : List (Nat × Value)} {k q : Nat} {u : Value} (h : (L.map (·.1)).Nodup) (hq : L[q]? = some (k, u)) (x : Nat), (L.eraseIdx q).lookup x = if x = k then none else L.lookup x
  | [], k, q, u, h, hq, x => by simp at hq
  | (k', v') :: L, k, 0, u, h, hq, x => by
    simp only [List.getElem?_cons_zero, Option.some.injEq, Prod.mk.injEq] at hq
    obtain ⟨rfl, rfl⟩ := hq
    simp only [List.map_cons, List.nodup_cons] at h
    by_cases hx : x = k'
    · subst hx
      rw [if_pos rfl]; exact lookup_none h.1
    · simp [List.lookup, hx, beq_eq_false_iff_ne.2 hx]
  | (k', v') :: L, k, q + 1, u, h, hq, x => by
    simp only [List.map_cons, List.nodup_cons] at h
    rw [List.getElem?_cons_succ] at hq
    have hne : k' ≠ k := fun e => h.1 (e ▸ List.mem_map_of_mem (f := (·.1)) (List.mem_of_getElem? hq))
    rw [List.eraseIdx_cons_succ]
    by_cases hx : x = k'
    · subst hx
      simp [List.lookup, hne]
    · simp only [List.lookup, beq_eq_false_iff_ne.2 hx, lookup_erase h.2 hq x]
theorem nodup_set {L : List (Nat × Value)} {k q : Nat} {u v : Value} (h : (L.map (·.1)).Nodup) (hq : L[q]? = some (k, u)) : ((L.set q (k, v)).map (·.1)).Nodup := by
  have e : (L.set q (k, v)).map (·.1) = L.map (·.1) := by
    apply List.ext_getElem?
    intro j
    rw [List.getElem?_map, List.getElem?_map, List.getElem?_set]
    by_cases hj : q = j
    · subst hj
      rw [if_pos rfl, hq]
      have : q < L.length := (List.getElem?_eq_some_iff.1 hq).1
      simp [this]
    · rw [if_neg hj]
  rw [e]; exact h
/-- The world with another block. -/
def mset (w : World) (b : Nat) (o : Obj) : World := { w with heap := w.heap.setIfInBounds b o }
theorem mset_same {w : World} {b : Nat} {o o' : Obj} (h : w.heap[b]? = some o') : (mset w b o).heap[b]? = some o := by
  have : b < w.heap.size := (Array.getElem?_eq_some_iff.1 h).1
  simp [mset, this]
theorem mset_grown (w : World) (b : Nat) (o : Obj) : w.grownBy (mset w b o) (some b) :=
  ⟨rfl, rfl, rfl, by simp [mset], fun i _ hi => by
    simp only [mset, Array.getElem?_setIfInBounds]
    rw [if_neg (fun e => hi (by rw [e]))]⟩
section
variable {P : Program} {w : World} {b : Nat} {F : Nat → Option Value} {t kt e : TypeId}
theorem MapR.new (w : World) : MapR (w.alloc (.map #[] 0)) w.heap.size (fun _ => none) := ⟨#[], 0, [], heap_alloc_new w _, ⟨rfl, List.nodup_nil⟩, fun k => rfl⟩
theorem MapR.kept {w' : World} {row : Option Nat} (h : MapR w b F) (hg : w.grownBy w' row) (hne : some b ≠ row) : MapR w' b F := by
  obtain ⟨es, cl, L, hb, hE, hF⟩ := h
  exact ⟨es, cl, L, (hg.block b (Array.getElem?_eq_some_iff.1 hb).1 hne).trans hb, hE, hF⟩
theorem MapR.lt (h : MapR w b F) : b < w.heap.size := by
  obtain ⟨es, cl, L, hb, hE, hF⟩ := h
  exact (Array.getElem?_eq_some_iff.1 hb).1
theorem run_look (h : MapR w b F) (ht : P.underlying t = some (.map kt e)) (hk : P.underlying kt = some (.int .u16)) {z : Value} (hz : (zeroValue e).run P w = .ok z w) (k : Nat) :
    (Instr.lookup t (.map (some b)) (.int .u16 (k : Int)) false).run P w = .ok ((F k).getD z) w := by
  obtain ⟨es, cl, L, hb, ⟨hm, hn⟩, hF⟩ := h
  have hc := MapKept.run_checkKey (w := w) hk (k := .int .u16 (k : Int)) (by simp [MapKept.IsKey]) es.isEmpty 9999
  rcases find16 k es.toList L 0 hm with ⟨h1, h2, h3⟩ | ⟨q, v, h1, h2, h3⟩
  · simp [Instr.lookup, run_underlying ht, MapKept.run_getObj_map hb, hc, Instr.findKey, run_underlying hk, h1, hz, Result.andThen, hF, h2]
  · simp [Instr.lookup, run_underlying ht, MapKept.run_getObj_map hb, hc, Instr.findKey, run_underlying hk, h1, Result.andThen, hF, h3]
theorem run_put (h : MapR w b F) (ht : P.underlying t = some (.map kt e)) (hk : P.underlying kt = some (.int .u16)) (k : Nat) (v : Value) :
    ∃ w', (Instr.mapUpdate t (.map (some b)) (.int .u16 (k : Int)) v).run P w = .ok () w' ∧ MapR w' b (fun x => if x = k then some v else F x) ∧ w.grownBy w' (some b) := by
  obtain ⟨es, cl, L, hb, ⟨hm, hn⟩, hF⟩ := h
  have hc := MapKept.run_checkKey (w := w) hk (k := .int .u16 (k : Int)) (by simp [MapKept.IsKey]) false 9999
  rcases find16 k es.toList L 0 hm with ⟨h1, h2, h3⟩ | ⟨q, u, h1, h2, h3⟩
  · refine ⟨mset w b (.map (es.push ⟨.int .u16 (k : Int), v, cl⟩) (cl + 1)), ?_, ⟨_, _, L ++ [(k, v)], mset_same hb, ⟨?_, ?_⟩, ?_⟩, mset_grown w b _⟩
    · simp [Instr.mapUpdate, run_underlying ht, MapKept.run_getObj_map hb, hc, Instr.findKey, run_underlying hk, h1, Result.andThen, MapKept.run_setObj_map _ hb, mset]
    · simp [hm]
    · rw [List.map_append, List.nodup_append]; refine ⟨hn, by simp, ?_⟩
      intro a ha c hc e
      simp only [List.map_cons, List.map_nil, List.mem_cons, List.not_mem_nil, or_false] at hc
      exact h3 (by rw [← hc, ← e]; exact ha)
    · intro x; rw [lookup_app h3, ← hF]
  · have hq := (List.getElem?_eq_some_iff.1 h2).1
    have hq' : q < es.size := by
      have := congrArg List.length hm
      simp only [List.length_map, Array.length_toList] at this
      omega
    have hkq : es[q].key = .int .u16 (k : Int) := by
      have := congrArg (fun l => l[q]?) hm
      simp only [List.getElem?_map, h2, Option.map_some] at this
      rw [List.getElem?_eq_getElem (by simpa using hq')] at this
      simp only [Option.map_some, Option.some.injEq, Prod.mk.injEq] at this
      simpa using this.1
    refine ⟨mset w b (.map (es.modify q fun e => { e with key := .int .u16 (k : Int), val := v }) cl), ?_, ⟨_, _, L.set q (k, v), mset_same hb, ⟨?_, nodup_set hn h2⟩, ?_⟩, mset_grown w b _⟩
    · simp [Instr.mapUpdate, run_underlying ht, MapKept.run_getObj_map hb, hc, Instr.findKey, run_underlying hk, h1, Result.andThen, MapKept.run_setObj_map _ hb, mset, hq', hkq, Instr.keyThatStays, Instr.sameBits]
    · apply List.ext_getElem?
      intro j
      rw [List.getElem?_map, List.getElem?_map, List.getElem?_set, Array.getElem?_toList, Array.getElem?_modify]
      have hj' := congrArg (fun l => l[j]?) hm
      simp only [List.getElem?_map, Array.getElem?_toList] at hj'
      by_cases hj : q = j
      · subst hj
        rw [if_pos rfl, if_pos rfl, if_pos hq]
        simp [hq']
      · rw [if_neg hj, if_neg hj]; exact hj'
    · intro x; rw [lookup_set hn h2, ← hF]
theorem run_del (h : MapR w b F) (ht : P.underlying t = some (.map kt e)) (hk : P.underlying kt = some (.int .u16)) (k : Nat) (ats : Array TypeId) (ha : ats[0]? = some t) (ty : TypeId) :
    ∃ w', (Builtin.delete_ ats ty #[.map (some b), .int .u16 (k : Int)]).run P w = .ok (.tuple #[]) w' ∧ MapR w' b (fun x => if x = k then none else F x) ∧ w.grownBy w' (some b) := by
  obtain ⟨es, cl, L, hb, ⟨hm, hn⟩, hF⟩ := h
  have hc := MapKept.run_checkKey (w := w) hk (k := .int .u16 (k : Int)) (by simp [MapKept.IsKey]) es.isEmpty 9999
  rcases find16 k es.toList L 0 hm with ⟨h1, h2, h3⟩ | ⟨q, u, h1, h2, h3⟩
  · refine ⟨mset w b (.map es cl), ?_, ⟨_, _, L, mset_same hb, ⟨hm, hn⟩, ?_⟩, mset_grown w b _⟩
    · simp [Builtin.delete_, ha, run_underlying ht, MapKept.run_getObj_map hb, hc, Instr.findKey, run_underlying hk, h1, Result.andThen, MapKept.run_setObj_map _ hb, mset]
    · intro x
      by_cases hx : x = k
      · simp only [if_pos hx]; rw [hx, h2]
      · simp only [if_neg hx]; exact hF x
  · refine ⟨mset w b (.map (es.eraseIdxIfInBounds q) cl), ?_, ⟨_, _, L.eraseIdx q, mset_same hb, ⟨?_, ?_⟩, ?_⟩, mset_grown w b _⟩
    · simp [Builtin.delete_, ha, run_underlying ht, MapKept.run_getObj_map hb, hc, Instr.findKey, run_underlying hk, h1, Result.andThen, MapKept.run_setObj_map _ hb, mset]
    · rw [show (es.eraseIdxIfInBounds q).toList = es.toList.eraseIdx q from by simp [Array.eraseIdxIfInBounds]; split <;> simp_all [List.eraseIdx_of_length_le]]
      rw [ChangeMaps.map_eraseIdx, ChangeMaps.map_eraseIdx, hm]
    · exact hn.sublist ((List.eraseIdx_sublist L q).map _)
    · intro x; rw [lookup_erase hn h2, ← hF]
theorem MapR.ext {w' : World} (h : MapR w b F) (hg : Ext w w') : MapR w' b F := by
  obtain ⟨es, cl, L, hb, r⟩ := h
  exact ⟨es, cl, L, (hg.block b (Array.getElem?_eq_some_iff.1 hb).1).trans hb, r⟩
theorem MapR.blk {w' : World} (h : MapR w b F) (hg : w'.heap[b]? = w.heap[b]?) : MapR w' b F := by
  obtain ⟨es, cl, L, hb, r⟩ := h
  exact ⟨es, cl, L, hg.trans hb, r⟩
theorem run_look2 (h : MapR w b F) (ht : P.underlying t = some (.map kt e)) (hk : P.underlying kt = some (.int .u16)) {z : Value} (hz : (zeroValue e).run P w = .ok z w) (k : Nat) :
    (Instr.lookup t (.map (some b)) (.int .u16 (k : Int)) true).run P w = .ok (.tuple #[(F k).getD z, .bool (F k).isSome]) w := by
  obtain ⟨es, cl, L, hb, ⟨hm, hn⟩, hF⟩ := h
  have hc := MapKept.run_checkKey (w := w) hk (k := .int .u16 (k : Int)) (by simp [MapKept.IsKey]) es.isEmpty 9999
  rcases find16 k es.toList L 0 hm with ⟨h1, h2, h3⟩ | ⟨q, v, h1, h2, h3⟩
  · simp [Instr.lookup, run_underlying ht, MapKept.run_getObj_map hb, hc, Instr.findKey, run_underlying hk, h1, hz, Result.andThen, hF, h2]
  · simp [Instr.lookup, run_underlying ht, MapKept.run_getObj_map hb, hc, Instr.findKey, run_underlying hk, h1, Result.andThen, hF, h3]
/-- How many there are. -/
theorem size_eq {es : Array MapEntry} {L : List (Nat × Value)} {I : List Nat} (hm : es.toList.map (fun e => (e.key, e.val)) = L.map (fun p => (Value.int .u16 (p.1 : Int), p.2))) (hn : (L.map (·.1)).Nodup) (hF : ∀ k, F k = L.lookup k) (hI : I.Nodup) (hIF : ∀ k, k ∈ I ↔ F k ≠ none) : es.size = I.length := by
  have h1 : es.size = (L.map (·.1)).length := by
    have := congrArg List.length hm
    simpa using this
  rw [h1]
  have hp : (L.map (·.1)).Perm I := (List.perm_ext_iff_of_nodup hn hI).2 (fun k => by
    rw [hIF, hF]
    constructor
    · intro hk hc
      obtain ⟨p, hp, rfl⟩ := List.mem_map.1 hk
      have := List.lookup_eq_none_iff.1 hc p hp
      simp at this
    · intro hc
      by_cases hk : k ∈ L.map (·.1)
      · exact hk
      · exact absurd (lookup_none hk) hc)
  exact hp.length_eq
theorem run_len (h : MapR w b F) (ht : P.underlying t = some (.map kt e)) (ty : TypeId) {I : List Nat} (hI : I.Nodup) (hIF : ∀ k, k ∈ I ↔ F k ≠ none) :
    (Builtin.len_ #[t] ty #[.map (some b)]).run P w = .ok (.int .i64 (I.length : Int)) w := by
  obtain ⟨es, cl, L, hb, ⟨hm, hn⟩, hF⟩ := h
  have := size_eq hm hn hF hI hIF
  simp [Builtin.len_, run_underlying ht, MapKept.run_getObj_map hb, goInt, this]
variable {et : TypeId} {ops : Array Oper} {rest : List Oper} {o : Oper} {a : Act} {Q : Exit → Act → World → Prop}
theorem wpList_look (hw : Region.wanted o (yielded ops a.tmps) = true) (m x : Operand) (hop : o.op = Op.lookup t m x false) (ht : P.underlying t = some (.map kt et)) (hk : P.underlying kt = some (.int .u16)) {z : Value} (hz : (zeroValue et).run P w = .ok z w)
    (hm : a.eval m = .map (some b)) (h : MapR w b F) (k : Nat) (hx : a.eval x = .int .u16 (k : Int)) (v : Value) (hv : (F k).getD z = v) (hK : wpList P ops Q rest (a.put o.dst v) w) : wpList P ops Q (o :: rest) a w := by
  refine BigFrame.wpList_want hw fun K' hK' => ?_
  have hrun := run_look (P := P) h ht hk hz k
  rw [hv] at hrun
  unfold Oper.wp
  simp [execOp, hop, hm, hx, hrun, Result.andThen]
  exact hK' _ _ hK
theorem wpList_look2 (hg : o.guard = none) (m x : Operand) (hop : o.op = Op.lookup t m x true) (ht : P.underlying t = some (.map kt et)) (hk : P.underlying kt = some (.int .u16)) {z : Value} (hz : (zeroValue et).run P w = .ok z w)
    (hm : a.eval m = .map (some b)) (h : MapR w b F) (k : Nat) (hx : a.eval x = .int .u16 (k : Int)) (v : Value) (c : Bool) (hv : (F k).getD z = v) (hc : (F k).isSome = c) (hK : wpList P ops Q rest (a.put o.dst (.tuple #[v, .bool c])) w) : wpList P ops Q (o :: rest) a w := by
  refine wpList_plain hg fun K' hK' => ?_
  have hrun := run_look2 (P := P) h ht hk hz k
  rw [hv, hc] at hrun
  unfold Oper.wp
  simp [execOp, hop, hm, hx, hrun, Result.andThen]
  exact hK' _ _ hK
theorem wpList_len (hw : Region.wanted o (yielded ops a.tmps) = true) (m : Operand) (hop : o.op = .call { callee := .builtin .len, args := #[m], argTypes := #[t] }) (ht : P.underlying t = some (.map kt et))
    (hm : a.eval m = .map (some b)) (h : MapR w b F) (I : List Nat) (hI : I.Nodup) (hIF : ∀ k, k ∈ I ↔ F k ≠ none) (n : Nat) (hn : I.length = n) (hK : wpList P ops Q rest (a.put o.dst (.int .i64 (n : Int))) w) : wpList P ops Q (o :: rest) a w := by
  refine BigFrame.wpList_want hw fun K' hK' => ?_
  have hrun := run_len (P := P) h ht o.type hI hIF
  rw [hn] at hrun
  unfold Oper.wp execOp
  simp only [hop, resolve, invoke, builtin, Sem.run_bind, Sem.run_pure, Result.andThen_ok, List.map_toArray, List.map_cons, List.map_nil, hm, hrun]
  exact hK' _ _ hK
theorem wpList_put (hg : o.guard = none) (m x v : Operand) (hop : o.op = Op.mapUpdate t m x v) (ht : P.underlying t = some (.map kt et)) (hk : P.underlying kt = some (.int .u16))
    (hm : a.eval m = .map (some b)) (h : MapR w b F) (k : Nat) (val : Value) (hx : a.eval x = .int .u16 (k : Int)) (hv : a.eval v = val)
    (hK : ∀ w', MapR w' b (fun x => if x = k then some val else F x) → w.grownBy w' (some b) → wpList P ops Q rest (a.put o.dst undef) w') : wpList P ops Q (o :: rest) a w := by
  refine wpList_plain hg fun K' hK' => ?_
  obtain ⟨w', hrun, r1, r2⟩ := run_put (P := P) h ht hk k val
  unfold Oper.wp
  simp [execOp, hop, hm, hx, hv, hrun, Result.andThen]
  exact hK' _ _ (hK w' r1 r2)
theorem wpList_del (hg : o.guard = none) (m x : Operand) (tk : TypeId) (hop : o.op = .call { callee := .builtin .delete, args := #[m, x], argTypes := #[t, tk] }) (ht : P.underlying t = some (.map kt et)) (hk : P.underlying kt = some (.int .u16))
    (hm : a.eval m = .map (some b)) (h : MapR w b F) (k : Nat) (hx : a.eval x = .int .u16 (k : Int))
    (hK : ∀ w', MapR w' b (fun x => if x = k then none else F x) → w.grownBy w' (some b) → wpList P ops Q rest (a.put o.dst (.tuple #[])) w') : wpList P ops Q (o :: rest) a w := by
  refine wpList_plain hg fun K' hK' => ?_
  obtain ⟨w', hrun, r1, r2⟩ := run_del (P := P) h ht hk k #[t, tk] rfl o.type
  unfold Oper.wp execOp
  simp only [hop, resolve, invoke, builtin, Sem.run_bind, Sem.run_pure, Result.andThen_ok, List.map_toArray, List.map_cons, List.map_nil, hm, hx, hrun]
  exact hK' _ _ (hK w' r1 r2)
end
end Go.Proofs.Ytdbjknljdplinaa.Map16
