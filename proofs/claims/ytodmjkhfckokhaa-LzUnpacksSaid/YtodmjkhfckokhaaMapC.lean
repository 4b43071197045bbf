/- A map of rows of numbers: what one store does; the laws at the operations. -/
import Derived.Test.YtodmjkhfckokhaaMapB
namespace Go.Proofs.Ytodmjkhfckokhaa.Map32
open Go.ChangeShapes Go.WideShapes Go.ChangeAt Go.RowKit
set_option linter.unusedVariables false

/-- A map of rows, each in a block of its own: M says which values, F which numbers. -/
structure Groups (w : World) (base e b : Nat) (M : Nat → Option Value) (F : Nat → List Nat) : Prop where
  map : MapR w b M
  row : ∀ k, (M k = none ∧ F k = []) ∨ ∃ v, M k = some v ∧ F k ≠ [] ∧ Sl w base e v (F k)
  apart : ∀ k k' v v', k ≠ k' → M k = some v → M k' = some v' → v.ownBlock ≠ v'.ownBlock
  at_ : base ≤ b
section
variable {P : Program} {w w1 w2 : World} {base e b : Nat} {M : Nat → Option Value} {F : Nat → List Nat}
theorem ne_sl {v : Value} {zs : List Nat} (h : MapR w b M) (hs : Sl w base e v zs) : v.ownBlock ≠ some b := by
  obtain ⟨es, cl, L, hb, _⟩ := h
  obtain ⟨g, o, cap, cur, rfl, _, hh, _⟩ := hs
  intro he
  obtain rfl := Option.some.inj he
  rw [hh] at hb
  cases hb
theorem Groups.new (w : World) (base e : Nat) (hb : base ≤ w.heap.size) : Groups (w.alloc (.map #[] 0)) base e w.heap.size (fun _ => none) (fun _ => []) :=
  ⟨MapR.new w, fun k => .inl ⟨rfl, rfl⟩, (fun k k' v v' _ h => by cases h), hb⟩
theorem Groups.look (h : Groups w base e b M F) (k : Nat) : ((M k).getD (.slice none 0 0) = .slice none 0 0 ∧ F k = []) ∨ (M k = some ((M k).getD (.slice none 0 0)) ∧ F k ≠ [] ∧ Sl w base e ((M k).getD (.slice none 0 0)) (F k)) := by
  rcases h.row k with ⟨h1, h2⟩ | ⟨v, h1, h2, h3⟩
  · exact .inl ⟨by rw [h1]; rfl, h2⟩
  · exact .inr ⟨by rw [h1]; rfl, h2, by rw [h1]; exact h3⟩
/-- What turns no block of theirs. -/
theorem Groups.kept {row : Option Nat} (h : Groups w base e b M F) (hg : w.grownBy w1 row) (hb : some b ≠ row) (hr : ∀ k v, M k = some v → v.ownBlock ≠ row) : Groups w1 base e b M F :=
  ⟨h.map.kept hg hb, fun k => by
    rcases h.row k with h1 | ⟨v, h1, h2, h3⟩
    · exact .inl h1
    · exact .inr ⟨v, h1, h2, h3.kept hg (hr k v h1)⟩, h.apart, h.at_⟩
theorem Groups.ext (h : Groups w base e b M F) (hg : Ext w w1) : Groups w1 base e b M F := by
  obtain ⟨es, cl, L, hb, hE, hF⟩ := h.map
  exact ⟨⟨es, cl, L, (hg.block b (Array.getElem?_eq_some_iff.1 hb).1).trans hb, hE, hF⟩, fun k => by
    rcases h.row k with h1 | ⟨v, h1, h2, h3⟩
    · exact .inl h1
    · exact .inr ⟨v, h1, h2, h3.ext hg⟩, h.apart, h.at_⟩
theorem Groups.put (h : Groups w base e b M F) (k : Nat) {v' : Value} {zs' : List Nat} (hz : zs' ≠ []) (hg : w.grownBy w1 ((M k).getD (.slice none 0 0)).ownBlock) (hs : Sl w1 base e v' zs')
    (hb : v'.ownBlock = ((M k).getD (.slice none 0 0)).ownBlock ∨ ∃ g, v'.ownBlock = some g ∧ w.heap.size ≤ g) (hm : MapR w2 b (fun x => if x = k then some v' else M x)) (hg2 : w1.grownBy w2 (some b)) :
    Groups w2 base e b (fun x => if x = k then some v' else M x) (fun x => if x = k then zs' else F x) := by
  have hmap1 : MapR w1 b M := h.map.kept hg (by
    rcases h.look k with ⟨h1, _⟩ | ⟨_, _, h3⟩
    · rw [h1]; intro e; cases e
    · exact (ne_sl h.map h3).symm)
  have hfar : ∀ x v, x ≠ k → M x = some v → v.ownBlock ≠ ((M k).getD (.slice none 0 0)).ownBlock := by
    intro x v hx hv
    rcases h.row x with ⟨e1, _⟩ | ⟨v2, e1, _, hsl⟩
    · rw [hv] at e1; cases e1
    · rw [hv] at e1; obtain rfl := Option.some.inj e1
      rcases h.row k with ⟨h1, _⟩ | ⟨u, h1, _, _⟩
      · rw [h1]; obtain ⟨g, hgb, _⟩ := hsl.block; rw [hgb]; intro e; cases e
      · rw [h1]; exact h.apart x k v u hx hv h1
  refine ⟨hm, fun x => ?_, fun x x' v v2 hne hv hv2 => ?_, h.at_⟩
  · by_cases hx : x = k
    · simp only [if_pos hx]
      exact .inr ⟨v', rfl, hz, hs.kept hg2 (ne_sl hmap1 hs)⟩
    · simp only [if_neg hx]
      rcases h.row x with h1 | ⟨v, h1, h2, h3⟩
      · exact .inl h1
      · have h4 := h3.kept hg (hfar x v hx h1)
        exact .inr ⟨v, h1, h2, h4.kept hg2 (ne_sl hmap1 h4)⟩
  · have key : ∀ x v, x ≠ k → M x = some v → v.ownBlock ≠ v'.ownBlock := by
      intro x v hx hv e
      rcases hb with hb | ⟨g, hb, hgs⟩
      · exact hfar x v hx hv (e.trans hb)
      · rcases h.row x with ⟨e1, _⟩ | ⟨v2, e1, _, hsl⟩
        · rw [hv] at e1; cases e1
        · rw [hv] at e1; obtain rfl := Option.some.inj e1
          obtain ⟨g', hgb, _, hlt⟩ := hsl.block
          rw [hgb, hb] at e
          have := Option.some.inj e
          omega
    by_cases hx : x = k
    · by_cases hx' : x' = k
      · exact absurd (hx.trans hx'.symm) hne
      · simp only [if_pos hx] at hv
        simp only [if_neg hx'] at hv2
        obtain rfl := Option.some.inj hv
        exact (key x' v2 hx' hv2).symm
    · simp only [if_neg hx] at hv
      by_cases hx' : x' = k
      · simp only [if_pos hx'] at hv2
        obtain rfl := Option.some.inj hv2
        exact key x v hx hv
      · simp only [if_neg hx'] at hv2
        exact h.apart x x' v v2 hne hv hv2
theorem Groups.del (h : Groups w base e b M F) (k : Nat) (hm : MapR w2 b (fun x => if x = k then none else M x)) (hg2 : w.grownBy w2 (some b)) :
    Groups w2 base e b (fun x => if x = k then none else M x) (fun x => if x = k then [] else F x) := by
  refine ⟨hm, fun x => ?_, fun x x' v v2 hne hv hv2 => ?_, h.at_⟩
  · by_cases hx : x = k
    · exact .inl ⟨if_pos hx, if_pos hx⟩
    · simp only [if_neg hx]
      rcases h.row x with h1 | ⟨v, h1, h2, h3⟩
      · exact .inl h1
      · exact .inr ⟨v, h1, h2, h3.kept hg2 (ne_sl h.map h3)⟩
  · by_cases hx : x = k
    · simp only [if_pos hx] at hv; cases hv
    · simp only [if_neg hx] at hv
      by_cases hx' : x' = k
      · simp only [if_pos hx'] at hv2; cases hv2
      · simp only [if_neg hx'] at hv2
        exact h.apart x x' v v2 hne hv hv2
/-- The same map, by other words. -/
theorem Groups.same {M' : Nat → Option Value} {F' : Nat → List Nat} (h : Groups w base e b M F) (hM : ∀ k, M' k = M k) (hF : ∀ k, F' k = F k) : Groups w base e b M' F' := by
  obtain rfl : M' = M := funext hM
  obtain rfl : F' = F := funext hF
  exact h
variable {t kt et : TypeId} {ops : Array Oper} {rest : List Oper} {o : Oper} {a : Act} {Q : Exit → Act → World → Prop}
theorem wpList_look (hg : o.guard = none) (m x : Operand) (hop : o.op = Op.lookup t m x false) (ht : P.underlying t = some (.map kt et)) (hk : P.underlying kt = some (.int .u32)) {z : Value} (hz : (zeroValue et).run P w = .ok z w)
    (hm : a.eval m = .map (some b)) (h : MapR w b M) (k : Nat) (hx : a.eval x = .int .u32 (k : Int)) (hK : wpList P ops Q rest (a.put o.dst ((M k).getD z)) w) : wpList P ops Q (o :: rest) a w := by
  refine wpList_plain hg fun K' hK' => ?_
  have hrun := run_look (P := P) h ht hk hz k
  unfold Oper.wp
  simp [execOp, hop, hm, hx, hrun, Result.andThen]
  exact hK' _ _ hK
theorem wpList_put (hg : o.guard = none) (m x v : Operand) (hop : o.op = Op.mapUpdate t m x v) (ht : P.underlying t = some (.map kt et)) (hk : P.underlying kt = some (.int .u32))
    (hm : a.eval m = .map (some b)) (h : MapR w b M) (k : Nat) (val : Value) (hx : a.eval x = .int .u32 (k : Int)) (hv : a.eval v = val)
    (hK : ∀ w', MapR w' b (fun x => if x = k then some val else M x) → w.grownBy w' (some b) → wpList P ops Q rest (a.put o.dst undef) w') : wpList P ops Q (o :: rest) a w := by
  refine wpList_plain hg fun K' hK' => ?_
  obtain ⟨w', hrun, r1, r2⟩ := run_put (P := P) h ht hk k val
  unfold Oper.wp
  simp [execOp, hop, hm, hx, hv, hrun, Result.andThen]
  exact hK' _ _ (hK w' r1 r2)
theorem wpList_del (hg : o.guard = none) (m x : Operand) (tk : TypeId) (hop : o.op = .call { callee := .builtin .delete, args := #[m, x], argTypes := #[t, tk] }) (ht : P.underlying t = some (.map kt et)) (hk : P.underlying kt = some (.int .u32))
    (hm : a.eval m = .map (some b)) (h : MapR w b M) (k : Nat) (hx : a.eval x = .int .u32 (k : Int))
    (hK : ∀ w', MapR w' b (fun x => if x = k then none else M x) → w.grownBy w' (some b) → wpList P ops Q rest (a.put o.dst (.tuple #[])) w') : wpList P ops Q (o :: rest) a w := by
  refine wpList_plain hg fun K' hK' => ?_
  obtain ⟨w', hrun, r1, r2⟩ := run_del (P := P) h ht hk k #[t, tk] rfl o.type
  unfold Oper.wp execOp
  simp only [hop, resolve, invoke, builtin, Sem.run_bind, Sem.run_pure, Result.andThen_ok, List.map_toArray, List.map_cons, List.map_nil, hm, hx, hrun]
  exact hK' _ _ (hK w' r1 r2)
/-- A number is appended to such a row. -/
theorem wpList_more (hgd : o.guard = none) (s x : Operand) (t : TypeId) (ho : o.op = .call { callee := .builtin .append, args := #[s, x], argTypes := #[t, t] }) (i : TypeInfo) (z : Value) (ht : P.underlying t = some (.slice e)) (hi : P.info? e = some i) (hz : i.zero = some z) (hsize : i.size = 1) (hby : i.bytes = 8) (hzs : z.cells.size = 1)
    (v : Value) (zs : List Nat) (h : (v = .slice none 0 0 ∧ zs = []) ∨ Sl w base e v zs) (ad : Addr) (y : Nat) (hs : a.eval s = v) (hx : a.eval x = .slice (some ad) 1 1) (hy : w.cell? ad = some (.int .i64 (y : Int))) (hl : zs.length ≤ 1000) (hbase : base ≤ w.heap.size)
    (hK : ∀ v' w', Sl w' base e v' (zs ++ [y]) → w.grownBy w' v.ownBlock → (v'.ownBlock = v.ownBlock ∨ v'.ownBlock = some w.heap.size) → wpList P ops Q rest (a.put o.dst v') w') : wpList P ops Q (o :: rest) a w := by
  obtain ⟨v', w', h1, h2, h3, h4⟩ := run_more (P := P) t o.type i z ht hi hz hsize hby hzs h ad y hy hl hbase
  exact wpList_of_append hgd s x t t ho v _ hs hx h1 (hK v' w' h2 h3 h4)
end
end Go.Proofs.Ytodmjkhfckokhaa.Map32
