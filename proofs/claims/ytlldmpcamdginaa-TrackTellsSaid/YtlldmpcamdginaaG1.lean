/- Small laws that all texts of this seat use: worlds that have only grown, the row's last step. -/
import Derived.WalkKit
import Derived.ProofKit
import Derived.OpenShut
import Derived.Outline
import Derived.Lib.Hide
import Derived.Below
import Derived.ChangeSame
import Derived.Deep.Draws
import Derived.BigQuiet
import Derived.Deep.QuietTactic
import Derived.Laws.OwnMore
import Derived.Laws.Rows
import Derived.OwnWalk
import Derived.Deep.AppendSrc
import Derived.Deep.Onto
import Derived.Laws.Tables
import Derived.Laws.BytesArg
import Derived.Test.YtlldmpcamdginaaRows
import Derived.LoopTactic
import Derived.IntWalk
namespace Go.Proofs.Ytlldmpcamdginaa
open Go.ChangeShapes Go.WideShapes Go.ChangeAt Go.RowKit
/-- What was there is as it was. -/
abbrev Ext (w w' : World) : Prop := Below w.heap.size w w'
theorem Ext.rfl' (w : World) : Ext w w := Below.refl _ _
theorem ext_trans {a b c : World} (h : Ext a b) (k : Ext b c) : Ext a c := h.trans (k.mono h.size)
theorem ext_alloc {a w : World} (h : Ext a w) (o : Obj) : Ext a (w.alloc o) := h.alloc h.size o
theorem ext_drew {a w : World} (h : Ext a w) : Ext a w.drew := h.drew
theorem ext_drewN {a w : World} (h : Ext a w) (n : Nat) : Ext a (w.drewN n) := ⟨h.os, h.tape, h.output, h.size, h.block⟩
theorem ext_set {a w : World} (h : Ext a w) {p : Addr} (hp : a.heap.size ≤ p.block) (u : Value) : Ext a (w.setCell p u) := h.setCell hp u
theorem ecell {W w1 : World} (hb : Ext W w1) : (∀ b o, b < W.heap.size → w1.cell? ⟨b, o, none⟩ = W.cell? ⟨b, o, none⟩) ∧ (∀ b o, b < W.heap.size → w1.frozen? ⟨b, o, none⟩ = W.frozen? ⟨b, o, none⟩) :=
  ⟨fun b o h => hb.cell (p := ⟨b, o, none⟩) h, fun b o h => hb.frozen (p := ⟨b, o, none⟩) h⟩
theorem int_eq {k : IntKind} {a b : Int} (h : a = b) : Value.int k a = .int k b := by rw [h]
theorem ret_int {k : IntKind} {a b : Int} (h : a = b) : Ending.returned (.int k a) = .returned (.int k b) := by rw [h]
section
variable {H : Type} {enc : TypeId × Value → H} {P : Program}
theorem post_of_ext {f : Func} {s : ChangeSpec} {apart fresh handsOn again : Bool} {W W' : World} {args : Array Value} {v : Value} {ds gs : List (DataW H)} {before pa pv : List MemPlace}
    (hW : DataW.Whole enc P f.params.toList s.vars apart W args.toList ds gs before)
    (hres : ∀ (b : Nat) (sp : Nat → Bool) (hd : Bool), DataW.TrodAll enc P W' b sp hd f.resultTypes.toList (v.resultList f.resultTypes.size) (s.fn H (ds ++ gs)).results [])
    (hargs : ∀ sp : Nat → Bool, (∀ p ∈ before, sp p.block = true) → DataW.TrodAll enc P W' 0 sp true f.params.toList args.toList (s.fn H (ds ++ gs)).args pa)
    (hvars : ∀ sp : Nat → Bool, (∀ p ∈ before, sp p.block = true) → DataW.TrodVars enc P W' sp s.vars (s.fn H (ds ++ gs)).vars pv)
    (hps : before = pa ++ pv) (hb : Ext W W')
    (hok : ∀ (j : Nat) (t : TypeId) (r : Value), f.resultTypes[j]? = some t → (v.resultList f.resultTypes.size)[j]? = some r → Value.okWide P W' .any 0 t r) :
    s.post enc P f apart fresh handsOn again W args v W' := by
  have hlt : ∀ p ∈ before, p.block < W.heap.size := fun p hp => hW.lt p hp
  have hold : ∀ p ∈ before, (fun b => decide (b < W.heap.size)) p.block = true := fun p hp => by simpa using hlt p hp
  refine ⟨ds, gs, before, [], pa, pv, hW, hres _ _ _, hargs _ hold, hvars _ hold, World.keptBut_mono (fun p hp => ⟨hp, ?_⟩) (hb.frame (· ∈ before)), fun _ => ?_⟩
  · rw [hps, List.mem_append] at hp
    exact Or.inr hp
  · obtain ⟨_, _, _, _, _, hz, hn⟩ := hW
    refine ⟨hok, _, _, ([] ++ pa) ++ pv, ⟨[] ++ pa, pv, trodAll_append (hargs _ (fun _ _ => rfl)) (hres _ _ _), hvars _ (fun _ _ => rfl), rfl, ?_, ?_⟩, ?_⟩
    · intro b off hp
      have hin : MemPlace.cell b off ∈ before := by rw [hps]; simpa using hp
      rw [hb.frozen (hlt _ hin)]
      exact hz b off hin
    · intro ha
      have := hn ha
      rw [hps] at this
      simpa using this
    · intro p hp _
      rw [hps]
      simpa using hp
end
end Go.Proofs.Ytlldmpcamdginaa
namespace Go.Proofs.Ytlldmpcamdginaa
open Go.ChangeShapes Go.WideShapes Go.ChangeAt Go.RowKit
theorem kc {a b : World} {B o : Nat} {v : Value} (hb : Ext a b) (h : a.cell? ⟨B, o, none⟩ = some v) : b.cell? ⟨B, o, none⟩ = some v :=
  (hb.cell (p := ⟨B, o, none⟩) (World.block_lt_of_cell? a _ h)).trans h
/-- Block g is just these cells, none of them frozen. -/
def Blk (w : World) (g : Nat) (t : TypeId) (cs : Array Value) : Prop := w.heap[g]? = some (.cells cs t (0, 0))
section
variable {w w' : World} {g : Nat} {t : TypeId} {cs : Array Value}
theorem Blk.lt (h : Blk w g t cs) : g < w.heap.size := by
  rcases Nat.lt_or_ge g w.heap.size with hl | hl
  · exact hl
  · unfold Blk at h; rw [Array.getElem?_eq_none hl] at h; cases h
theorem Blk.cell (h : Blk w g t cs) (i : Nat) : w.cell? ⟨g, i, none⟩ = cs[i]? := cell_of_row w g i cs t (0, 0) h
theorem Blk.frozen (h : Blk w g t cs) (i : Nat) : w.frozen? ⟨g, i, none⟩ = false := by
  unfold Blk at h
  simp [World.frozen?, h]
theorem Blk.new (w : World) (t : TypeId) (cs : Array Value) : Blk (w.alloc (.cells cs t)) w.heap.size t cs := heap_alloc_new w _
theorem Blk.new1 (w : World) (o : Obj) (t : TypeId) (cs : Array Value) : Blk ((w.alloc o).alloc (.cells cs t)) (w.heap.size + 1) t cs := by
  have := Blk.new (w.alloc o) t cs
  rwa [World.size_alloc] at this
theorem Blk.newD (w : World) (t : TypeId) (cs : Array Value) : Blk (w.drew.alloc (.cells cs t)) w.heap.size t cs := Blk.new w.drew t cs
theorem Blk.new1D (w : World) (o : Obj) (t : TypeId) (cs : Array Value) : Blk ((w.drew.alloc o).alloc (.cells cs t)) (w.heap.size + 1) t cs := Blk.new1 w.drew o t cs
theorem Blk.newS (w : World) (p q : Addr) (a b : Value) (t : TypeId) (cs : Array Value) : Blk (((w.setCell p a).setCell q b).alloc (.cells cs t)) w.heap.size t cs := by
  have h := Blk.new ((w.setCell p a).setCell q b) t cs
  have e : ((w.setCell p a).setCell q b).heap.size = w.heap.size := by simp [World.setCell]
  rwa [e] at h
theorem Blk.drew (h : Blk w g t cs) : Blk w.drew g t cs := h
theorem Blk.drewN (h : Blk w g t cs) (n : Nat) : Blk (w.drewN n) g t cs := h
theorem Blk.alloc (h : Blk w g t cs) (o : Obj) : Blk (w.alloc o) g t cs := (Below.heap_alloc w o g h.lt).trans h
theorem Blk.set_ (h : Blk w g t cs) (i : Nat) (u : Value) : Blk (w.setCell ⟨g, i, none⟩ u) g t (cs.setIfInBounds i u) := by
  unfold Blk at h ⊢
  simp [World.setCell, Array.getElem?_modify, h]
theorem Blk.far (h : Blk w g t cs) {p : Addr} (hp : g ≠ p.block) (u : Value) : Blk (w.setCell p u) g t cs := (Below.heap_setCell w p u g hp).trans h
theorem Blk.ext (h : Blk w g t cs) (hb : Ext w w') : Blk w' g t cs := (hb.block g h.lt).trans h
theorem Blk.two {a b : Value} (h : Blk w g t #[a, b]) : w.cell? ⟨g, 0, none⟩ = some a ∧ w.cell? ⟨g, 1, none⟩ = some b ∧ w.frozen? ⟨g, 0, none⟩ = false ∧ w.frozen? ⟨g, 1, none⟩ = false :=
  ⟨h.cell 0, h.cell 1, h.frozen 0, h.frozen 1⟩
theorem Blk.put2 {a b c d : Value} (h : Blk w g t #[a, b]) : Blk ((w.setCell ⟨g, 0, none⟩ c).setCell ⟨g, 1, none⟩ d) g t #[c, d] := (h.set_ 0 c).set_ 1 d
theorem Blk.far2 {g' : Nat} {c d : Value} (h : Blk w g t cs) (hne : g ≠ g') : Blk ((w.setCell ⟨g', 0, none⟩ c).setCell ⟨g', 1, none⟩ d) g t cs := (h.far hne c).far hne d
theorem size_put2 (w : World) (p q : Addr) (c d : Value) : ((w.setCell p c).setCell q d).heap.size = w.heap.size := by simp [World.setCell]
theorem ext_put2 {a w : World} {g : Nat} (h : Ext a w) (hg : a.heap.size ≤ g) (c d : Value) : Ext a ((w.setCell ⟨g, 0, none⟩ c).setCell ⟨g, 1, none⟩ d) := ext_set (ext_set h hg c) hg d
end
end Go.Proofs.Ytlldmpcamdginaa
namespace Go.Proofs.Ytlldmpcamdginaa
open Go.ChangeShapes Go.WideShapes Go.ChangeAt Go.RowKit
section
variable {P : Program} {w W : World}
theorem ext_grown {a b c : World} (h : Ext a b) {row : Option Nat} (hg : b.grownBy c row) (hr : ∀ k, row = some k → a.heap.size ≤ k) : Ext a c :=
  ⟨hg.os.trans h.os, hg.tape.trans h.tape, hg.output.trans h.output, Nat.le_trans h.size hg.size, fun k hk =>
    (hg.block k (Nat.lt_of_lt_of_le hk h.size) (fun e => by have := hr k e.symm; omega)).trans (h.block k hk)⟩
theorem own_ge {base : Nat} {e : TypeId} {size n : Nat} {v : Value} {xs : List Value} (h : w.ownsRow base e size v n xs) : ∀ k, v.ownBlock = some k → base ≤ k := fun k hk => (h.lt k hk).1
theorem own_shape {base : Nat} {e : TypeId} {size n : Nat} {v : Value} {xs : List Value} (h : w.ownsRow base e size v n xs) : ∃ A c, v = .slice A n c ∧ n ≤ c ∧ c ≤ maxLen ∧ (0 < n → ∃ g, A = some ⟨g, 0, none⟩ ∧ base ≤ g) := by
  rcases h.2 with ⟨rfl, rfl⟩ | ⟨g, cap, cur, rfl, hb, _, hnc, hcm, _⟩
  · exact ⟨none, 0, rfl, Nat.le_refl _, by unfold maxLen; omega, fun h => absurd h (by omega)⟩
  · exact ⟨_, cap, rfl, hnc, hcm, fun _ => ⟨g, rfl, hb⟩⟩
theorem run_firstCells_own {base : Nat} {e : TypeId} {size n : Nat} {A : Option Addr} {c : Nat} {xs : List Value} (h : w.ownsRow base e size (.slice A n c) n xs) : (Builtin.firstCells size n (.slice A n c)).run P w.drew = .ok xs.toArray w.drew := by
  rcases h.2 with ⟨h1, rfl⟩ | ⟨g, cap, cur, h1, _⟩
  · obtain ⟨rfl, _, rfl⟩ := Value.slice.inj h1
    have : xs = [] := List.eq_nil_of_length_eq_zero (by simpa using h.1)
    subst this
    exact run_firstCells_none w.drew size 0 0 0
  · obtain ⟨rfl, _, rfl⟩ := Value.slice.inj h1
    have hc := h.cells (g := g) rfl
    exact run_firstCells_some w.drew size n _ _ _ xs h.1 (by simpa using hc)
/-- The new row. -/
theorem own_new (base : Nat) (e : TypeId) (z : Value) (size : Nat) (hzs : z.cells.size = size) (xs news : List Value) (n m old : Nat) (hx : xs.length = n * size) (hl : news.length = m * size) (h63 : n + m ≤ maxLen) (hbase : base ≤ w.heap.size) :
    (w.drew.alloc (.cells ((xs ++ news).toArray ++ Builtin.zeroCells z.cells (grownCap w (n + m) old e - (n + m))) e)).ownsRow base e size
      (.slice (some ⟨w.heap.size, 0, none⟩) (n + m) (grownCap w (n + m) old e)) (n + m) (xs ++ news) := by
  have hge := grownCap_ge w (n + m) old e
  have hcm : grownCap w (n + m) old e ≤ maxLen := grownCap_le_maxLen w (n + m) old e h63
  have hlen : (xs ++ news).length = (n + m) * size := by rw [List.length_append, hx, hl, Nat.add_mul]
  refine ⟨hlen, .inr ⟨w.heap.size, _, _, rfl, hbase, heap_alloc_new w.drew _, hge, hcm, ?_, ?_⟩⟩
  · rw [Array.size_append, List.size_toArray, hlen, size_zeroCells, hzs, ← Nat.add_mul]
    congr 1; omega
  · rw [Array.toList_append, ← hlen]
    exact List.take_left
/-- What is appended grows: whatever the first one is. -/
theorem run_app_grow (t tx ty e : TypeId) (i : TypeInfo) (z : Value) (size bytes : Nat) (ht : P.underlying t = some (.slice e)) (hi : P.info? e = some i) (hz : i.zero = some z) (hsize : i.size = size) (hby : i.bytes = bytes) (hzs : z.cells.size = size)
    (A : Option Addr) (n c : Nat) (xs : List Value) (hx : xs.length = n * size) (hold : (Builtin.firstCells size n (.slice A n c)).run P w.drew = .ok xs.toArray w.drew)
    (x : Value) (m : Nat) (news : List Value) (hs : Src P size tx x m news w) (hg : c < n + m) (h63 : n + m ≤ maxLen) (hb : (n + m) * bytes ≤ 140737488355328) (base : Nat) (hbase : base ≤ w.heap.size) :
    ∃ v' w', (Builtin.append_ #[t, tx] ty #[.slice A n c, x]).run P w = .ok v' w' ∧ w'.ownsRow base e size v' (n + m) (xs ++ news) ∧ w'.ownsRow w.heap.size e size v' (n + m) (xs ++ news) ∧ ∀ row, w.grownBy w' row := by
  subst hsize hby
  have h63' : ((n + m : Nat) : Int) ≤ 9223372036854775807 := by simp only [maxLen] at h63; omega
  exact ⟨_, _, run_append_grow_src w t tx ty e i z ht hi hz A n c xs hold x m news hs hg h63' (growslice_fits hg hb),
    own_new base e z _ hzs xs news n m c hx hs.newsLen h63 hbase, own_new w.heap.size e z _ hzs xs news n m c hx hs.newsLen h63 (Nat.le_refl _),
    fun _ => ⟨rfl, rfl, rfl, by simp, fun k hk _ => Below.heap_alloc w.drew _ k hk⟩⟩
theorem run_app_own (t tx ty e : TypeId) (i : TypeInfo) (z : Value) (size bytes : Nat) (ht : P.underlying t = some (.slice e)) (hi : P.info? e = some i) (hz : i.zero = some z) (hsize : i.size = size) (hby : i.bytes = bytes) (hzs : z.cells.size = size)
    (base : Nat) (v : Value) (n : Nat) (xs : List Value) (hown : w.ownsRow base e size v n xs)
    (x : Value) (m : Nat) (news : List Value) (hs : Src P size tx x m news w) (h63 : n + m ≤ maxLen) (hb : (n + m) * bytes ≤ 140737488355328) (hbase : base ≤ w.heap.size) :
    ∃ v' w', (Builtin.append_ #[t, tx] ty #[v, x]).run P w = .ok v' w' ∧ w'.ownsRow base e size v' (n + m) (xs ++ news) ∧ w.grownBy w' v.ownBlock := by
  rcases hown.2 with ⟨rfl, rfl⟩ | ⟨g, cap, cur, rfl, hbg, hgg, hnc, hcm, hcs, htake⟩
  · by_cases hm : m = 0
    · subst hm
      have hn : news = [] := List.eq_nil_of_length_eq_zero (by simpa using hs.newsLen)
      have hx : xs = [] := List.eq_nil_of_length_eq_zero (by simpa using hown.1)
      subst hn hx
      refine ⟨.slice none 0 0, w, ?_, World.ownsRow_nil w base e size, ⟨rfl, rfl, rfl, Nat.le_refl _, fun _ _ _ => rfl⟩⟩
      subst hsize
      rcases hs.kind with ⟨e', hk⟩ | hk <;> simp [Builtin.append_, run_underlying ht, run_underlying hk, sizeOf, typeInfo, hi, hs.len, hs.cells]
    · obtain ⟨v', w', h1, h2, _, h4⟩ := run_app_grow t tx ty e i z size bytes ht hi hz hsize hby hzs none 0 0 xs hown.1 (run_firstCells_own hown) x m news hs (by omega) h63 hb base hbase
      exact ⟨v', w', h1, h2, h4 _⟩
  · by_cases hroom : n + m ≤ cap
    · subst hsize
      have hfit : n * i.size + news.length ≤ cur.size := by rw [hs.newsLen, hcs, ← Nat.add_mul]; exact Nat.mul_le_mul_right _ hroom
      have hlen : (xs ++ news).length = (n + m) * i.size := by rw [List.length_append, hown.1, hs.newsLen, Nat.add_mul]
      have hst := run_storeCells_at P g (n * i.size) e news 0 cur w hgg (by simpa using hfit) hs.one
      simp only [Nat.add_zero] at hst
      have hr : (Builtin.append_ #[t, tx] ty #[.slice (some ⟨g, 0, none⟩) n cap, x]).run P w =
          .ok (.slice (some ⟨g, 0, none⟩) (n + m) cap) (w.setRow g (cur.toList.take (n * i.size) ++ news ++ cur.toList.drop (n * i.size + news.length)).toArray) := by
        rcases hs.kind with ⟨e', hk⟩ | hk <;> simp [Builtin.append_, run_underlying ht, run_underlying hk, sizeOf, typeInfo, hi, hs.len, hroom, hs.cells, Addr.add_lit, hst]
      refine ⟨_, _, hr, ⟨hlen, .inr ⟨g, cap, _, rfl, hbg, setRow_heap w g cur _ e _ hgg, hroom, hcm, ?_, ?_⟩⟩, ⟨rfl, rfl, rfl, by simp, fun k _ hk => setRow_other w g k _ (fun e => hk (by simp [Value.ownBlock, e]))⟩⟩
      · simp only [List.size_toArray, List.length_append, List.length_take, List.length_drop, Array.length_toList]
        omega
      · rw [htake, ← hlen]
        exact List.take_left
    · obtain ⟨v', w', h1, h2, _, h4⟩ := run_app_grow t tx ty e i z size bytes ht hi hz hsize hby hzs _ n cap xs hown.1 (run_firstCells_own hown) x m news hs (by omega) h63 hb base hbase
      exact ⟨v', w', h1, h2, h4 _⟩
theorem wpList_of_append {ops : Array Oper} {rest : List Oper} {o : Oper} {a : Act} {Q : Exit → Act → World → Prop} (hgd : o.guard = none) (s x : Operand) (t tx : TypeId)
    (ho : o.op = .call { callee := .builtin .append, args := #[s, x], argTypes := #[t, tx] }) (vs vx : Value) (hs : a.eval s = vs) (hx : a.eval x = vx) {v' : Value} {w' : World}
    (hr : (Builtin.append_ #[t, tx] o.type #[vs, vx]).run P w = .ok v' w') (h : wpList P ops Q rest (a.put o.dst v') w') : wpList P ops Q (o :: rest) a w :=
  wpList_plain hgd fun K hK => by
    unfold Oper.wp execOp
    simp only [ho, resolve, invoke, builtin, Sem.run_bind, Sem.run_pure, Result.andThen_ok, List.map_toArray, List.map_cons, List.map_nil, hs, hx, hr]
    exact hK _ _ h
/-- Something is appended to a row of the call's own. -/
theorem wpList_app_own {ops : Array Oper} {rest : List Oper} {o : Oper} {a : Act} {Q : Exit → Act → World → Prop} (hgd : o.guard = none) (s x : Operand) (t tx : TypeId)
    (ho : o.op = .call { callee := .builtin .append, args := #[s, x], argTypes := #[t, tx] }) (e : TypeId) (i : TypeInfo) (z : Value) (size bytes : Nat) (ht : P.underlying t = some (.slice e)) (hi : P.info? e = some i) (hz : i.zero = some z) (hsize : i.size = size) (hby : i.bytes = bytes) (hzs : z.cells.size = size)
    (base : Nat) (v vx : Value) (n : Nat) (xs : List Value) (hs : a.eval s = v) (hx : a.eval x = vx) (hown : w.ownsRow base e size v n xs) (m : Nat) (news : List Value) (hsrc : Src P size tx vx m news w) (h63 : n + m ≤ maxLen) (hb : (n + m) * bytes ≤ 140737488355328) (hbase : base ≤ w.heap.size)
    (h : ∀ v' w', w'.ownsRow base e size v' (n + m) (xs ++ news) → w.grownBy w' v.ownBlock → wpList P ops Q rest (a.put o.dst v') w') : wpList P ops Q (o :: rest) a w := by
  obtain ⟨v', w', h1, h2, h3⟩ := run_app_own (P := P) t tx o.type e i z size bytes ht hi hz hsize hby hzs base v n xs hown vx m news hsrc h63 hb hbase
  exact wpList_of_append hgd s x t tx ho v vx hs hx h1 (h v' w' h2 h3)
/-- Something is appended that there is no room for. -/
theorem wpList_app_grow {ops : Array Oper} {rest : List Oper} {o : Oper} {a : Act} {Q : Exit → Act → World → Prop} (hgd : o.guard = none) (s x : Operand) (t tx : TypeId)
    (ho : o.op = .call { callee := .builtin .append, args := #[s, x], argTypes := #[t, tx] }) (e : TypeId) (i : TypeInfo) (z : Value) (size bytes : Nat) (ht : P.underlying t = some (.slice e)) (hi : P.info? e = some i) (hz : i.zero = some z) (hsize : i.size = size) (hby : i.bytes = bytes) (hzs : z.cells.size = size)
    (base : Nat) (A : Option Addr) (n c : Nat) (vx : Value) (xs : List Value) (hs : a.eval s = .slice A n c) (hx : a.eval x = vx) (hxl : xs.length = n * size) (hold : (Builtin.firstCells size n (.slice A n c)).run P w.drew = .ok xs.toArray w.drew)
    (m : Nat) (news : List Value) (hsrc : Src P size tx vx m news w) (hg : c < n + m) (h63 : n + m ≤ maxLen) (hb : (n + m) * bytes ≤ 140737488355328) (hbase : base ≤ w.heap.size)
    (h : ∀ v' w', w'.ownsRow base e size v' (n + m) (xs ++ news) → Ext w w' → wpList P ops Q rest (a.put o.dst v') w') : wpList P ops Q (o :: rest) a w := by
  obtain ⟨v', w', h1, h2, _, h4⟩ := run_app_grow (P := P) t tx o.type e i z size bytes ht hi hz hsize hby hzs A n c xs hxl hold vx m news hsrc hg h63 hb base hbase
  exact wpList_of_append hgd s x t tx ho _ vx hs hx h1 (h v' w' h2 (ext_grown (Ext.rfl' _) (h4 none) (fun _ hk => by cases hk)))
end
end Go.Proofs.Ytlldmpcamdginaa
namespace Go.Proofs.Ytlldmpcamdginaa.Rec
open Go.ChangeShapes Go.WideShapes Go.ChangeAt Go.RowKit
set_option linter.unusedVariables false
variable {α : Type}
/-- A slice that reads as these records. -/
def RowR (w : World) (A : Option Addr) (n k : Nat) (f : α → List Value) (xs : List α) : Prop :=
  xs.length = n ∧ (0 < n → ∃ b o, A = some ⟨b, o, none⟩ ∧ b < w.heap.size ∧ ∀ j (hj : j < xs.length) i, i < k → w.cell? ⟨b, o + j * k + i, none⟩ = (f xs[j])[i]?)
theorem RowR.nil (w : World) (A : Option Addr) (k : Nat) (f : α → List Value) : RowR w A 0 k f [] := ⟨rfl, fun h => absurd h (by omega)⟩
theorem RowR.keep {w w' : World} {A : Option Addr} {n k : Nat} {f : α → List Value} {xs : List α} (h : RowR w A n k f xs) (hs : w.heap.size ≤ w'.heap.size) (hk : ∀ a, A = some a → 0 < n → w'.heap[a.block]? = w.heap[a.block]?) : RowR w' A n k f xs := by
  refine ⟨h.1, fun hp => ?_⟩
  obtain ⟨b, o, e, hb, hc⟩ := h.2 hp
  exact ⟨b, o, e, Nat.lt_of_lt_of_le hb hs, fun j hj i hi => (World.cell?_of_block (a := ⟨b, o + j * k + i, none⟩) (show w'.heap[b]? = w.heap[b]? from hk ⟨b, o, none⟩ e hp)).trans (hc j hj i hi)⟩
theorem RowR.ext {w w' : World} {A : Option Addr} {n k : Nat} {f : α → List Value} {xs : List α} (h : RowR w A n k f xs) (e : Ext w w') : RowR w' A n k f xs := by
  refine h.keep e.size (fun a ha hp => ?_)
  obtain ⟨b, o, e1, hb, hc⟩ := h.2 hp
  obtain rfl := Option.some.inj (ha.symm.trans e1)
  exact e.block b hb
theorem RowR.grown {w w' : World} {A : Option Addr} {n k : Nat} {r : Option Nat} {f : α → List Value} {xs : List α} (h : RowR w A n k f xs) (e : w.grownBy w' r) (hr : ∀ a, A = some a → 0 < n → some a.block ≠ r) : RowR w' A n k f xs := by
  refine h.keep e.size (fun a ha hp => ?_)
  obtain ⟨b, o, e1, hb, hc⟩ := h.2 hp
  have := hr a ha hp
  obtain rfl := Option.some.inj (ha.symm.trans e1)
  exact e.block b hb this
theorem flat_len {k : Nat} {f : α → List Value} (hf : ∀ x, (f x).length = k) : ∀ xs : List α, (xs.flatMap f).length = xs.length * k
  | [] => by simp
  | x :: xs => by rw [List.flatMap_cons, List.length_append, hf, flat_len hf xs, List.length_cons, Nat.succ_mul, Nat.add_comm]
theorem flat_get {k : Nat} {f : α → List Value} (hf : ∀ x, (f x).length = k) : ∀ (xs : List α) (j : Nat) (hj : j < xs.length) (i : Nat), i < k → (xs.flatMap f)[j * k + i]? = (f xs[j])[i]?
  | [], j, hj, _, _ => absurd hj (by simp)
  | x :: xs, 0, hj, i, hi => by
    rw [List.flatMap_cons, List.getElem?_append_left (by rw [hf]; omega)]; simp
  | x :: xs, j + 1, hj, i, hi => by
    rw [List.flatMap_cons, List.getElem?_append_right (by rw [hf, Nat.succ_mul]; omega), hf, show (j + 1) * k + i - k = j * k + i by rw [Nat.succ_mul]; omega, flat_get hf xs j (by simpa using hj) i hi]
    rfl
/-- A slice of one's own, these records in it. -/
def OwnR (base : Nat) (w : World) (e : TypeId) (k : Nat) (f : α → List Value) (v : Value) (xs : List α) : Prop := w.ownsRow base e k v xs.length (xs.flatMap f)
theorem OwnR.nil (base : Nat) (w : World) (e : TypeId) (k : Nat) (f : α → List Value) : OwnR base w e k f (.slice none 0 0) ([] : List α) := World.ownsRow_nil w base e k
theorem OwnR.ext {base : Nat} {w w' : World} {e : TypeId} {k : Nat} {f : α → List Value} {v : Value} {xs : List α} (h : OwnR base w e k f v xs) (hE : Ext w w') : OwnR base w' e k f v xs := by
  refine World.ownsRow.kept h (row := none) ⟨hE.os, hE.tape, hE.output, hE.size, fun k hk _ => hE.block k hk⟩ ?_
  cases v.ownBlock <;> simp
theorem OwnR.grown {base : Nat} {w w' : World} {e : TypeId} {k : Nat} {f : α → List Value} {v : Value} {xs : List α} {r : Nat} (h : OwnR base w e k f v xs) (hg : w.grownBy w' (some r)) (hr : r < base) : OwnR base w' e k f v xs := by
  refine World.ownsRow.kept h hg ?_
  cases hv : v.ownBlock with
  | none => exact .inl rfl
  | some q => exact .inr (fun e => by have := (World.ownsRow.lt h q hv).1; have := Option.some.inj e; omega)
theorem OwnR.shape {base : Nat} {w : World} {e : TypeId} {k : Nat} {f : α → List Value} {v : Value} {xs : List α} (h : OwnR base w e k f v xs) : ∃ A c, v = .slice A xs.length c ∧ xs.length ≤ c ∧ c ≤ maxLen ∧ (A = none → xs.length = 0 ∧ c = 0) ∧ (∀ a, A = some a → base ≤ a.block) := by
  rcases h.2 with ⟨rfl, hn⟩ | ⟨g, cap, cur, rfl, hb, _, h1, h2, _⟩
  · exact ⟨none, 0, by rw [hn], by omega, by unfold maxLen; omega, (fun _ => ⟨hn, rfl⟩), (fun a ha => by cases ha)⟩
  · exact ⟨_, cap, rfl, h1, h2, (fun ha => by cases ha), (fun a ha => by cases ha; exact hb)⟩
theorem OwnR.row {base : Nat} {w : World} {e : TypeId} {k : Nat} {f : α → List Value} {A : Option Addr} {n c : Nat} {xs : List α} (hf : ∀ x, (f x).length = k) (h : OwnR base w e k f (.slice A n c) xs) : RowR w A n k f xs := by
  rcases h.2 with ⟨h1, hn⟩ | ⟨g, cap, cur, h1, hb, hg, h2, h3, hs, ht⟩
  · obtain ⟨rfl, rfl, rfl⟩ := Value.slice.inj h1
    exact ⟨hn, fun hp => absurd hp (by omega)⟩
  · obtain ⟨rfl, rfl, rfl⟩ := Value.slice.inj h1
    refine ⟨rfl, fun hp => ⟨g, 0, rfl, (Array.getElem?_eq_some_iff.1 hg).1, fun j hj i hi => ?_⟩⟩
    have hlt : j * k + i < (xs.flatMap f).length := by
      rw [flat_len hf]
      calc j * k + i < j * k + k := by omega
        _ = (j + 1) * k := by rw [Nat.succ_mul]
        _ ≤ xs.length * k := Nat.mul_le_mul_right k hj
    have hq : (xs.flatMap f)[j * k + i]? = some ((xs.flatMap f)[j * k + i]) := List.getElem?_eq_getElem hlt
    have := World.ownsRow.cells h (g := g) rfl (j * k + i) _ hq
    have hadd : (⟨g, 0, none⟩ : Addr).add (j * k + i) = ⟨g, j * k + i, none⟩ := by unfold Addr.add; split <;> simp_all
    rw [hadd] at this
    rw [Nat.zero_add, this, ← hq, flat_get hf xs j hj i hi]
/-- A slice just made. -/
theorem row_new {k : Nat} {f : α → List Value} (hf : ∀ x, (f x).length = k) (w : World) (t : TypeId) (xs : List α) : RowR (w.alloc (.cells (xs.flatMap f).toArray t)) (some ⟨w.heap.size, 0, none⟩) xs.length k f xs := by
  refine ⟨rfl, fun _ => ⟨w.heap.size, 0, rfl, by rw [World.size_alloc]; omega, fun j hj i hi => ?_⟩⟩
  rw [(Blk.new w t (xs.flatMap f).toArray).cell, Nat.zero_add, ← flat_get hf xs j hj i hi]
  simp
/-- One record more. -/
theorem wpList_rec {P : Program} {w : World} {base : Nat} {ops : Array Oper} {rest : List Oper} {o : Oper} {a : Act} {Q : Exit → Act → World → Prop} (hgd : o.guard = none) (s x : Operand) (t e : TypeId) (k bytes : Nat) (z : Value) (f : α → List Value) (ho : o.op = .call { callee := .builtin .append, args := #[s, x], argTypes := #[t, t] })
    (ht : P.underlying t = some (.slice e)) (hi : (P.info? e).map (fun i => (i.zero, i.size, i.bytes)) = some (some z, k, bytes)) (hzs : z.cells.size = k) (hby : bytes ≤ 1000) (v vx : Value) (xs : List α) (y : α) (hs : a.eval s = v) (hx : a.eval x = vx) (hO : OwnR base w e k f v xs) (hbase : base ≤ w.heap.size)
    (hsrc : Src P k t vx 1 (f y) w) (hb : xs.length ≤ 100000000) (h : ∀ v' w', OwnR base w' e k f v' (xs ++ [y]) → w.grownBy w' v.ownBlock → wpList P ops Q rest (a.put o.dst v') w') : wpList P ops Q (o :: rest) a w := by
  obtain ⟨i0, hi0, hq⟩ := Option.map_eq_some_iff.1 hi
  simp only [Prod.mk.injEq] at hq
  obtain ⟨hz0, hz1, hz2⟩ := hq
  have hm : (xs.length + 1) * bytes ≤ 140737488355328 := by
    calc (xs.length + 1) * bytes ≤ (xs.length + 1) * 1000 := Nat.mul_le_mul_left _ hby
      _ ≤ 140737488355328 := by omega
  refine wpList_app_own hgd s x t t ho e i0 z k bytes ht hi0 hz0 hz1 hz2 hzs base v vx xs.length (xs.flatMap f) hs hx hO 1 (f y) hsrc (by unfold maxLen; omega) hm hbase ?_
  intro v' w' h2 h3
  refine h v' w' ?_ h3
  unfold OwnR
  rw [List.length_append, List.flatMap_append]
  simpa using h2
theorem run_rec {P : Program} {w : World} {base : Nat} (t e ty : TypeId) (k bytes : Nat) (z : Value) (f : α → List Value)
    (ht : P.underlying t = some (.slice e)) (hi : (P.info? e).map (fun i => (i.zero, i.size, i.bytes)) = some (some z, k, bytes)) (hzs : z.cells.size = k) (hby : bytes ≤ 1000) (v vx : Value) (xs : List α) (y : α) (hO : OwnR base w e k f v xs) (hbase : base ≤ w.heap.size)
    (hsrc : Src P k t vx 1 (f y) w) (hb : xs.length ≤ 100000000) : ∃ v' w', (Builtin.append_ #[t, t] ty #[v, vx]).run P w = .ok v' w' ∧ OwnR base w' e k f v' (xs ++ [y]) ∧ w.grownBy w' v.ownBlock := by
  obtain ⟨i0, hi0, hq⟩ := Option.map_eq_some_iff.1 hi
  simp only [Prod.mk.injEq] at hq
  obtain ⟨hz0, hz1, hz2⟩ := hq
  have hm : (xs.length + 1) * bytes ≤ 140737488355328 := by
    calc (xs.length + 1) * bytes ≤ (xs.length + 1) * 1000 := Nat.mul_le_mul_left _ hby
      _ ≤ 140737488355328 := by omega
  obtain ⟨v', w', r1, r2, r3⟩ := run_app_own (P := P) t t ty e i0 z k bytes ht hi0 hz0 hz1 hz2 hzs base v xs.length (xs.flatMap f) hO vx 1 (f y) hsrc (by unfold maxLen; omega) hm hbase
  refine ⟨v', w', r1, ?_, r3⟩
  unfold OwnR
  rw [List.length_append, List.flatMap_append]
  simpa using r2
/-- A slice of one record, just made. -/
theorem src_rec {P : Program} {tx e e' : TypeId} {k : Nat} (hk : P.underlying tx = some (.slice e)) (w : World) (cs : List Value) (hl : cs.length = k) (h1 : ∀ u ∈ cs, u.oneCell' = true) (c : Nat) : Src P k tx (.slice (some ⟨w.heap.size, 0, none⟩) 1 c) 1 cs (w.alloc (.cells cs.toArray e')) := by
  refine Src.ofSlice _ hk _ _ c _ (by rw [Nat.one_mul, hl]) (fun j u hj => ?_) h1
  have hadd : (⟨w.heap.size, 0, none⟩ : Addr).add j = ⟨w.heap.size, j, none⟩ := by unfold Addr.add; split <;> simp_all
  rw [hadd, (Blk.new w e' cs.toArray).cell j, ← hj]
  simp
end Go.Proofs.Ytlldmpcamdginaa.Rec
namespace Go.Proofs.Ytlldmpcamdginaa
open Go.ChangeShapes Go.WideShapes Go.ChangeAt Go.RowKit
set_option linter.unusedVariables false
/-- A slice reads as these bytes. -/
def Bs (w : World) (A : Option Addr) (n : Nat) (xs : List Nat) : Prop :=
  xs.length = n ∧ (∀ j, xs.getD j 0 < 256) ∧ (0 < n → ∃ b o, A = some ⟨b, o, none⟩ ∧ b < w.heap.size ∧ ∀ j, j < n → w.cell? ⟨b, o + j, none⟩ = some (.int .u8 (xs.getD j 0 : Nat)))
def c8 (ys : List Nat) : List Value := ys.map fun (y : Nat) => Value.int .u8 (y : Int)
theorem c8_len (ys : List Nat) : (c8 ys).length = ys.length := by simp [c8]
theorem c8_app (xs ys : List Nat) : c8 (xs ++ ys) = c8 xs ++ c8 ys := by simp [c8]
theorem c8_one (ys : List Nat) : ∀ u ∈ c8 ys, u.oneCell' = true := fun u hu => by
  obtain ⟨_, _, rfl⟩ := List.mem_map.1 hu; rfl
theorem c8_get {ys : List Nat} {j : Nat} {u : Value} (h : (c8 ys)[j]? = some u) : j < ys.length ∧ u = .int .u8 (ys.getD j 0 : Nat) := by
  unfold c8 at h
  rw [List.getElem?_map, Option.map_eq_some_iff] at h
  obtain ⟨y, hy, rfl⟩ := h
  have hj := (List.getElem?_eq_some_iff.1 hy).1
  exact ⟨hj, by rw [List.getD_eq_getElem?_getD, hy]; rfl⟩
theorem c8_at {ys : List Nat} {j : Nat} (h : j < ys.length) : (c8 ys)[j]? = some (.int .u8 (ys.getD j 0 : Nat)) := by
  unfold c8
  rw [List.getElem?_map, List.getElem?_eq_getElem h, List.getD_eq_getElem?_getD, List.getElem?_eq_getElem h]; rfl
theorem small_app {xs ys : List Nat} (hx : ∀ j, xs.getD j 0 < 256) (hy : ∀ j, ys.getD j 0 < 256) : ∀ j, (xs ++ ys).getD j 0 < 256 := fun j => by
  rw [List.getD_eq_getElem?_getD, List.getElem?_append]
  split
  · rw [← List.getD_eq_getElem?_getD]; exact hx j
  · rw [← List.getD_eq_getElem?_getD]; exact hy _
theorem small_mem {xs : List Nat} (h : ∀ c ∈ xs, c < 256) : ∀ j, xs.getD j 0 < 256 := fun j => by
  rw [List.getD_eq_getElem?_getD]
  by_cases hj : j < xs.length
  · rw [List.getElem?_eq_getElem hj]; exact h _ (List.getElem_mem hj)
  · rw [List.getElem?_eq_none (by omega)]; simp
theorem mem_small {xs : List Nat} (h : ∀ j, xs.getD j 0 < 256) : ∀ c ∈ xs, c < 256 := fun c hc => by
  obtain ⟨j, hj, rfl⟩ := List.getElem_of_mem hc
  have := h j
  rwa [List.getD_eq_getElem?_getD, List.getElem?_eq_getElem hj] at this
section
variable {w w' : World} {A : Option Addr} {n : Nat} {xs : List Nat}
theorem Bs.ext (h : Bs w A n xs) (hb : Ext w w') : Bs w' A n xs :=
  ⟨h.1, h.2.1, fun hn => by
    obtain ⟨b, o, e, hl, hc⟩ := h.2.2 hn
    exact ⟨b, o, e, Nat.lt_of_lt_of_le hl hb.size, fun j hj => (hb.cell (p := ⟨b, o + j, none⟩) hl).trans (hc j hj)⟩⟩
theorem Bs.kept (h : Bs w A n xs) {row : Option Nat} (hg : w.grownBy w' row) (hne : ∀ a, A = some a → some a.block ≠ row) : Bs w' A n xs :=
  ⟨h.1, h.2.1, fun hn => by
    obtain ⟨b, o, e, hl, hc⟩ := h.2.2 hn
    exact ⟨b, o, e, Nat.lt_of_lt_of_le hl hg.size, fun j hj => hg.cell (hc j hj) (by have := hne _ e; exact this)⟩⟩
theorem Bs.none (w : World) (A : Option Addr) : Bs w A 0 [] := ⟨rfl, fun j => by simp, fun h => absurd h (by omega)⟩
theorem Bs.take (h : Bs w A n xs) {m : Nat} (hm : m ≤ n) : Bs w A m (xs.take m) := by
  have g : ∀ j, j < m → (xs.take m).getD j 0 = xs.getD j 0 := fun j hj => by simp [List.getD_eq_getElem?_getD, hj]
  refine ⟨by rw [List.length_take, h.1]; omega, fun j => ?_, fun hn => ?_⟩
  · by_cases hj : j < m
    · rw [g j hj]; exact h.2.1 j
    · rw [List.getD_eq_getElem?_getD, List.getElem?_eq_none (by rw [List.length_take]; omega)]; simp
  · obtain ⟨b, o, e, hl, hc⟩ := h.2.2 (by omega)
    exact ⟨b, o, e, hl, fun j hj => by rw [hc j (by omega), g j hj]⟩
/-- A row of the call's own, read. -/
theorem Bs.own {base : Nat} {e : TypeId} {c : Nat} (h : w.ownsRow base e 1 (.slice A n c) n (c8 xs)) (hx : ∀ j, xs.getD j 0 < 256) : Bs w A n xs := by
  have hl : xs.length = n := by have := h.1; rwa [c8_len, Nat.mul_one] at this
  refine ⟨hl, hx, fun hn => ?_⟩
  rcases h.2 with ⟨_, rfl⟩ | ⟨g, cap, cur, h1, _⟩
  · omega
  · obtain ⟨rfl, _, rfl⟩ := Value.slice.inj h1
    refine ⟨g, 0, rfl, (h.lt g rfl).2, fun j hj => ?_⟩
    have := h.cellAt j (by omega)
    rw [Nat.zero_add, this, c8_at (by omega)]
/-- What a slice yields to an append. -/
theorem Bs.src {P : Program} {tx e' : TypeId} (h : Bs w A n xs) (hk : P.underlying tx = some (.slice e')) (c : Nat) : Src P 1 tx (.slice A n c) n (c8 xs) w := by
  rcases Nat.eq_zero_or_pos n with rfl | hp
  · have : xs = [] := List.eq_nil_of_length_eq_zero h.1
    subst this
    rcases A with _ | a
    · exact Src.ofNil w hk c
    · exact Src.ofSlice w hk a 0 c [] (by simp) (fun j u hu => by simp at hu) (fun u hu => by cases hu)
  · obtain ⟨b, o, rfl, _, hc⟩ := h.2.2 hp
    refine Src.ofSlice w hk _ n c (c8 xs) (by rw [c8_len, h.1, Nat.mul_one]) (fun j u hu => ?_) (c8_one xs)
    obtain ⟨hj, rfl⟩ := c8_get hu
    have hadd : (⟨b, o, Option.none⟩ : Addr).add j = ⟨b, o + j, Option.none⟩ := by unfold Addr.add; split <;> simp_all
    rw [hadd]
    exact hc j (by rw [h.1] at hj; exact hj)
theorem Bs.first {P : Program} (h : Bs w A n xs) (c : Nat) : (Builtin.firstCells 1 n (.slice A n c)).run P w.drew = .ok (c8 xs).toArray w.drew := by
  rcases Nat.eq_zero_or_pos n with rfl | hp
  · have : xs = [] := List.eq_nil_of_length_eq_zero h.1
    subst this
    rcases A with _ | a
    · exact run_firstCells_none w.drew 1 0 0 c
    · exact run_firstCells_some w.drew 1 0 _ _ _ [] (by simp) (fun j u hu => by simp at hu)
  · obtain ⟨b, o, rfl, _, hc⟩ := h.2.2 hp
    refine run_firstCells_some w.drew 1 n _ _ _ _ (by rw [c8_len, h.1, Nat.mul_one]) (fun j u hu => ?_)
    obtain ⟨hj, rfl⟩ := c8_get hu
    have hadd : (⟨b, o, Option.none⟩ : Addr).add j = ⟨b, o + j, Option.none⟩ := by unfold Addr.add; split <;> simp_all
    rw [hadd]
    have := hc j (by rw [h.1] at hj; exact hj)
    simpa using this
/-- Bytes as a text. -/
def strOf (xs : List Nat) : ByteArray := ⟨(xs.map UInt8.ofNat).toArray⟩
theorem strOf_nums (xs : List Nat) : strOfNums (xs.map fun (x : Nat) => (x : Int)) = strOf xs := by
  unfold strOfNums strOf
  rw [List.map_map]; rfl
theorem strOf_nil : strOf [] = ByteArray.empty := rfl
theorem strOf_app (xs ys : List Nat) : strOf (xs ++ ys) = strOf xs ++ strOf ys := by
  apply ByteArray.ext
  rw [ByteArray.data_append]
  simp [strOf]
theorem strOf_size (xs : List Nat) : (strOf xs).size = xs.length := by simp [strOf, ByteArray.size]
theorem str_ne {a b : ByteArray} (h : a ≠ b) : ¬ a.toList = b.toList := fun e => h (by
  rw [ByteArray.toList_eq, ByteArray.toList_eq] at e
  exact ByteArray.ext (Array.ext' e))
theorem strOf_inj {xs ys : List Nat} (hx : ∀ j, xs.getD j 0 < 256) (hy : ∀ j, ys.getD j 0 < 256) (h : strOf xs = strOf ys) : xs = ys := by
  have h1 : xs.map UInt8.ofNat = ys.map UInt8.ofNat := by
    have := congrArg (fun s => s.data.toList) h
    simpa [strOf] using this
  have h2 := congrArg (List.map UInt8.toNat) h1
  have key : ∀ zs : List Nat, (∀ j, zs.getD j 0 < 256) → (zs.map UInt8.ofNat).map UInt8.toNat = zs := fun zs hz => by
    rw [List.map_map]
    conv => rhs; rw [← List.map_id zs]
    refine List.map_congr_left fun c hc => ?_
    have := mem_small hz c hc
    show (UInt8.ofNat c).toNat = c
    rw [UInt8.toNat_ofNat', Nat.mod_eq_of_lt this]
  rwa [key xs hx, key ys hy] at h2
theorem Bs.conv {P : Program} (h : Bs w A n xs) (src e dst : TypeId) (hs : P.underlying src = some (.slice e)) (he : P.underlying e = some (.int .u8)) (hd : P.underlying dst = some .string) (c : Nat) :
    (convert src dst (.slice A n c)).run P w = .ok (.string (strOf xs)) w := by
  rcases Nat.eq_zero_or_pos n with rfl | hp
  · have : xs = [] := List.eq_nil_of_length_eq_zero h.1
    subst this
    rcases A with _ | a
    · exact run_convert_bytes_nil w src e hs he 0 c dst hd
    · have := run_convert_bytes_back w src dst e a c [] hs he hd (fun j hj => absurd hj (by simp))
      exact this
  · obtain ⟨b, o, rfl, _, hc⟩ := h.2.2 hp
    have := run_convert_bytes_arg (P := P) w src e hs he b o n c (xs.map fun (x : Nat) => (x : Int)) (by rw [List.length_map]; exact h.1) (fun i hi => by
      have hl := h.1
      rw [hc i hi, List.getD_eq_getElem?_getD, List.getD_eq_getElem?_getD, List.getElem?_map, List.getElem?_eq_getElem (by omega)]; rfl) dst hd
    rwa [strOf_nums] at this
/-- A text's bytes. -/
def natsOf (s : ByteArray) : List Nat := s.data.toList.map UInt8.toNat
theorem natsOf_small (s : ByteArray) : ∀ j, (natsOf s).getD j 0 < 256 := small_mem fun c hc => by
  obtain ⟨b, _, rfl⟩ := List.mem_map.1 hc
  exact b.toNat_lt
theorem natsOf_len (s : ByteArray) : (natsOf s).length = s.size := by
  unfold natsOf
  rw [List.length_map, Array.length_toList]; rfl
theorem byteCells_eq (s : ByteArray) : byteCells s = c8 (natsOf s) := by
  unfold byteCells c8 natsOf
  rw [List.map_map]; rfl
theorem strOf_nats (s : ByteArray) : strOf (natsOf s) = s := by
  apply ByteArray.ext
  unfold strOf natsOf
  rw [List.map_map]
  have : (UInt8.ofNat ∘ UInt8.toNat) = id := by funext b; simp
  rw [this, List.map_id]
theorem nats_strOf {xs : List Nat} (hx : ∀ j, xs.getD j 0 < 256) : natsOf (strOf xs) = xs :=
  strOf_inj (natsOf_small _) hx (strOf_nats _)
end
/-- A slice of bytes that came in. -/
def IsRow (w : World) (a : Option Addr) (len cap : Nat) (zs : List Int) : Prop :=
  (a = none ∧ len = 0 ∧ cap = 0 ∧ zs = []) ∨
  ∃ x, a = some x ∧ len ≤ cap ∧ cap ≤ maxLen ∧ zs.length = cap ∧ (∀ i, i < zs.length → w.cell? (x.add i) = some (.int .u8 (zs.getD i 0))) ∧ ∀ n ∈ zs, (Lit.int .u8 n).wf = true
theorem bs_of_row {w : World} {a : Option Addr} {len cap : Nat} {zs : List Int} (h : IsRow w a len cap zs) : ∃ xs, Bs w a len xs := by
  rcases h with ⟨rfl, rfl, rfl, rfl⟩ | ⟨x, rfl, hl, hm, hz, hcell, hwz⟩
  · exact ⟨[], Bs.none w none⟩
  · have bd : ∀ j, 0 ≤ zs.getD j 0 ∧ zs.getD j 0 ≤ 255 := fun j => by
      rw [List.getD_eq_getElem?_getD]
      by_cases hj : j < zs.length
      · rw [List.getElem?_eq_getElem hj]
        have := bounds_u8 (hwz _ (List.getElem_mem hj))
        simp only [Option.getD_some]; omega
      · rw [List.getElem?_eq_none (by omega)]; simp
    have gd : ∀ j, j < len → ((zs.take len).map Int.toNat).getD j 0 = (zs.getD j 0).toNat := fun j hj => by
      simp [List.getD_eq_getElem?_getD, hj, List.getElem?_eq_getElem (show j < zs.length by omega)]
    refine ⟨(zs.take len).map Int.toNat, by simp; omega, fun j => ?_, fun hn => ?_⟩
    · by_cases hj : j < len
      · rw [gd j hj]; have := bd j; omega
      · rw [List.getD_eq_getElem?_getD, List.getElem?_eq_none (by simp; omega)]; simp
    · obtain ⟨b, o, spot⟩ := x
      have hspot : spot = none := by
        have := hcell 0 (by omega)
        simpa [Addr.add] using World.cell?_spot this
      subst hspot
      have hadd : ∀ j, (⟨b, o, none⟩ : Addr).add j = ⟨b, o + j, none⟩ := fun j => by unfold Addr.add; split <;> simp_all
      have c0 := hcell 0 (by omega)
      rw [hadd] at c0
      refine ⟨b, o, rfl, World.block_lt_of_cell? w _ c0, fun j hj => ?_⟩
      have := hcell j (by omega)
      rw [hadd] at this
      rw [this, gd j hj, Int.toNat_of_nonneg (bd j).1]
theorem IsRow.nil {w : World} {a : Option Addr} {len cap : Nat} {zs : List Int} (h : IsRow w a len cap zs) : a = none → len = 0 ∧ cap = 0 := fun e => by
  rcases h with ⟨_, h1, h2, _⟩ | ⟨x, hx, _⟩
  · exact ⟨h1, h2⟩
  · rw [e] at hx; cases hx
theorem IsRow.bounds {w : World} {a : Option Addr} {len cap : Nat} {zs : List Int} (h : IsRow w a len cap zs) : len ≤ cap ∧ cap ≤ 9223372036854775807 := by
  rcases h with ⟨_, rfl, rfl, _⟩ | ⟨_, _, hl, hm, _⟩
  · omega
  · unfold maxLen at hm; omega
end Go.Proofs.Ytlldmpcamdginaa
namespace Go.Proofs.Ytlldmpcamdginaa.Wire
open Go.ChangeShapes Go.WideShapes Go.ChangeAt Go.RowKit
set_option linter.unusedVariables false

/-- A number's bytes. -/
def vb (n : Nat) : List Nat := if h : n < 128 then [n] else (n % 128 + 128) :: vb (n / 128)
termination_by n
decreasing_by omega
theorem vb_small {n : Nat} (h : n < 128) : vb n = [n] := by rw [vb, dif_pos h]
theorem vb_more {n : Nat} (h : ¬ n < 128) : vb n = (n % 128 + 128) :: vb (n / 128) := by rw [vb, dif_neg h]
theorem vb_pos (n : Nat) : 1 ≤ (vb n).length := by
  by_cases h1 : n < 128
  · rw [vb_small h1]; simp
  · rw [vb_more h1]; simp
theorem vb_len (k : Nat) : ∀ n, n < 128 ^ (k + 1) → (vb n).length ≤ k + 1 := by
  induction k with
  | zero => intro n h; rw [vb_small (by simpa using h)]; simp
  | succ k ih =>
    intro n h
    by_cases h1 : n < 128
    · rw [vb_small h1]; simp
    · rw [vb_more h1, List.length_cons]
      have := ih (n / 128) (by
        rw [Nat.pow_succ] at h
        exact Nat.div_lt_of_lt_mul (by rw [Nat.mul_comm]; exact h))
      omega
theorem vb_ten {n : Nat} (h : n < 18446744073709551616) : (vb n).length ≤ 10 := vb_len 9 n (Nat.lt_trans h (by decide))
theorem vb_mem (n : Nat) : ∀ c ∈ vb n, c < 256 := by
  induction n using Nat.strongRecOn with
  | _ n ih =>
    intro c hc
    by_cases h1 : n < 128
    · rw [vb_small h1] at hc; simp at hc; omega
    · rw [vb_more h1] at hc
      rcases List.mem_cons.1 hc with rfl | hc
      · omega
      · exact ih (n / 128) (by omega) c hc
theorem vb_byte (n : Nat) : ∀ j, (vb n).getD j 0 < 256 := small_mem (vb_mem n)
/-- What reading tells. -/
inductive VR where
  | short
  | form
  | ok (v k : Nat)
/-- A varint that stands next, size bytes of which were read. -/
def vr (size acc : Nat) : List Nat → VR
  | [] => .short
  | c :: cs =>
    if (size = 9 ∧ 1 < c) ∨ (0 < size ∧ c = 0) then .form
    else if c < 128 then .ok (acc + c * 128 ^ size) (size + 1)
    else vr (size + 1) (acc + (c - 128) * 128 ^ size) cs
theorem pow_split {s : Nat} (h : s ≤ 8) : 2 ^ (64 - 7 * s) = 128 * 2 ^ (64 - 7 * (s + 1)) := by
  rw [show 64 - 7 * s = 7 + (64 - 7 * (s + 1)) from by omega, Nat.pow_add]
theorem pow_eight {s : Nat} (h : s ≤ 8) : 128 < 2 ^ (64 - 7 * s) := by
  have : 2 ^ 8 ≤ 2 ^ (64 - 7 * s) := Nat.pow_le_pow_right (by omega) (by omega)
  omega
theorem vr_vb (m : Nat) : ∀ (size acc : Nat) (ys : List Nat), size ≤ 9 → m < 2 ^ (64 - 7 * size) → (0 < size → 0 < m) → vr size acc (vb m ++ ys) = .ok (acc + m * 128 ^ size) (size + (vb m).length) := by
  induction m using Nat.strongRecOn with
  | _ m ih =>
    intro size acc ys hs hm hz
    by_cases h1 : m < 128
    · rw [vb_small h1]
      show vr size acc (m :: ys) = _
      rw [vr, if_neg, if_pos h1]
      · rfl
      · rintro (⟨rfl, h⟩ | ⟨h, rfl⟩)
        · simp at hm; omega
        · exact absurd (hz h) (by omega)
    · have h8 : size ≤ 8 := by
        rcases Nat.lt_or_ge 8 size with h | h
        · obtain rfl : size = 9 := by omega
          simp at hm; omega
        · exact h
      rw [vb_more h1]
      show vr size acc ((m % 128 + 128) :: (vb (m / 128) ++ ys)) = _
      rw [vr, if_neg (by omega), if_neg (by omega), ih (m / 128) (by omega) _ _ _ (by omega) _ (by omega)]
      · rw [List.length_cons]
        congr 1
        · rw [Nat.add_sub_cancel, Nat.pow_succ, Nat.add_assoc, ← Nat.mul_assoc, Nat.mul_right_comm, ← Nat.add_mul]
          congr 2
          omega
        · omega
      · rw [pow_split h8] at hm; omega
theorem vr_put {m : Nat} (h : m < 18446744073709551616) (ys : List Nat) : vr 0 0 (vb m ++ ys) = .ok m (vb m).length := by
  rw [vr_vb m 0 0 ys (by omega) (by simpa using h) (by omega)]
  simp
theorem vr_of (xs : List Nat) : ∀ (size acc v k : Nat), (∀ c ∈ xs, c < 256) → size ≤ 9 → vr size acc xs = .ok v k →
    ∃ m, v = acc + m * 128 ^ size ∧ k = size + (vb m).length ∧ vb m = xs.take (vb m).length ∧ m < 2 ^ (64 - 7 * size) ∧ (0 < size → 0 < m) := by
  induction xs with
  | nil => intro size acc v k _ _ h; cases h
  | cons c cs ih =>
    intro size acc v k hb hs h
    have hc := hb c (by simp)
    rw [vr] at h
    by_cases h1 : (size = 9 ∧ 1 < c) ∨ (0 < size ∧ c = 0)
    · rw [if_pos h1] at h; cases h
    · rw [if_neg h1] at h
      by_cases h2 : c < 128
      · rw [if_pos h2] at h
        cases h
        refine ⟨c, rfl, by rw [vb_small h2]; rfl, by rw [vb_small h2]; rfl, ?_, by omega⟩
        by_cases h9 : size = 9
        · subst h9; simp; omega
        · have := pow_eight (s := size) (by omega); omega
      · rw [if_neg h2] at h
        have h8 : size ≤ 8 := by omega
        obtain ⟨m, e1, e2, e3, e4, e5⟩ := ih (size + 1) _ v k (fun d hd => hb d (by simp [hd])) (by omega) h
        have hm0 := e5 (by omega)
        have hd1 : ((c - 128) + 128 * m) % 128 = c - 128 := by omega
        have hd2 : ((c - 128) + 128 * m) / 128 = m := by omega
        have hv : vb ((c - 128) + 128 * m) = c :: vb m := by
          rw [vb_more (by omega), hd1, hd2, show c - 128 + 128 = c from by omega]
        refine ⟨(c - 128) + 128 * m, ?_, ?_, ?_, ?_, by omega⟩
        · rw [e1, Nat.add_mul, Nat.pow_succ]
          rw [show 128 * m * 128 ^ size = m * (128 ^ size * 128) from by rw [Nat.mul_comm 128 m, Nat.mul_assoc, Nat.mul_comm 128]]
          omega
        · rw [hv, List.length_cons]; omega
        · rw [hv, List.length_cons, List.take_succ_cons, ← e3]
        · rw [pow_split h8]; omega
theorem vr_ok {xs : List Nat} {v k : Nat} (hb : ∀ c ∈ xs, c < 256) (h : vr 0 0 xs = .ok v k) : vb v = xs.take k ∧ k = (vb v).length ∧ v < 18446744073709551616 ∧ k ≤ xs.length := by
  obtain ⟨m, e1, e2, e3, e4, _⟩ := vr_of xs 0 0 v k hb (by omega) h
  have hv : v = m := by simpa using e1
  subst hv
  have hk : k = (vb v).length := by omega
  refine ⟨by rw [hk]; exact e3, hk, by simpa using e4, ?_⟩
  have := congrArg List.length e3
  rw [List.length_take] at this
  omega
theorem vb_head {a b : Nat} (ha : a < 18446744073709551616) (hb : b < 18446744073709551616) {ys : List Nat} (h : vb b = vb a ++ ys) : a = b := by
  have h1 := vr_put ha ys
  have h2 := vr_put hb []
  rw [List.append_nil, h, h1] at h2
  exact (VR.ok.inj h2).1
theorem vb_inj {a b : Nat} (ha : a < 18446744073709551616) (hb : b < 18446744073709551616) (h : vb a = vb b) : a = b := vb_head ha hb (ys := []) (by rw [List.append_nil, h])
/-- Of two varints, as long as the shorter one is, the heads are the same just if the numbers are. -/
theorem heads {a b n : Nat} (ha : a < 18446744073709551616) (hb : b < 18446744073709551616) (hn : n = min (vb a).length (vb b).length) : (vb a).take n = (vb b).take n ↔ a = b := by
  constructor
  · intro h
    rcases Nat.le_total (vb a).length (vb b).length with hl | hl
    · rw [Nat.min_eq_left hl] at hn
      subst hn
      rw [List.take_length] at h
      refine vb_head ha hb (ys := (vb b).drop (vb a).length) ?_
      conv => lhs; rw [← List.take_append_drop (vb a).length (vb b), ← h]
    · rw [Nat.min_eq_right hl] at hn
      subst hn
      rw [List.take_length] at h
      refine (vb_head hb ha (ys := (vb a).drop (vb b).length) ?_).symm
      conv => lhs; rw [← List.take_append_drop (vb b).length (vb a), h]
  · rintro rfl; rfl
/-- Zigzag. -/
def zz (m : Int) : Nat := (if 0 ≤ m then 2 * m else -2 * m - 1).toNat
def uz (n : Nat) : Int := if n % 2 = 0 then (n / 2 : Nat) else -((n / 2 : Nat) : Int) - 1
theorem uz_zz (m : Int) : uz (zz m) = m := by
  unfold uz zz
  by_cases h : 0 ≤ m
  · rw [if_pos h, if_pos (by omega)]; omega
  · rw [if_neg h, if_neg (by omega)]; omega
theorem zz_lt {m : Int} (h1 : -9223372036854775808 ≤ m) (h2 : m ≤ 9223372036854775807) : zz m < 18446744073709551616 := by
  unfold zz; by_cases h : 0 ≤ m
  · rw [if_pos h]; omega
  · rw [if_neg h]; omega
/-- A fixed number's bytes. -/
def fx (n : Nat) : List Nat := [n / 16777216, n / 65536 % 256, n / 256 % 256, n % 256]
theorem fx_mem {n : Nat} (h : n < 4294967296) : ∀ c ∈ fx n, c < 256 := by
  intro c hc
  simp only [fx, List.mem_cons, List.not_mem_nil, or_false] at hc
  omega
end Go.Proofs.Ytlldmpcamdginaa.Wire
namespace Go.Proofs.Ytlldmpcamdginaa.Wire
open Go.ChangeShapes Go.WideShapes Go.ChangeAt Go.RowKit
set_option linter.unusedVariables false

theorem info8 : (Try.prog.info? 5).map (fun i => (i.zero, i.size, i.bytes)) = some (some (.int .u8 0), 1, 1) := by kernel_rfl
/-- A row of bytes that was made since W. -/
def Own (W w : World) (v : Value) (zs : List Nat) : Prop := w.ownsRow W.heap.size 5 1 v zs.length (c8 zs)
/-- One that may be appended to without a change of what was. -/
def Acc (W w : World) (v : Value) (zs : List Nat) : Prop := (∃ A, v = .slice A zs.length zs.length ∧ Bs w A zs.length zs) ∨ Own W w v zs
theorem own_ext {w w' : World} {base : Nat} {e : TypeId} {size n : Nat} {v : Value} {xs : List Value} (h : w.ownsRow base e size v n xs) (hb : Ext w w') : w'.ownsRow base e size v n xs :=
  h.kept (row := none) ⟨hb.os, hb.tape, hb.output, hb.size, fun k hk _ => hb.block k hk⟩ (by cases hv : v.ownBlock <;> simp)
theorem Own.ext {W w w' : World} {v : Value} {zs : List Nat} (h : Own W w v zs) (hb : Ext w w') : Own W w' v zs := own_ext h hb
theorem Acc.ext {W w w' : World} {v : Value} {zs : List Nat} (h : Acc W w v zs) (hb : Ext w w') : Acc W w' v zs := by
  rcases h with ⟨A, e, h⟩ | h
  · exact .inl ⟨A, e, h.ext hb⟩
  · exact .inr (h.ext hb)
/-- Something is appended. -/
theorem wpList_acc {W w : World} {ops : Array Oper} {rest : List Oper} {o : Oper} {a : Act} {Q : Exit → Act → World → Prop} (hgd : o.guard = none) (s x : Operand) (tx : TypeId)
    (ho : o.op = .call { callee := .builtin .append, args := #[s, x], argTypes := #[29, tx] }) (v vx : Value) (zs ys : List Nat) (hs : a.eval s = v) (hx : a.eval x = vx) (hA : Acc W w v zs) (hE : Ext W w)
    (hsrc : Src Try.prog 1 tx vx ys.length (c8 ys) w) (hy : 0 < ys.length) (hb : zs.length + ys.length ≤ 140737488355328)
    (h : ∀ v' w', Own W w' v' (zs ++ ys) → Ext W w' → wpList Try.prog ops Q rest (a.put o.dst v') w') : wpList Try.prog ops Q (o :: rest) a w := by
  obtain ⟨i0, hi0, hz0, hz1, hz2⟩ := info_parts info8
  have h1 : zs.length + ys.length ≤ maxLen := by unfold maxLen; omega
  rcases hA with ⟨A, rfl, hB⟩ | hO
  · refine wpList_app_grow hgd s x 29 tx ho 5 i0 (.int .u8 0) 1 1 Try.underlying29 hi0 hz0 hz1 hz2 rfl W.heap.size A zs.length zs.length vx (c8 zs) hs hx (by rw [c8_len, Nat.mul_one]) (hB.first _) ys.length (c8 ys) hsrc (by omega) h1 (by omega) hE.size ?_
    intro v' w' h2 h3
    exact h v' w' (by unfold Own; rw [List.length_append, c8_app]; exact h2) (ext_trans hE h3)
  · refine wpList_app_own hgd s x 29 tx ho 5 i0 (.int .u8 0) 1 1 Try.underlying29 hi0 hz0 hz1 hz2 rfl W.heap.size v vx zs.length (c8 zs) hs hx hO ys.length (c8 ys) hsrc h1 (by omega) hE.size ?_
    intro v' w' h2 h3
    exact h v' w' (by unfold Own; rw [List.length_append, c8_app]; exact h2) (ext_grown hE h3 (own_ge hO))
/-- Something, or nothing, is appended to a row that was made since W. -/
theorem wpList_own {W w : World} {ops : Array Oper} {rest : List Oper} {o : Oper} {a : Act} {Q : Exit → Act → World → Prop} (hgd : o.guard = none) (s x : Operand) (tx : TypeId)
    (ho : o.op = .call { callee := .builtin .append, args := #[s, x], argTypes := #[29, tx] }) (v vx : Value) (zs ys : List Nat) (hs : a.eval s = v) (hx : a.eval x = vx) (hO : Own W w v zs) (hE : Ext W w)
    (hsrc : Src Try.prog 1 tx vx ys.length (c8 ys) w) (hb : zs.length + ys.length ≤ 140737488355328)
    (h : ∀ v' w', Own W w' v' (zs ++ ys) → Ext W w' → wpList Try.prog ops Q rest (a.put o.dst v') w') : wpList Try.prog ops Q (o :: rest) a w := by
  obtain ⟨i0, hi0, hz0, hz1, hz2⟩ := info_parts info8
  have h1 : zs.length + ys.length ≤ maxLen := by unfold maxLen; omega
  refine wpList_app_own hgd s x 29 tx ho 5 i0 (.int .u8 0) 1 1 Try.underlying29 hi0 hz0 hz1 hz2 rfl W.heap.size v vx zs.length (c8 zs) hs hx hO ys.length (c8 ys) hsrc h1 (by omega) hE.size ?_
  intro v' w' h2 h3
  exact h v' w' (by unfold Own; rw [List.length_append, c8_app]; exact h2) (ext_grown hE h3 (own_ge hO))
/-- What a put answers. -/
def Puts (w : World) (zs : List Nat) (e : Ending) (w' : World) : Prop :=
  ∃ g c, e = .returned (.slice (some ⟨g, 0, none⟩) zs.length c) ∧ zs.length ≤ c ∧ c ≤ maxLen ∧ w.heap.size ≤ g ∧ Own w w' (.slice (some ⟨g, 0, none⟩) zs.length c) zs ∧ Ext w w'
theorem puts_of {w w' : World} {zs : List Nat} {v : Value} (h : Own w w' v zs) (hE : Ext w w') (hp : 0 < zs.length) : Puts w zs (.returned v) w' := by
  obtain ⟨A, c, rfl, h1, h2, h3⟩ := own_shape h
  obtain ⟨g, rfl, h4⟩ := h3 hp
  exact ⟨g, c, rfl, h1, h2, h4, h, hE⟩
theorem apart_any (A : Option Addr) (n c : Nat) (w : World) (hnil : A = none → n = 0 ∧ c = 0) (hn : n ≤ c) (hc : c ≤ 9223372036854775807) : Calls Try.prog 62 #[.slice A n c] w fun e w' => e = .returned (.slice A n n) ∧ w = w' := by
  rcases A with _ | a
  · obtain ⟨rfl, rfl⟩ := hnil rfl
    clear hnil
    go_enter Try.func62, Try.ntmps62
    go_wp2
    go_ret
    exact ⟨rfl, rfl⟩
  · clear hnil
    go_enter Try.func62, Try.ntmps62
    go_wp2
    go_ret
    exact ⟨rfl, rfl⟩
theorem or_eq : ∀ x : Nat, x < 256 → bits BinOp.or IntKind.u8 (x : Int) 128 = ((x % 128 + 128 : Nat) : Int) := by decide +kernel
def PRel (W : World) (xs : List Nat) (n0 : Nat) (bv nv : Value) (wr : World) : Prop :=
  ∃ (ys : List Nat) (m : Nat), ys ++ vb m = vb n0 ∧ m ≤ n0 ∧ nv = .int .u64 (m : Int) ∧ Acc W wr bv (xs ++ ys) ∧ Ext W wr
theorem src_one (w : World) (y : Nat) : Src Try.prog 1 29 (.slice (some ⟨w.heap.size, 0, none⟩) 1 1) [y].length (c8 [y]) (w.alloc (.cells #[.int .u8 (y : Int)] 5)) :=
  Src.ofSlice _ Try.underlying29 _ 1 1 _ (by simp [c8]) (fun j u hu => by
    obtain ⟨hj, rfl⟩ := c8_get hu
    have : j = 0 := by simpa using hj
    subst this
    have hadd : (⟨w.heap.size, 0, none⟩ : Addr).add 0 = ⟨w.heap.size, 0, none⟩ := rfl
    rw [hadd]; simp) (c8_one _)
set_option maxHeartbeats 2000000 in
set_option maxRecDepth 100000 in
theorem put (A : Option Addr) (n c : Nat) (xs : List Nat) (n0 : Nat) (h0 : n0 < 18446744073709551616) (w : World) (hB : Bs w A n xs) (hnil : A = none → n = 0 ∧ c = 0) (hn : n ≤ c) (hc : c ≤ 9223372036854775807) (hn4 : n ≤ 4000000000) :
    Calls Try.prog 32 #[.slice A n c, .int .u64 (n0 : Int)] w (Puts w (xs ++ vb n0)) := by
  have h10 := vb_ten h0
  have HP := Lib.hid (vb_pos n0)
  have HAC : Hid (Acc w w (.slice A n n) (xs ++ [])) := Lib.hid (by rw [List.append_nil]; exact .inl ⟨A, by rw [hB.1], by rw [hB.1]; exact hB⟩)
  have hxl : xs.length ≤ 4000000000 := by rw [hB.1]; exact hn4
  have HCT := Lib.hid (apart_any A n c w hnil hn hc)
  clear h0 hB hnil hn hc hn4
  go_enter Try.func32, Try.ntmps32
  go_wp2_with fail
  refine (HCT.out).mono ?_
  rintro e w1 ⟨rfl, rfl⟩
  go_wp2_with fail
  go_loopw [0, 1] (fun bv nv wr => PRel w xs n0 bv nv wr) (fun _ nv _ => (intOf nv).toNat)
  case atStart => exact ⟨[], n0, rfl, Nat.le_refl _, rfl, HAC.out, Ext.rfl' _⟩
  case round =>
    obtain ⟨ys, m, hj, hm, rfl, hacc, ex⟩ := hrel
    have hlen : ys.length ≤ 9 := by
      have := congrArg List.length hj
      rw [List.length_append] at this
      have := vb_pos m
      omega
    have HJ := Lib.hid hj; clear hj
    have HAC := Lib.hid hacc; clear hacc
    have HE := Lib.hid ex; clear ex
    have HL : Hid ((xs ++ ys).length + 1 ≤ 140737488355328) := Lib.hid (by rw [List.length_append]; omega)
    by_cases hlt : m < 128
    · have HAC2 := Lib.hid (HAC.out.ext (ext_alloc (Ext.rfl' _) (.cells #[.int .u8 (m : Int)] 5)))
      have HE2 := Lib.hid (ext_alloc HE.out (.cells #[.int .u8 (m : Int)] 5))
      have HF : Hid (xs ++ ys ++ [m] = xs ++ vb n0) := Lib.hid (by rw [List.append_assoc, ← HJ.out, vb_small hlt])
      go_wp2_with (first | (at_builtin; refine wpList_acc (W := w) rfl (.tmp 17) (.tmp 20) 29 rfl u0 (.slice (some ⟨wr.heap.size, 0, none⟩) 1 1) (xs ++ ys) [m] rfl rfl HAC2.out HE2.out (src_one wr m) (Nat.zero_lt_one) HL.out ?_; intro v1 w1 hown1 hE1))
      rw [HF.out] at hown1
      go_ret
      exact puts_of hown1 hE1 (by rw [List.length_append]; have := HP.out; omega)
    · obtain ⟨yb, hyb⟩ : ∃ y, y = m % 128 + 128 := ⟨_, rfl⟩
      have e1 : bits BinOp.or IntKind.u8 ((m : Int) % 256) 128 = (yb : Int) := by
        have := or_eq (m % 256) (by omega)
        rw [show m % 256 % 128 = m % 128 from by omega, ← hyb] at this
        rw [← this]; rfl
      have HY := Lib.hid hyb; clear hyb
      have HAC2 := Lib.hid (HAC.out.ext (ext_alloc (Ext.rfl' _) (.cells #[.int .u8 (yb : Int)] 5)))
      have HE2 := Lib.hid (ext_alloc HE.out (.cells #[.int .u8 (yb : Int)] 5))
      have HF : Hid ((ys ++ [yb]) ++ vb (m / 128) = vb n0) := Lib.hid (by rw [List.append_assoc, ← HJ.out, vb_more hlt, HY.out]; rfl)
      go_wp2_with (first | (at_builtin; refine wpList_acc (W := w) rfl (.tmp 9) (.tmp 13) 29 rfl u0 (.slice (some ⟨wr.heap.size, 0, none⟩) 1 1) (xs ++ ys) [yb] rfl rfl HAC2.out HE2.out (src_one wr yb) (Nat.zero_lt_one) HL.out ?_; intro v1 w1 hown1 hE1))
      go_roundw
      case rel => exact ⟨ys ++ [yb], m / 128, HF.out, by omega, by go_num, .inr (by rw [← List.append_assoc]; exact hown1), hE1⟩
      case measure => simp [intOf]; omega
theorem slice_nil (w : World) (zs : List Nat) : Bs w none 0 [] := Bs.none w none
/-- Behind a put: what it has put reads so. -/
theorem Own.bs {W w : World} {A : Option Addr} {c : Nat} {zs : List Nat} (h : Own W w (.slice A zs.length c) zs) (hz : ∀ j, zs.getD j 0 < 256) : Bs w A zs.length zs := Bs.own h hz
theorem xor64 (a b : Nat) : bits .xor .u64 (a : Int) (b : Int) = ((BitVec.ofNat 64 a ^^^ BitVec.ofNat 64 b).toNat : Int) := by
  show IntKind.u64.wrap ((BitVec.ofInt 64 (a : Int) ^^^ BitVec.ofInt 64 (b : Int)).toNat : Int) = _
  rw [BitVec.ofInt_natCast, BitVec.ofInt_natCast]
  have := (BitVec.ofNat 64 a ^^^ BitVec.ofNat 64 b).isLt
  rw [IntKind.wrap_u64]
  omega
theorem zz_eq (m : Int) (h1 : -9223372036854775808 ≤ m) (h2 : m ≤ 9223372036854775807) :
    bits BinOp.xor IntKind.u64 (IntKind.u64.wrap (IntKind.u64.wrap m * 2)) (IntKind.u64.wrap (m / 9223372036854775808)) = (zz m : Int) := by
  have e : zz m = (if 0 ≤ m then 2 * m else -2 * m - 1).toNat := rfl
  simp only [IntKind.wrap_u64]
  by_cases h : 0 ≤ m
  · rw [if_pos h] at e
    have a1 : m % 18446744073709551616 * 2 % 18446744073709551616 = ((2 * m).toNat : Int) := by omega
    have a2 : m / 9223372036854775808 % 18446744073709551616 = ((0 : Nat) : Int) := by omega
    rw [a1, a2, xor64, e]
    rw [show BitVec.ofNat 64 0 = 0#64 from rfl, BitVec.xor_zero, BitVec.toNat_ofNat]
    omega
  · rw [if_neg h] at e
    have a1 : m % 18446744073709551616 * 2 % 18446744073709551616 = ((2 * m + 18446744073709551616).toNat : Int) := by omega
    have a2 : m / 9223372036854775808 % 18446744073709551616 = ((18446744073709551615 : Nat) : Int) := by omega
    rw [a1, a2, xor64, e]
    rw [show BitVec.ofNat 64 18446744073709551615 = BitVec.allOnes 64 from by decide, BitVec.xor_allOnes, BitVec.toNat_not, BitVec.toNat_ofNat]
    omega
set_option maxHeartbeats 1000000 in
theorem putText (A : Option Addr) (n c : Nat) (xs : List Nat) (s : ByteArray) (w : World) (hB : Bs w A n xs) (hnil : A = none → n = 0 ∧ c = 0) (hn : n ≤ c) (hc : c ≤ 9223372036854775807) (hn4 : n ≤ 4000000000) (hs : s.size ≤ 1000000000) :
    Calls Try.prog 34 #[.slice A n c, .string s] w (Puts w (xs ++ vb s.size ++ natsOf s)) := by
  have H := Lib.hid (put A n c xs s.size (by omega) w hB hnil hn hc hn4)
  have HX : Hid (xs.length ≤ 4000000000) := Lib.hid (by rw [hB.1]; exact hn4)
  have HV := Lib.hid (vb_ten (n := s.size) (by omega))
  have HP := Lib.hid (vb_pos s.size)
  clear hB hnil hn hc hn4
  go_enter Try.func34, Try.ntmps34
  go_wp2_with fail
  refine (H.out).mono ?_
  rintro e w1 ⟨g, c1, rfl, hc1, hc2, hg, ho, hE⟩
  have HOW := Lib.hid ho; have HE := Lib.hid hE; clear ho hE
  have HLN : Hid ((xs ++ vb s.size).length + s.size ≤ 140737488355328) := Lib.hid (by rw [List.length_append]; have := HX.out; have := HV.out; omega)
  generalize hzs : xs ++ vb s.size = zs at *
  have HZS := Lib.hid hzs; clear hzs
  have HS : Hid (Src Try.prog 1 9 (.string s) (natsOf s).length (c8 (natsOf s)) w1) := Lib.hid (by rw [natsOf_len, ← byteCells_eq]; exact Src.ofString w1 Try.underlying9 s)
  have HQ : Hid (zs.length + (natsOf s).length ≤ 140737488355328) := Lib.hid (by rw [natsOf_len]; exact HLN.out)
  go_wp2_with (first | (at_builtin; refine wpList_own (W := w) rfl (.tmp 9) (.tmp 10) 9 rfl (.slice (some ⟨g, 0, none⟩) zs.length c1) (.string s) zs (natsOf s) rfl rfl HOW.out HE.out HS.out HQ.out ?_; intro v2 w2 hown2 hE2))
  go_ret
  exact puts_of hown2 hE2 (by rw [← HZS.out, List.length_append, List.length_append]; have := HP.out; omega)
theorem src_row (w : World) (ys : List Nat) (n c : Nat) (hn : n = ys.length) : Src Try.prog 1 29 (.slice (some ⟨w.heap.size, 0, none⟩) n c) ys.length (c8 ys) (w.alloc (.cells (c8 ys).toArray 5)) := by
  subst hn
  exact Src.ofSlice _ Try.underlying29 _ _ c _ (by rw [c8_len, Nat.mul_one]) (fun j u hu => by
    have hadd : (⟨w.heap.size, 0, none⟩ : Addr).add j = ⟨w.heap.size, j, none⟩ := by unfold Addr.add; split <;> simp_all
    rw [hadd]; simpa using hu) (c8_one _)
theorem src_fx (w : World) (m : Nat) : Src Try.prog 1 29 (.slice (some ⟨w.heap.size, 0, none⟩) 4 4) (fx m).length (c8 (fx m)) (w.alloc (.cells #[.int .u8 ((m : Int) / 16777216), .int .u8 ((m : Int) / 65536 % 256), .int .u8 ((m : Int) / 256 % 256), .int .u8 ((m : Int) % 256)] 5)) := by
  have h := src_row w (fx m) 4 4 rfl
  have e : (c8 (fx m)).toArray = #[.int .u8 ((m : Int) / 16777216), .int .u8 ((m : Int) / 65536 % 256), .int .u8 ((m : Int) / 256 % 256), .int .u8 ((m : Int) % 256)] := by simp [c8, fx]
  rwa [e] at h
set_option maxHeartbeats 1000000 in
theorem putFixed (A : Option Addr) (n c : Nat) (xs : List Nat) (m : Nat) (h0 : m < 4294967296) (w : World) (hB : Bs w A n xs) (hnil : A = none → n = 0 ∧ c = 0) (hn : n ≤ c) (hc : c ≤ 9223372036854775807) (hn4 : n ≤ 4000000000) :
    Calls Try.prog 33 #[.slice A n c, .int .u32 (m : Int)] w (Puts w (xs ++ fx m)) := by
  have HAC : Hid (Acc w w (.slice A n n) xs) := Lib.hid (.inl ⟨A, by rw [hB.1], by rw [hB.1]; exact hB⟩)
  have hxl : xs.length ≤ 4000000000 := by rw [hB.1]; exact hn4
  have HCT := Lib.hid (apart_any A n c w hnil hn hc)
  clear hB hnil hn hc hn4
  go_enter Try.func33, Try.ntmps33
  go_wp2_with fail
  refine (HCT.out).mono ?_
  rintro e w1 ⟨rfl, rfl⟩
  have HSR := Lib.hid (src_fx w m)
  have HAC2 := Lib.hid (HAC.out.ext (ext_alloc (Ext.rfl' w) (.cells #[.int .u8 ((m : Int) / 16777216), .int .u8 ((m : Int) / 65536 % 256), .int .u8 ((m : Int) / 256 % 256), .int .u8 ((m : Int) % 256)] 5)))
  have HE2 := Lib.hid (ext_alloc (Ext.rfl' w) (.cells #[.int .u8 ((m : Int) / 16777216), .int .u8 ((m : Int) / 65536 % 256), .int .u8 ((m : Int) / 256 % 256), .int .u8 ((m : Int) % 256)] 5))
  have HQ : Hid (xs.length + (fx m).length ≤ 140737488355328) := Lib.hid (by show xs.length + 4 ≤ _; omega)
  have H4 : Hid (0 < (fx m).length) := Lib.hid (by show 0 < 4; omega)
  generalize fx m = ys at *
  go_wp2_with (first | (at_builtin; refine wpList_acc (W := w) rfl (.tmp 6) (.tmp 18) 29 rfl (.slice A n n) (.slice (some ⟨w.heap.size, 0, none⟩) 4 4) xs ys rfl rfl HAC2.out HE2.out HSR.out H4.out HQ.out ?_; intro v2 w2 hown2 hE2))
  go_ret
  exact puts_of hown2 hE2 (by rw [List.length_append]; have := H4.out; omega)
end Go.Proofs.Ytlldmpcamdginaa.Wire
