
import Derived.WalkKit
import Derived.ProofKit
import Derived.OpenShut
import Derived.Outline
import Derived.Lib.Hide
import Derived.Below
import Derived.ChangeSame
import Derived.Deep.Draws
import Derived.BigQuiet
import Derived.Deep.QuietTactic
import Derived.Laws.OwnMore
import Derived.Laws.Rows
import Derived.OwnWalk
import Derived.Deep.AppendSrc
import Derived.Deep.Onto
import Derived.Laws.BytesArg
import Derived.RangeFuncNested
import Derived.RangeFuncCalls
import Derived.RangeFuncLeaves
import Derived.OwnWalkIn
import Derived.OrdersHeld
import Derived.Deep.RegionHeld
set_option maxHeartbeats 16000000
set_option maxRecDepth 100000
set_option linter.all false
open Go.ChangeShapes Go.WideShapes Go.ChangeAt Go.RowKit
namespace Go.Proofs.YtidnboeihkeljaaGreatDoor
abbrev zzA := @List.setIfInBounds_toArray
abbrev zzB := @List.set_cons_zero
abbrev zzC := @List.set_cons_succ
abbrev zzD := @List.getElem?_toArray
abbrev zzE := @List.getElem?_cons_zero
abbrev zzF := @List.getElem?_cons_succ
abbrev Ext (w w' : World) : Prop := Below w.heap.size w w'
theorem Ext.rfl' (w : World) : Ext w w := Below.refl _ _
theorem ext_trans {a b c : World} (h : Ext a b) (k : Ext b c) : Ext a c := h.trans (k.mono h.size)
theorem ext_alloc {a w : World} (h : Ext a w) (o : Obj) : Ext a (w.alloc o) := h.alloc h.size o
theorem ext_drew {a w : World} (h : Ext a w) : Ext a w.drew := h.drew
theorem ext_drewN {a w : World} (h : Ext a w) (n : Nat) : Ext a (w.drewN n) := ⟨h.os, h.tape, h.output, h.size, h.block⟩
theorem ext_set {a w : World} (h : Ext a w) {p : Addr} (hp : a.heap.size ≤ p.block) (u : Value) : Ext a (w.setCell p u) := h.setCell hp u
theorem int_eq {k : IntKind} {a b : Int} (h : a = b) : Value.int k a = .int k b := by rw [h]
theorem ret_int {k : IntKind} {a b : Int} (h : a = b) : Ending.returned (.int k a) = .returned (.int k b) := by rw [h]
section
variable {H : Type} {enc : TypeId × Value → H} {P : Program}
end
end Go.Proofs.YtidnboeihkeljaaGreatDoor
namespace Go.Proofs.YtidnboeihkeljaaGreatDoor
theorem kc {a b : World} {B o : Nat} {v : Value} (hb : Ext a b) (h : a.cell? ⟨B, o, none⟩ = some v) : b.cell? ⟨B, o, none⟩ = some v :=
 (hb.cell (p := ⟨B, o, none⟩) (World.block_lt_of_cell? a _ h)).trans h
def Blk (w : World) (g : Nat) (t : TypeId) (cs : Array Value) : Prop := w.heap[g]? = some (.cells cs t (0, 0))
section
variable {w w' : World} {g : Nat} {t : TypeId} {cs : Array Value}
theorem Blk.lt (h : Blk w g t cs) : g < w.heap.size := by
 rcases Nat.lt_or_ge g w.heap.size with hl | hl
 ·exact hl
 ·unfold Blk at h; rw [Array.getElem?_eq_none hl] at h; cases h
theorem Blk.cell (h : Blk w g t cs) (i : Nat) : w.cell? ⟨g, i, none⟩ = cs[i]? := cell_of_row w g i cs t (0, 0) h
theorem Blk.frozen (h : Blk w g t cs) (i : Nat) : w.frozen? ⟨g, i, none⟩ = false := by
 unfold Blk at h
 simp [World.frozen?, h]
theorem Blk.new (w : World) (t : TypeId) (cs : Array Value) : Blk (w.alloc (.cells cs t)) w.heap.size t cs := heap_alloc_new w _
theorem Blk.new1 (w : World) (o : Obj) (t : TypeId) (cs : Array Value) : Blk ((w.alloc o).alloc (.cells cs t)) (w.heap.size + 1) t cs := by
 have := Blk.new (w.alloc o) t cs
 rwa [World.size_alloc] at this
theorem Blk.drew (h : Blk w g t cs) : Blk w.drew g t cs := h
theorem Blk.alloc (h : Blk w g t cs) (o : Obj) : Blk (w.alloc o) g t cs := (Below.heap_alloc w o g h.lt).trans h
theorem Blk.set_ (h : Blk w g t cs) (i : Nat) (u : Value) : Blk (w.setCell ⟨g, i, none⟩ u) g t (cs.setIfInBounds i u) := by
 unfold Blk at h ⊢
 simp [World.setCell, Array.getElem?_modify, h]
theorem Blk.far (h : Blk w g t cs) {p : Addr} (hp : g ≠ p.block) (u : Value) : Blk (w.setCell p u) g t cs := (Below.heap_setCell w p u g hp).trans h
theorem Blk.ext (h : Blk w g t cs) (hb : Ext w w') : Blk w' g t cs := (hb.block g h.lt).trans h
theorem Blk.two {a b : Value} (h : Blk w g t #[a, b]) : w.cell? ⟨g, 0, none⟩ = some a ∧ w.cell? ⟨g, 1, none⟩ = some b ∧ w.frozen? ⟨g, 0, none⟩ = false ∧ w.frozen? ⟨g, 1, none⟩ = false :=
 ⟨h.cell 0, h.cell 1, h.frozen 0, h.frozen 1⟩
end
end Go.Proofs.YtidnboeihkeljaaGreatDoor
namespace Go.Proofs.YtidnboeihkeljaaGreatDoor
section
variable {P : Program} {w W : World}
theorem ext_grown {a b c : World} (h : Ext a b) {row : Option Nat} (hg : b.grownBy c row) (hr : ∀ k, row = some k → a.heap.size ≤ k) : Ext a c :=
 ⟨hg.os.trans h.os, hg.tape.trans h.tape, hg.output.trans h.output, Nat.le_trans h.size hg.size, fun k hk =>
  (hg.block k (Nat.lt_of_lt_of_le hk h.size) (fun e => by have := hr k e.symm; omega)).trans (h.block k hk)⟩
theorem own_ge {base : Nat} {e : TypeId} {size n : Nat} {v : Value} {xs : List Value} (h : w.ownsRow base e size v n xs) : ∀ k, v.ownBlock = some k → base ≤ k := fun k hk => (h.lt k hk).1
theorem own_shape {base : Nat} {e : TypeId} {size n : Nat} {v : Value} {xs : List Value} (h : w.ownsRow base e size v n xs) : ∃ A c, v = .slice A n c ∧ n ≤ c ∧ c ≤ maxLen ∧ (0 < n → ∃ g, A = some ⟨g, 0, none⟩ ∧ base ≤ g) := by
 rcases h.2 with ⟨rfl, rfl⟩ | ⟨g, cap, cur, rfl, hb, _, hnc, hcm, _⟩
 ·exact ⟨none, 0, rfl, Nat.le_refl _, by unfold maxLen; omega, fun h => absurd h (by omega)⟩
 ·exact ⟨_, cap, rfl, hnc, hcm, fun _ => ⟨g, rfl, hb⟩⟩
theorem run_firstCells_own {base : Nat} {e : TypeId} {size n : Nat} {A : Option Addr} {c : Nat} {xs : List Value} (h : w.ownsRow base e size (.slice A n c) n xs) : (Builtin.firstCells size n (.slice A n c)).run P w.drew = .ok xs.toArray w.drew := by
 rcases h.2 with ⟨h1, rfl⟩ | ⟨g, cap, cur, h1, _⟩
 ·obtain ⟨rfl, _, rfl⟩ := Value.slice.inj h1
  have : xs = [] := List.eq_nil_of_length_eq_zero (by simpa using h.1)
  subst this
  exact run_firstCells_none w.drew size 0 0 0
 ·obtain ⟨rfl, _, rfl⟩ := Value.slice.inj h1
  have hc := h.cells (g := g) rfl
  exact run_firstCells_some w.drew size n _ _ _ xs h.1 (by simpa using hc)
theorem own_new (base : Nat) (e : TypeId) (z : Value) (size : Nat) (hzs : z.cells.size = size) (xs news : List Value) (n m old : Nat) (hx : xs.length = n * size) (hl : news.length = m * size) (h63 : n + m ≤ maxLen) (hbase : base ≤ w.heap.size) :
  (w.drew.alloc (.cells ((xs ++ news).toArray ++ Builtin.zeroCells z.cells (grownCap w (n + m) old e - (n + m))) e)).ownsRow base e size
   (.slice (some ⟨w.heap.size, 0, none⟩) (n + m) (grownCap w (n + m) old e)) (n + m) (xs ++ news) := by
 have hge := grownCap_ge w (n + m) old e
 have hcm : grownCap w (n + m) old e ≤ maxLen := grownCap_le_maxLen w (n + m) old e h63
 have hlen : (xs ++ news).length = (n + m) * size := by rw [List.length_append, hx, hl, Nat.add_mul]
 refine ⟨hlen, .inr ⟨w.heap.size, _, _, rfl, hbase, heap_alloc_new w.drew _, hge, hcm, ?_, ?_⟩⟩
 ·rw [Array.size_append, List.size_toArray, hlen, size_zeroCells, hzs, ← Nat.add_mul]
  congr 1; omega
 ·rw [Array.toList_append, ← hlen]
  exact List.take_left
theorem run_app_grow (t tx ty e : TypeId) (i : TypeInfo) (z : Value) (size bytes : Nat) (ht : P.underlying t = some (.slice e)) (hi : P.info? e = some i) (hz : i.zero = some z) (hsize : i.size = size) (hby : i.bytes = bytes) (hzs : z.cells.size = size)
  (A : Option Addr) (n c : Nat) (xs : List Value) (hx : xs.length = n * size) (hold : (Builtin.firstCells size n (.slice A n c)).run P w.drew = .ok xs.toArray w.drew)
  (x : Value) (m : Nat) (news : List Value) (hs : Src P size tx x m news w) (hg : c < n + m) (h63 : n + m ≤ maxLen) (hb : (n + m) * bytes ≤ 140737488355328) (base : Nat) (hbase : base ≤ w.heap.size) :
  ∃ v' w', (Builtin.append_ #[t, tx] ty #[.slice A n c, x]).run P w = .ok v' w' ∧ w'.ownsRow base e size v' (n + m) (xs ++ news) ∧ w'.ownsRow w.heap.size e size v' (n + m) (xs ++ news) ∧ ∀ row, w.grownBy w' row := by
 subst hsize hby
 have h63' : ((n + m : Nat) : Int) ≤ 9223372036854775807 := by simp only [maxLen] at h63; omega
 exact ⟨_, _, run_append_grow_src w t tx ty e i z ht hi hz A n c xs hold x m news hs hg h63' (growslice_fits hg hb),
  own_new base e z _ hzs xs news n m c hx hs.newsLen h63 hbase, own_new w.heap.size e z _ hzs xs news n m c hx hs.newsLen h63 (Nat.le_refl _),
  fun _ => ⟨rfl, rfl, rfl, by simp, fun k hk _ => Below.heap_alloc w.drew _ k hk⟩⟩
theorem run_app_own (t tx ty e : TypeId) (i : TypeInfo) (z : Value) (size bytes : Nat) (ht : P.underlying t = some (.slice e)) (hi : P.info? e = some i) (hz : i.zero = some z) (hsize : i.size = size) (hby : i.bytes = bytes) (hzs : z.cells.size = size)
  (base : Nat) (v : Value) (n : Nat) (xs : List Value) (hown : w.ownsRow base e size v n xs)
  (x : Value) (m : Nat) (news : List Value) (hs : Src P size tx x m news w) (h63 : n + m ≤ maxLen) (hb : (n + m) * bytes ≤ 140737488355328) (hbase : base ≤ w.heap.size) :
  ∃ v' w', (Builtin.append_ #[t, tx] ty #[v, x]).run P w = .ok v' w' ∧ w'.ownsRow base e size v' (n + m) (xs ++ news) ∧ w.grownBy w' v.ownBlock := by
 rcases hown.2 with ⟨rfl, rfl⟩ | ⟨g, cap, cur, rfl, hbg, hgg, hnc, hcm, hcs, htake⟩
 ·by_cases hm : m = 0
  ·subst hm
   have hn : news = [] := List.eq_nil_of_length_eq_zero (by simpa using hs.newsLen)
   have hx : xs = [] := List.eq_nil_of_length_eq_zero (by simpa using hown.1)
   subst hn hx
   refine ⟨.slice none 0 0, w, ?_, World.ownsRow_nil w base e size, ⟨rfl, rfl, rfl, Nat.le_refl _, fun _ _ _ => rfl⟩⟩
   subst hsize
   rcases hs.kind with ⟨e', hk⟩ | hk <;> simp [Builtin.append_, run_underlying ht, run_underlying hk, sizeOf, typeInfo, hi, hs.len, hs.cells]
  ·obtain ⟨v', w', h1, h2, _, h4⟩ := run_app_grow t tx ty e i z size bytes ht hi hz hsize hby hzs none 0 0 xs hown.1 (run_firstCells_own hown) x m news hs (by omega) h63 hb base hbase
   exact ⟨v', w', h1, h2, h4 _⟩
 ·by_cases hroom : n + m ≤ cap
  ·subst hsize
   have hfit : n * i.size + news.length ≤ cur.size := by rw [hs.newsLen, hcs, ← Nat.add_mul]; exact Nat.mul_le_mul_right _ hroom
   have hlen : (xs ++ news).length = (n + m) * i.size := by rw [List.length_append, hown.1, hs.newsLen, Nat.add_mul]
   have hst := run_storeCells_at P g (n * i.size) e news 0 cur w hgg (by simpa using hfit) hs.one
   simp only [Nat.add_zero] at hst
   have hr : (Builtin.append_ #[t, tx] ty #[.slice (some ⟨g, 0, none⟩) n cap, x]).run P w =
     .ok (.slice (some ⟨g, 0, none⟩) (n + m) cap) (w.setRow g (cur.toList.take (n * i.size) ++ news ++ cur.toList.drop (n * i.size + news.length)).toArray) := by
    rcases hs.kind with ⟨e', hk⟩ | hk <;> simp [Builtin.append_, run_underlying ht, run_underlying hk, sizeOf, typeInfo, hi, hs.len, hroom, hs.cells, Addr.add_lit, hst]
   refine ⟨_, _, hr, ⟨hlen, .inr ⟨g, cap, _, rfl, hbg, setRow_heap w g cur _ e _ hgg, hroom, hcm, ?_, ?_⟩⟩, ⟨rfl, rfl, rfl, by simp, fun k _ hk => setRow_other w g k _ (fun e => hk (by simp [Value.ownBlock, e]))⟩⟩
   ·simp only [List.size_toArray, List.length_append, List.length_take, List.length_drop, Array.length_toList]
    omega
   ·rw [htake, ← hlen]
    exact List.take_left
  ·obtain ⟨v', w', h1, h2, _, h4⟩ := run_app_grow t tx ty e i z size bytes ht hi hz hsize hby hzs _ n cap xs hown.1 (run_firstCells_own hown) x m news hs (by omega) h63 hb base hbase
   exact ⟨v', w', h1, h2, h4 _⟩
theorem wpList_of_append {ops : Array Oper} {rest : List Oper} {o : Oper} {a : Act} {Q : Exit → Act → World → Prop} (hgd : o.guard = none) (s x : Operand) (t tx : TypeId)
  (ho : o.op = .call { callee := .builtin .append, args := #[s, x], argTypes := #[t, tx] }) (vs vx : Value) (hs : a.eval s = vs) (hx : a.eval x = vx) {v' : Value} {w' : World}
  (hr : (Builtin.append_ #[t, tx] o.type #[vs, vx]).run P w = .ok v' w') (h : wpList P ops Q rest (a.put o.dst v') w') : wpList P ops Q (o :: rest) a w :=
 wpList_plain hgd fun K hK => by
  unfold Oper.wp execOp
  simp only [ho, resolve, invoke, builtin, Sem.run_bind, Sem.run_pure, Result.andThen_ok, List.map_toArray, List.map_cons, List.map_nil, hs, hx, hr]
  exact hK _ _ h
theorem wpList_app_own {ops : Array Oper} {rest : List Oper} {o : Oper} {a : Act} {Q : Exit → Act → World → Prop} (hgd : o.guard = none) (s x : Operand) (t tx : TypeId)
  (ho : o.op = .call { callee := .builtin .append, args := #[s, x], argTypes := #[t, tx] }) (e : TypeId) (i : TypeInfo) (z : Value) (size bytes : Nat) (ht : P.underlying t = some (.slice e)) (hi : P.info? e = some i) (hz : i.zero = some z) (hsize : i.size = size) (hby : i.bytes = bytes) (hzs : z.cells.size = size)
  (base : Nat) (v vx : Value) (n : Nat) (xs : List Value) (hs : a.eval s = v) (hx : a.eval x = vx) (hown : w.ownsRow base e size v n xs) (m : Nat) (news : List Value) (hsrc : Src P size tx vx m news w) (h63 : n + m ≤ maxLen) (hb : (n + m) * bytes ≤ 140737488355328) (hbase : base ≤ w.heap.size)
  (h : ∀ v' w', w'.ownsRow base e size v' (n + m) (xs ++ news) → w.grownBy w' v.ownBlock → wpList P ops Q rest (a.put o.dst v') w') : wpList P ops Q (o :: rest) a w := by
 obtain ⟨v', w', h1, h2, h3⟩ := run_app_own (P := P) t tx o.type e i z size bytes ht hi hz hsize hby hzs base v n xs hown vx m news hsrc h63 hb hbase
 exact wpList_of_append hgd s x t tx ho v vx hs hx h1 (h v' w' h2 h3)
theorem wpList_app_grow {ops : Array Oper} {rest : List Oper} {o : Oper} {a : Act} {Q : Exit → Act → World → Prop} (hgd : o.guard = none) (s x : Operand) (t tx : TypeId)
  (ho : o.op = .call { callee := .builtin .append, args := #[s, x], argTypes := #[t, tx] }) (e : TypeId) (i : TypeInfo) (z : Value) (size bytes : Nat) (ht : P.underlying t = some (.slice e)) (hi : P.info? e = some i) (hz : i.zero = some z) (hsize : i.size = size) (hby : i.bytes = bytes) (hzs : z.cells.size = size)
  (base : Nat) (A : Option Addr) (n c : Nat) (vx : Value) (xs : List Value) (hs : a.eval s = .slice A n c) (hx : a.eval x = vx) (hxl : xs.length = n * size) (hold : (Builtin.firstCells size n (.slice A n c)).run P w.drew = .ok xs.toArray w.drew)
  (m : Nat) (news : List Value) (hsrc : Src P size tx vx m news w) (hg : c < n + m) (h63 : n + m ≤ maxLen) (hb : (n + m) * bytes ≤ 140737488355328) (hbase : base ≤ w.heap.size)
  (h : ∀ v' w', w'.ownsRow base e size v' (n + m) (xs ++ news) → Ext w w' → wpList P ops Q rest (a.put o.dst v') w') : wpList P ops Q (o :: rest) a w := by
 obtain ⟨v', w', h1, h2, _, h4⟩ := run_app_grow (P := P) t tx o.type e i z size bytes ht hi hz hsize hby hzs A n c xs hxl hold vx m news hsrc hg h63 hb base hbase
 exact wpList_of_append hgd s x t tx ho _ vx hs hx h1 (h v' w' h2 (ext_grown (Ext.rfl' _) (h4 none) (fun _ hk => by cases hk)))
end
end Go.Proofs.YtidnboeihkeljaaGreatDoor
namespace Go.Proofs.YtidnboeihkeljaaGreatDoor
def Bs (w : World) (A : Option Addr) (n : Nat) (xs : List Nat) : Prop :=
 xs.length = n ∧ (∀ j, xs.getD j 0 < 256) ∧ (0 < n → ∃ b o, A = some ⟨b, o, none⟩ ∧ b < w.heap.size ∧ ∀ j, j < n → w.cell? ⟨b, o + j, none⟩ = some (.int .u8 (xs.getD j 0 : Nat)))
def c8 (ys : List Nat) : List Value := ys.map fun (y : Nat) => Value.int .u8 (y : Int)
theorem c8_len (ys : List Nat) : (c8 ys).length = ys.length := by simp [c8]
theorem c8_app (xs ys : List Nat) : c8 (xs ++ ys) = c8 xs ++ c8 ys := by simp [c8]
theorem c8_one (ys : List Nat) : ∀ u ∈ c8 ys, u.oneCell' = true := fun u hu => by
 obtain ⟨_, _, rfl⟩ := List.mem_map.1 hu; rfl
theorem c8_get {ys : List Nat} {j : Nat} {u : Value} (h : (c8 ys)[j]? = some u) : j < ys.length ∧ u = .int .u8 (ys.getD j 0 : Nat) := by
 unfold c8 at h
 rw [List.getElem?_map, Option.map_eq_some_iff] at h
 obtain ⟨y, hy, rfl⟩ := h
 have hj := (List.getElem?_eq_some_iff.1 hy).1
 exact ⟨hj, by rw [List.getD_eq_getElem?_getD, hy]; rfl⟩
theorem c8_at {ys : List Nat} {j : Nat} (h : j < ys.length) : (c8 ys)[j]? = some (.int .u8 (ys.getD j 0 : Nat)) := by
 unfold c8
 rw [List.getElem?_map, List.getElem?_eq_getElem h, List.getD_eq_getElem?_getD, List.getElem?_eq_getElem h]; rfl
theorem small_app {xs ys : List Nat} (hx : ∀ j, xs.getD j 0 < 256) (hy : ∀ j, ys.getD j 0 < 256) : ∀ j, (xs ++ ys).getD j 0 < 256 := fun j => by
 rw [List.getD_eq_getElem?_getD, List.getElem?_append]
 split
 ·rw [← List.getD_eq_getElem?_getD]; exact hx j
 ·rw [← List.getD_eq_getElem?_getD]; exact hy _
theorem small_mem {xs : List Nat} (h : ∀ c ∈ xs, c < 256) : ∀ j, xs.getD j 0 < 256 := fun j => by
 rw [List.getD_eq_getElem?_getD]
 by_cases hj : j < xs.length
 ·rw [List.getElem?_eq_getElem hj]; exact h _ (List.getElem_mem hj)
 ·rw [List.getElem?_eq_none (by omega)]; simp
theorem mem_small {xs : List Nat} (h : ∀ j, xs.getD j 0 < 256) : ∀ c ∈ xs, c < 256 := fun c hc => by
 obtain ⟨j, hj, rfl⟩ := List.getElem_of_mem hc
 have := h j
 rwa [List.getD_eq_getElem?_getD, List.getElem?_eq_getElem hj] at this
section
variable {w w' : World} {A : Option Addr} {n : Nat} {xs : List Nat}
theorem Bs.ext (h : Bs w A n xs) (hb : Ext w w') : Bs w' A n xs :=
 ⟨h.1, h.2.1, fun hn => by
  obtain ⟨b, o, e, hl, hc⟩ := h.2.2 hn
  exact ⟨b, o, e, Nat.lt_of_lt_of_le hl hb.size, fun j hj => (hb.cell (p := ⟨b, o + j, none⟩) hl).trans (hc j hj)⟩⟩
theorem Bs.kept (h : Bs w A n xs) {row : Option Nat} (hg : w.grownBy w' row) (hne : ∀ a, A = some a → some a.block ≠ row) : Bs w' A n xs :=
 ⟨h.1, h.2.1, fun hn => by
  obtain ⟨b, o, e, hl, hc⟩ := h.2.2 hn
  exact ⟨b, o, e, Nat.lt_of_lt_of_le hl hg.size, fun j hj => hg.cell (hc j hj) (by have := hne _ e; exact this)⟩⟩
theorem Bs.none (w : World) (A : Option Addr) : Bs w A 0 [] := ⟨rfl, fun j => by simp, fun h => absurd h (by omega)⟩
theorem Bs.take (h : Bs w A n xs) {m : Nat} (hm : m ≤ n) : Bs w A m (xs.take m) := by
 have g : ∀ j, j < m → (xs.take m).getD j 0 = xs.getD j 0 := fun j hj => by simp [List.getD_eq_getElem?_getD, hj]
 refine ⟨by rw [List.length_take, h.1]; omega, fun j => ?_, fun hn => ?_⟩
 ·by_cases hj : j < m
  ·rw [g j hj]; exact h.2.1 j
  ·rw [List.getD_eq_getElem?_getD, List.getElem?_eq_none (by rw [List.length_take]; omega)]; simp
 ·obtain ⟨b, o, e, hl, hc⟩ := h.2.2 (by omega)
  exact ⟨b, o, e, hl, fun j hj => by rw [hc j (by omega), g j hj]⟩
theorem Bs.own {base : Nat} {e : TypeId} {c : Nat} (h : w.ownsRow base e 1 (.slice A n c) n (c8 xs)) (hx : ∀ j, xs.getD j 0 < 256) : Bs w A n xs := by
 have hl : xs.length = n := by have := h.1; rwa [c8_len, Nat.mul_one] at this
 refine ⟨hl, hx, fun hn => ?_⟩
 rcases h.2 with ⟨_, rfl⟩ | ⟨g, cap, cur, h1, _⟩
 ·omega
 ·obtain ⟨rfl, _, rfl⟩ := Value.slice.inj h1
  refine ⟨g, 0, rfl, (h.lt g rfl).2, fun j hj => ?_⟩
  have := h.cellAt j (by omega)
  rw [Nat.zero_add, this, c8_at (by omega)]
theorem Bs.src {P : Program} {tx e' : TypeId} (h : Bs w A n xs) (hk : P.underlying tx = some (.slice e')) (c : Nat) : Src P 1 tx (.slice A n c) n (c8 xs) w := by
 rcases Nat.eq_zero_or_pos n with rfl | hp
 ·have : xs = [] := List.eq_nil_of_length_eq_zero h.1
  subst this
  rcases A with _ | a
  ·exact Src.ofNil w hk c
  ·exact Src.ofSlice w hk a 0 c [] (by simp) (fun j u hu => by simp at hu) (fun u hu => by cases hu)
 ·obtain ⟨b, o, rfl, _, hc⟩ := h.2.2 hp
  refine Src.ofSlice w hk _ n c (c8 xs) (by rw [c8_len, h.1, Nat.mul_one]) (fun j u hu => ?_) (c8_one xs)
  obtain ⟨hj, rfl⟩ := c8_get hu
  have hadd : (⟨b, o, Option.none⟩ : Addr).add j = ⟨b, o + j, Option.none⟩ := by unfold Addr.add; split <;> simp_all
  rw [hadd]
  exact hc j (by rw [h.1] at hj; exact hj)
theorem Bs.first {P : Program} (h : Bs w A n xs) (c : Nat) : (Builtin.firstCells 1 n (.slice A n c)).run P w.drew = .ok (c8 xs).toArray w.drew := by
 rcases Nat.eq_zero_or_pos n with rfl | hp
 ·have : xs = [] := List.eq_nil_of_length_eq_zero h.1
  subst this
  rcases A with _ | a
  ·exact run_firstCells_none w.drew 1 0 0 c
  ·exact run_firstCells_some w.drew 1 0 _ _ _ [] (by simp) (fun j u hu => by simp at hu)
 ·obtain ⟨b, o, rfl, _, hc⟩ := h.2.2 hp
  refine run_firstCells_some w.drew 1 n _ _ _ _ (by rw [c8_len, h.1, Nat.mul_one]) (fun j u hu => ?_)
  obtain ⟨hj, rfl⟩ := c8_get hu
  have hadd : (⟨b, o, Option.none⟩ : Addr).add j = ⟨b, o + j, Option.none⟩ := by unfold Addr.add; split <;> simp_all
  rw [hadd]
  have := hc j (by rw [h.1] at hj; exact hj)
  simpa using this
def strOf (xs : List Nat) : ByteArray := ⟨(xs.map UInt8.ofNat).toArray⟩
theorem strOf_nums (xs : List Nat) : strOfNums (xs.map fun (x : Nat) => (x : Int)) = strOf xs := by
 unfold strOfNums strOf
 rw [List.map_map]; rfl
theorem strOf_size (xs : List Nat) : (strOf xs).size = xs.length := by simp [strOf, ByteArray.size]
theorem str_ne {a b : ByteArray} (h : a ≠ b) : ¬ a.toList = b.toList := fun e => h (by
 rw [ByteArray.toList_eq, ByteArray.toList_eq] at e
 exact ByteArray.ext (Array.ext' e))
theorem strOf_inj {xs ys : List Nat} (hx : ∀ j, xs.getD j 0 < 256) (hy : ∀ j, ys.getD j 0 < 256) (h : strOf xs = strOf ys) : xs = ys := by
 have h1 : xs.map UInt8.ofNat = ys.map UInt8.ofNat := by
  have := congrArg (fun s => s.data.toList) h
  simpa [strOf] using this
 have h2 := congrArg (List.map UInt8.toNat) h1
 have key : ∀ zs : List Nat, (∀ j, zs.getD j 0 < 256) → (zs.map UInt8.ofNat).map UInt8.toNat = zs := fun zs hz => by
  rw [List.map_map]
  conv => rhs; rw [← List.map_id zs]
  refine List.map_congr_left fun c hc => ?_
  have := mem_small hz c hc
  show (UInt8.ofNat c).toNat = c
  rw [UInt8.toNat_ofNat', Nat.mod_eq_of_lt this]
 rwa [key xs hx, key ys hy] at h2
theorem Bs.conv {P : Program} (h : Bs w A n xs) (src e dst : TypeId) (hs : P.underlying src = some (.slice e)) (he : P.underlying e = some (.int .u8)) (hd : P.underlying dst = some .string) (c : Nat) :
  (convert src dst (.slice A n c)).run P w = .ok (.string (strOf xs)) w := by
 rcases Nat.eq_zero_or_pos n with rfl | hp
 ·have : xs = [] := List.eq_nil_of_length_eq_zero h.1
  subst this
  rcases A with _ | a
  ·exact run_convert_bytes_nil w src e hs he 0 c dst hd
  ·have := run_convert_bytes_back w src dst e a c [] hs he hd (fun j hj => absurd hj (by simp))
   exact this
 ·obtain ⟨b, o, rfl, _, hc⟩ := h.2.2 hp
  have := run_convert_bytes_arg (P := P) w src e hs he b o n c (xs.map fun (x : Nat) => (x : Int)) (by rw [List.length_map]; exact h.1) (fun i hi => by
   have hl := h.1
   rw [hc i hi, List.getD_eq_getElem?_getD, List.getD_eq_getElem?_getD, List.getElem?_map, List.getElem?_eq_getElem (by omega)]; rfl) dst hd
  rwa [strOf_nums] at this
def natsOf (s : ByteArray) : List Nat := s.data.toList.map UInt8.toNat
theorem natsOf_small (s : ByteArray) : ∀ j, (natsOf s).getD j 0 < 256 := small_mem fun c hc => by
 obtain ⟨b, _, rfl⟩ := List.mem_map.1 hc
 exact b.toNat_lt
theorem natsOf_len (s : ByteArray) : (natsOf s).length = s.size := by
 unfold natsOf
 rw [List.length_map, Array.length_toList]; rfl
theorem byteCells_eq (s : ByteArray) : byteCells s = c8 (natsOf s) := by
 unfold byteCells c8 natsOf
 rw [List.map_map]; rfl
theorem strOf_nats (s : ByteArray) : strOf (natsOf s) = s := by
 apply ByteArray.ext
 unfold strOf natsOf
 rw [List.map_map]
 have : (UInt8.ofNat ∘ UInt8.toNat) = id := by funext b; simp
 rw [this, List.map_id]
theorem nats_strOf {xs : List Nat} (hx : ∀ j, xs.getD j 0 < 256) : natsOf (strOf xs) = xs :=
 strOf_inj (natsOf_small _) hx (strOf_nats _)
end
def IsRow (w : World) (a : Option Addr) (len cap : Nat) (zs : List Int) : Prop :=
 (a = none ∧ len = 0 ∧ cap = 0 ∧ zs = []) ∨
 ∃ x, a = some x ∧ len ≤ cap ∧ cap ≤ maxLen ∧ zs.length = cap ∧ (∀ i, i < zs.length → w.cell? (x.add i) = some (.int .u8 (zs.getD i 0))) ∧ ∀ n ∈ zs, (Lit.int .u8 n).wf = true
end Go.Proofs.YtidnboeihkeljaaGreatDoor
namespace Go.Proofs.YtidnboeihkeljaaGreatDoor.Wire
def vb (n : Nat) : List Nat := if h : n < 128 then [n] else (n % 128 + 128) :: vb (n / 128)
termination_by n
decreasing_by omega
theorem vb_small {n : Nat} (h : n < 128) : vb n = [n] := by rw [vb, dif_pos h]
theorem vb_more {n : Nat} (h : ¬ n < 128) : vb n = (n % 128 + 128) :: vb (n / 128) := by rw [vb, dif_neg h]
theorem vb_pos (n : Nat) : 1 ≤ (vb n).length := by
 by_cases h1 : n < 128
 ·rw [vb_small h1]; simp
 ·rw [vb_more h1]; simp
theorem vb_len (k : Nat) : ∀ n, n < 128 ^ (k + 1) → (vb n).length ≤ k + 1 := by
 induction k with
 | zero => intro n h; rw [vb_small (by simpa using h)]; simp
 | succ k ih =>
  intro n h
  by_cases h1 : n < 128
  ·rw [vb_small h1]; simp
  ·rw [vb_more h1, List.length_cons]
   have := ih (n / 128) (by
    rw [Nat.pow_succ] at h
    exact Nat.div_lt_of_lt_mul (by rw [Nat.mul_comm]; exact h))
   omega
theorem vb_ten {n : Nat} (h : n < 18446744073709551616) : (vb n).length ≤ 10 := vb_len 9 n (Nat.lt_trans h (by decide))
theorem vb_mem (n : Nat) : ∀ c ∈ vb n, c < 256 := by
 induction n using Nat.strongRecOn with
 | _ n ih =>
  intro c hc
  by_cases h1 : n < 128
  ·rw [vb_small h1] at hc; simp at hc; omega
  ·rw [vb_more h1] at hc
   rcases List.mem_cons.1 hc with rfl | hc
   ·omega
   ·exact ih (n / 128) (by omega) c hc
theorem vb_byte (n : Nat) : ∀ j, (vb n).getD j 0 < 256 := small_mem (vb_mem n)
inductive VR where
 | short
 | form
 | ok (v k : Nat)
def vr (size acc : Nat) : List Nat → VR
 | [] => .short
 | c :: cs =>
  if (size = 9 ∧ 1 < c) ∨ (0 < size ∧ c = 0) then .form
  else if c < 128 then .ok (acc + c * 128 ^ size) (size + 1)
  else vr (size + 1) (acc + (c - 128) * 128 ^ size) cs
theorem pow_split {s : Nat} (h : s ≤ 8) : 2 ^ (64 - 7 * s) = 128 * 2 ^ (64 - 7 * (s + 1)) := by
 rw [show 64 - 7 * s = 7 + (64 - 7 * (s + 1)) from by omega, Nat.pow_add]
theorem pow_eight {s : Nat} (h : s ≤ 8) : 128 < 2 ^ (64 - 7 * s) := by
 have : 2 ^ 8 ≤ 2 ^ (64 - 7 * s) := Nat.pow_le_pow_right (by omega) (by omega)
 omega
theorem vr_vb (m : Nat) : ∀ (size acc : Nat) (ys : List Nat), size ≤ 9 → m < 2 ^ (64 - 7 * size) → (0 < size → 0 < m) → vr size acc (vb m ++ ys) = .ok (acc + m * 128 ^ size) (size + (vb m).length) := by
 induction m using Nat.strongRecOn with
 | _ m ih =>
  intro size acc ys hs hm hz
  by_cases h1 : m < 128
  ·rw [vb_small h1]
   show vr size acc (m :: ys) = _
   rw [vr, if_neg, if_pos h1]
   ·rfl
   ·rintro (⟨rfl, h⟩ | ⟨h, rfl⟩)
    ·simp at hm; omega
    ·exact absurd (hz h) (by omega)
  ·have h8 : size ≤ 8 := by
    rcases Nat.lt_or_ge 8 size with h | h
    ·obtain rfl : size = 9 := by omega
     simp at hm; omega
    ·exact h
   rw [vb_more h1]
   show vr size acc ((m % 128 + 128) :: (vb (m / 128) ++ ys)) = _
   rw [vr, if_neg (by omega), if_neg (by omega), ih (m / 128) (by omega) _ _ _ (by omega) _ (by omega)]
   ·rw [List.length_cons]
    congr 1
    ·rw [Nat.add_sub_cancel, Nat.pow_succ, Nat.add_assoc, ← Nat.mul_assoc, Nat.mul_right_comm, ← Nat.add_mul]
     congr 2
     omega
    ·omega
   ·rw [pow_split h8] at hm; omega
theorem vr_put {m : Nat} (h : m < 18446744073709551616) (ys : List Nat) : vr 0 0 (vb m ++ ys) = .ok m (vb m).length := by
 rw [vr_vb m 0 0 ys (by omega) (by simpa using h) (by omega)]
 simp
theorem vr_of (xs : List Nat) : ∀ (size acc v k : Nat), (∀ c ∈ xs, c < 256) → size ≤ 9 → vr size acc xs = .ok v k →
  ∃ m, v = acc + m * 128 ^ size ∧ k = size + (vb m).length ∧ vb m = xs.take (vb m).length ∧ m < 2 ^ (64 - 7 * size) ∧ (0 < size → 0 < m) := by
 induction xs with
 | nil => intro size acc v k _ _ h; cases h
 | cons c cs ih =>
  intro size acc v k hb hs h
  have hc := hb c (by simp)
  rw [vr] at h
  by_cases h1 : (size = 9 ∧ 1 < c) ∨ (0 < size ∧ c = 0)
  ·rw [if_pos h1] at h; cases h
  ·rw [if_neg h1] at h
   by_cases h2 : c < 128
   ·rw [if_pos h2] at h
    cases h
    refine ⟨c, rfl, by rw [vb_small h2]; rfl, by rw [vb_small h2]; rfl, ?_, by omega⟩
    by_cases h9 : size = 9
    ·subst h9; simp; omega
    ·have := pow_eight (s := size) (by omega); omega
   ·rw [if_neg h2] at h
    have h8 : size ≤ 8 := by omega
    obtain ⟨m, e1, e2, e3, e4, e5⟩ := ih (size + 1) _ v k (fun d hd => hb d (by simp [hd])) (by omega) h
    have hm0 := e5 (by omega)
    have hd1 : ((c - 128) + 128 * m) % 128 = c - 128 := by omega
    have hd2 : ((c - 128) + 128 * m) / 128 = m := by omega
    have hv : vb ((c - 128) + 128 * m) = c :: vb m := by
     rw [vb_more (by omega), hd1, hd2, show c - 128 + 128 = c from by omega]
    refine ⟨(c - 128) + 128 * m, ?_, ?_, ?_, ?_, by omega⟩
    ·rw [e1, Nat.add_mul, Nat.pow_succ]
     rw [show 128 * m * 128 ^ size = m * (128 ^ size * 128) from by rw [Nat.mul_comm 128 m, Nat.mul_assoc, Nat.mul_comm 128]]
     omega
    ·rw [hv, List.length_cons]; omega
    ·rw [hv, List.length_cons, List.take_succ_cons, ← e3]
    ·rw [pow_split h8]; omega
theorem vr_ok {xs : List Nat} {v k : Nat} (hb : ∀ c ∈ xs, c < 256) (h : vr 0 0 xs = .ok v k) : vb v = xs.take k ∧ k = (vb v).length ∧ v < 18446744073709551616 ∧ k ≤ xs.length := by
 obtain ⟨m, e1, e2, e3, e4, _⟩ := vr_of xs 0 0 v k hb (by omega) h
 have hv : v = m := by simpa using e1
 subst hv
 have hk : k = (vb v).length := by omega
 refine ⟨by rw [hk]; exact e3, hk, by simpa using e4, ?_⟩
 have := congrArg List.length e3
 rw [List.length_take] at this
 omega
def zz (m : Int) : Nat := (if 0 ≤ m then 2 * m else -2 * m - 1).toNat
def uz (n : Nat) : Int := if n % 2 = 0 then (n / 2 : Nat) else -((n / 2 : Nat) : Int) - 1
def fx (n : Nat) : List Nat := [n / 16777216, n / 65536 % 256, n / 256 % 256, n % 256]
theorem fx_mem {n : Nat} (h : n < 4294967296) : ∀ c ∈ fx n, c < 256 := by
 intro c hc
 simp only [fx, List.mem_cons, List.not_mem_nil, or_false] at hc
 omega
end Go.Proofs.YtidnboeihkeljaaGreatDoor.Wire
namespace Go.Proofs.YtidnboeihkeljaaGreatDoor
def Plainly (K : Act → World → Prop) : Exit → Act → World → Prop
 | .normal, a, w => K a w
 | _, _, _ => False
theorem plainly_in (K : Act → World → Prop) : ¬ LetsOut (Plainly K) := fun ⟨_, _, h⟩ => h
def noDefer (ops : Array Oper) : Bool := ops.all fun o => match o.op with | .defer _ => false | _ => true
theorem noDefer_at {ops : Array Oper} (h : noDefer ops = true) {i : Nat} {o : Oper} (ho : ops[i]? = some o) : ∀ c, o.op ≠ .defer c := fun c e => by
 have h1 := Array.all_eq_true.1 h i (Array.getElem?_eq_some_iff.1 ho).1
 rw [(Array.getElem?_eq_some_iff.1 ho).2, e] at h1
 cases h1
section
variable {n : Nat} {P : Program} {l : Nat} {ops : Array Oper} {K : Act → World → Prop}
theorem rowsIn_of {n : Nat} {row : String} {args : Array Value} {w : World} {R : Value → World → Prop} (h : Rows P row args w R) : RowsIn (Fence.wide.inRound l) n P row args w R :=
 fun c cs _ => let ⟨v, w', r, s⟩ := h c cs; ⟨v, w', r, stepsIn_wide.2 s⟩
theorem opIn_of {o : Oper} {a : Act} {w : World} {K' : Act → World → Prop} (hd : ∀ c, o.op ≠ .defer c) (h : o.wp P a w K' (Plainly K)) : o.wpIn (Fence.wide.inRound l) n P a w K' (Plainly K) := by
 unfold Oper.wp at h
 unfold Oper.wpIn
 refine ⟨fun f _ => trivial, ?_⟩
 rw [Oper.semAt_plain _ _ _ hd]
 generalize (execOp a.eval o).run P w = r at *
 cases r with
 | ok x w' =>
  cases x <;> simp only [Oper.upon, Oper.uponIn] at h ⊢ <;>
   first
    | exact h
    | exact ⟨fun e => (by cases e), CallsIn.inRound l (callsIn_wide.2 (Calls.mono h (fun e w'' he => by cases e <;> exact he)))⟩
    | exact ⟨fun e => (by cases e), rowsIn_of h⟩
 | halt x w' => cases x <;> simp only [Oper.upon, Oper.uponIn] at h ⊢ <;> exact h
theorem wpOpIn_of (hnd : noDefer ops = true) {i : Nat} {K' K2 : Act → World → Prop} {a : Act} {w : World} (h : wpOp P ops (Plainly K) i K' a w) (hk : ∀ a w, K' a w → K2 a w) : wpOpIn (Fence.wide.inRound l) n P ops (Plainly K) i K2 a w := by
 have h := wpOp_mono hk h
 unfold wpOp at h
 unfold wpOpIn
 cases ho : ops[i]? with
 | none => simpa [ho] using h
 | some o =>
  simp only [ho] at h ⊢
  split
  ·rename_i hw
   simp only [hw, if_true] at h
   rcases h with h | ⟨_, h⟩
   ·exact opIn_of (noDefer_at hnd ho) h
   ·exact (plainly_in K h).elim
  ·rename_i hw
   simp only [hw] at h
   exact ⟨fun f _ => trivial, h⟩
theorem wpAnyIn_of (hnd : noDefer ops = true) {md : Region.Mode} : ∀ (fuel : Nat) (listed : Array Bool) (a : Act) (w : World), wpAny P md ops (Plainly K) fuel listed a w → wpAnyIn (Fence.wide.inRound l) n P md ops (Plainly K) fuel listed a w
 | 0, _, _, _, h => h
 | fuel + 1, _, _, _, h => ⟨h.1, fun i hi => wpOpIn_of hnd (h.2 i hi) (fun a' w' h' => wpAnyIn_of hnd fuel _ a' w' h')⟩
theorem plainly_mono {F : Fence} {c : Code} {a : Act} {w : World} {Q' : Exit → Act → World → Prop} (h : c.wpIn F n P (Plainly K) a w) : c.wpIn F n P (Exit.then K Q') a w :=
 wpIn_mono h fun e a w hq => by cases e <;> first | exact hq | exact hq.elim
theorem region_round {id : Nat} {a : Act} {w : World} {Q' : Exit → Act → World → Prop} {S : World → Prop} {os : List Oper} (hm : P.follows .mixedOrders = true) (hnd : noDefer os.toArray = true)
  (h : wpAnyH P .any os.toArray (Plainly K) S os.toArray.size (Array.replicate os.toArray.size false) a w.drew) : (Code.region id os.toArray true).wpIn (Fence.wide.inRound l) n P (Exit.then K Q') a w :=
 plainly_mono (wpIn_region_any hm (wpAnyIn_of hnd _ _ _ _ (wpAny_of_held _ _ _ _ h)))
theorem wanted_append {w : World} {o : Oper} {a : Act} {K' : Act → World → Prop} {Q : Exit → Act → World → Prop} {y : Nat → Option Bool} {X : Prop} (hgd : o.guard = none) (s x : Operand) (t tx : TypeId)
  (ho : o.op = .call { callee := .builtin .append, args := #[s, x], argTypes := #[t, tx] }) (vs vx : Value) (hs : a.eval s = vs) (hx : a.eval x = vx) {v' : Value} {w' : World}
  (hr : (Builtin.append_ #[t, tx] o.type #[vs, vx]).run P w = .ok v' w') (h : K' (a.put o.dst v') w') : if Region.wanted o y = true then Oper.wp P o a w K' Q else X := by
 rw [if_pos (by simp [Region.wanted, hgd])]
 unfold Oper.wp execOp
 simp only [ho, resolve, invoke, builtin, Sem.run_bind, Sem.run_pure, Result.andThen_ok, List.map_toArray, List.map_cons, List.map_nil, hs, hx, hr]
 exact h
end
end Go.Proofs.YtidnboeihkeljaaGreatDoor
