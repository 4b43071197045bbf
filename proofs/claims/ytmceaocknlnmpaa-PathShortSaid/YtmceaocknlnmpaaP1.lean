/- Small laws that all texts of this seat use: worlds that have only grown, the row's last step. -/
import Derived.WalkKit
import Derived.ProofKit
import Derived.OpenShut
import Derived.Outline
import Derived.Lib.Hide
import Derived.Below
import Derived.ChangeSame
import Derived.Deep.Draws
import Derived.BigQuiet
import Derived.Deep.QuietTactic
import Derived.Laws.OwnMore
import Derived.Laws.Rows
import Derived.OwnWalk
import Derived.Deep.AppendSrc
import Derived.Deep.Onto
import Derived.Laws.Tables
import Derived.Deep.Slices
import Derived.Deep.Fields
import Derived.WideShapes
namespace Go.Proofs.Ytmceaocknlnmpaa
open Go.ChangeShapes Go.WideShapes Go.ChangeAt Go.RowKit
/-- What was there is as it was. -/
abbrev Ext (w w' : World) : Prop := Below w.heap.size w w'
theorem Ext.rfl' (w : World) : Ext w w := Below.refl _ _
theorem ext_trans {a b c : World} (h : Ext a b) (k : Ext b c) : Ext a c := h.trans (k.mono h.size)
theorem ext_alloc {a w : World} (h : Ext a w) (o : Obj) : Ext a (w.alloc o) := h.alloc h.size o
theorem ext_drew {a w : World} (h : Ext a w) : Ext a w.drew := h.drew
theorem ext_drewN {a w : World} (h : Ext a w) (n : Nat) : Ext a (w.drewN n) := ⟨h.os, h.tape, h.output, h.size, h.block⟩
theorem ext_set {a w : World} (h : Ext a w) {p : Addr} (hp : a.heap.size ≤ p.block) (u : Value) : Ext a (w.setCell p u) := h.setCell hp u
theorem ecell {W w1 : World} (hb : Ext W w1) : (∀ b o, b < W.heap.size → w1.cell? ⟨b, o, none⟩ = W.cell? ⟨b, o, none⟩) ∧ (∀ b o, b < W.heap.size → w1.frozen? ⟨b, o, none⟩ = W.frozen? ⟨b, o, none⟩) :=
  ⟨fun b o h => hb.cell (p := ⟨b, o, none⟩) h, fun b o h => hb.frozen (p := ⟨b, o, none⟩) h⟩
theorem int_eq {k : IntKind} {a b : Int} (h : a = b) : Value.int k a = .int k b := by rw [h]
theorem ret_int {k : IntKind} {a b : Int} (h : a = b) : Ending.returned (.int k a) = .returned (.int k b) := by rw [h]
section
variable {H : Type} {enc : TypeId × Value → H} {P : Program}
theorem post_of_ext {f : Func} {s : ChangeSpec} {apart fresh handsOn again : Bool} {W W' : World} {args : Array Value} {v : Value} {ds gs : List (DataW H)} {before pa pv : List MemPlace}
    (hW : DataW.Whole enc P f.params.toList s.vars apart W args.toList ds gs before)
    (hres : ∀ (b : Nat) (sp : Nat → Bool) (hd : Bool), DataW.TrodAll enc P W' b sp hd f.resultTypes.toList (v.resultList f.resultTypes.size) (s.fn H (ds ++ gs)).results [])
    (hargs : ∀ sp : Nat → Bool, (∀ p ∈ before, sp p.block = true) → DataW.TrodAll enc P W' 0 sp true f.params.toList args.toList (s.fn H (ds ++ gs)).args pa)
    (hvars : ∀ sp : Nat → Bool, (∀ p ∈ before, sp p.block = true) → DataW.TrodVars enc P W' sp s.vars (s.fn H (ds ++ gs)).vars pv)
    (hps : before = pa ++ pv) (hb : Ext W W')
    (hok : ∀ (j : Nat) (t : TypeId) (r : Value), f.resultTypes[j]? = some t → (v.resultList f.resultTypes.size)[j]? = some r → Value.okWide P W' .any 0 t r) :
    s.post enc P f apart fresh handsOn again W args v W' := by
  have hlt : ∀ p ∈ before, p.block < W.heap.size := fun p hp => hW.lt p hp
  have hold : ∀ p ∈ before, (fun b => decide (b < W.heap.size)) p.block = true := fun p hp => by simpa using hlt p hp
  refine ⟨ds, gs, before, [], pa, pv, hW, hres _ _ _, hargs _ hold, hvars _ hold, World.keptBut_mono (fun p hp => ⟨hp, ?_⟩) (hb.frame (· ∈ before)), fun _ => ?_⟩
  · rw [hps, List.mem_append] at hp
    exact Or.inr hp
  · obtain ⟨_, _, _, _, _, hz, hn⟩ := hW
    refine ⟨hok, _, _, ([] ++ pa) ++ pv, ⟨[] ++ pa, pv, trodAll_append (hargs _ (fun _ _ => rfl)) (hres _ _ _), hvars _ (fun _ _ => rfl), rfl, ?_, ?_⟩, ?_⟩
    · intro b off hp
      have hin : MemPlace.cell b off ∈ before := by rw [hps]; simpa using hp
      rw [hb.frozen (hlt _ hin)]
      exact hz b off hin
    · intro ha
      have := hn ha
      rw [hps] at this
      simpa using this
    · intro p hp _
      rw [hps]
      simpa using hp
end
end Go.Proofs.Ytmceaocknlnmpaa
namespace Go.Proofs.Ytmceaocknlnmpaa.Grid
set_option linter.unusedVariables false

/-- How far tiles are apart, of a map of W columns. -/
def far (W a b : Nat) : Nat := (a % W - b % W) + (b % W - a % W) + ((a / W - b / W) + (b / W - a / W))
theorem far_self (W a : Nat) : far W a a = 0 := by unfold far; omega
theorem far_comm (W a b : Nat) : far W a b = far W b a := by unfold far; omega
/-- The tiles below k that are not farther. -/
def upto (W t : Nat) (f : Int) (k : Nat) : List Nat := (List.range k).filter fun u => decide ((far W t u : Int) ≤ f)
theorem upto_zero (W t : Nat) (f : Int) : upto W t f 0 = [] := rfl
theorem upto_yes {W t k : Nat} {f : Int} (h : (far W t k : Int) ≤ f) : upto W t f (k + 1) = upto W t f k ++ [k] := by
  unfold upto; rw [List.range_succ, List.filter_append]; simp [h]
theorem upto_no {W t k : Nat} {f : Int} (h : ¬ (far W t k : Int) ≤ f) : upto W t f (k + 1) = upto W t f k := by
  unfold upto
  rw [List.range_succ, List.filter_append]
  have : List.filter (fun u => decide ((far W t u : Int) ≤ f)) [k] = [] := by rw [List.filter_eq_nil_iff]; intro a ha; rw [List.mem_singleton.1 ha]; simpa using h
  rw [this, List.append_nil]
theorem upto_skip {W t k : Nat} {f : Int} : ∀ m, k ≤ m → (∀ u, k ≤ u → u < m → ¬ (far W t u : Int) ≤ f) → upto W t f m = upto W t f k := by
  intro m
  induction m with
  | zero =>
    intro h _
    have e : k = 0 := by omega
    rw [e]
  | succ m ih =>
    intro h hn
    by_cases e : k = m + 1
    · rw [e]
    · rw [upto_no (hn m (by omega) (by omega)), ih (by omega) (fun u h1 h2 => hn u h1 (by omega))]
theorem upto_len (W t : Nat) (f : Int) (k : Nat) : (upto W t f k).length ≤ k := by
  unfold upto; have := List.length_filter_le (fun u => decide ((far W t u : Int) ≤ f)) (List.range k); rw [List.length_range] at this; exact this
theorem upto_mem {W t k u : Nat} {f : Int} : u ∈ upto W t f k ↔ u < k ∧ (far W t u : Int) ≤ f := by simp [upto, List.mem_filter]
theorem upto_neg {W t k : Nat} {f : Int} (h : f < 0) : upto W t f k = [] := by
  unfold upto; rw [List.filter_eq_nil_iff]; intro a _; simp; omega
theorem div_lt' {W H u : Nat} (hW : 0 < W) (h : u < W * H) : u / W < H := (Nat.div_lt_iff_lt_mul hW).2 (by rw [Nat.mul_comm]; exact h)
theorem far_le {W H a b : Nat} (hW : 0 < W) (ha : a < W * H) (hb : b < W * H) : far W a b + 2 ≤ W + H := by
  have h1 := Nat.mod_lt a hW; have h2 := Nat.mod_lt b hW
  have h3 := div_lt' hW ha; have h4 := div_lt' hW hb
  unfold far
  generalize a % W = x at *; generalize b % W = x2 at *; generalize a / W = y at *; generalize b / W = y2 at *
  omega
/-- A far limit is as a lower one. -/
theorem upto_min {W H t : Nat} {f : Int} (hW : 0 < W) (ht : t < W * H) : upto W t (min f ((W : Int) + (H : Int))) (W * H) = upto W t f (W * H) := by
  unfold upto
  refine List.filter_congr (fun u hu => ?_)
  have hu' := List.mem_range.1 hu
  have := far_le hW ht hu'
  rw [decide_eq_decide]
  omega
theorem rc_div {W r c : Nat} (h : c < W) : (r * W + c) / W = r := by
  rw [Nat.mul_comm, Nat.mul_add_div (by omega), Nat.div_eq_of_lt h, Nat.add_zero]
theorem rc_mod {W r c : Nat} (h : c < W) : (r * W + c) % W = c := by
  rw [Nat.mul_comm, Nat.mul_add_mod, Nat.mod_eq_of_lt h]
theorem far_rc {W t r c : Nat} (h : c < W) : far W t (r * W + c) = (t % W - c) + (c - t % W) + ((t / W - r) + (r - t / W)) := by
  unfold far; rw [rc_div h, rc_mod h]
theorem div_mod' (W u : Nat) : u = u / W * W + u % W := by have := Nat.div_add_mod u W; rw [Nat.mul_comm] at this; omega
/-- The tiles next to one, in order. -/
def nxt (W H t : Nat) : List Nat :=
  (if 0 < t / W then [t - W] else []) ++ (if t % W + 1 < W then [t + 1] else []) ++ (if t / W + 1 < H then [t + W] else []) ++ (if 0 < t % W then [t - 1] else [])
theorem sub_div {W t : Nat} : (t - W) / W = t / W - 1 := by have := Nat.sub_mul_div t W 1; rwa [Nat.mul_one] at this
theorem sub_mod {W t : Nat} (h : W ≤ t) : (t - W) % W = t % W := by have := Nat.sub_mul_mod (x := t) (n := W) (k := 1) (by omega); rwa [Nat.mul_one] at this
theorem row_pos {W t : Nat} (hW : 0 < W) : 0 < t / W ↔ W ≤ t := Nat.div_pos_iff.trans ⟨fun h => h.2, fun h => ⟨hW, h⟩⟩
theorem add_div' {W t : Nat} (hW : 0 < W) : (t + W) / W = t / W + 1 := Nat.add_div_right t hW
theorem row_more {W H t : Nat} (hW : 0 < W) : t / W + 1 < H ↔ t + W < W * H := by
  rw [← add_div' hW, Nat.div_lt_iff_lt_mul hW, Nat.mul_comm]
theorem right_same {W t : Nat} (hW : 0 < W) (h : t % W + 1 < W) : (t + 1) / W = t / W ∧ (t + 1) % W = t % W + 1 := by
  have e : t + 1 = t / W * W + (t % W + 1) := by have := div_mod' W t; omega
  rw [e, rc_div h, rc_mod h]; exact ⟨rfl, rfl⟩
theorem right_next {W t : Nat} (hW : 0 < W) (h : t % W + 1 = W) : (t + 1) / W = t / W + 1 ∧ (t + 1) % W = 0 := by
  have e : t + 1 = (t / W + 1) * W + 0 := by have := div_mod' W t; rw [Nat.add_mul]; omega
  rw [e, rc_div hW, rc_mod hW]; exact ⟨rfl, rfl⟩
theorem left_same {W t : Nat} (hW : 0 < W) (h : 0 < t % W) : (t - 1) / W = t / W ∧ (t - 1) % W = t % W - 1 := by
  have hl := Nat.mod_lt t hW
  have e : t - 1 = t / W * W + (t % W - 1) := by have := div_mod' W t; omega
  rw [e, rc_div (by omega), rc_mod (by omega)]; exact ⟨rfl, rfl⟩
theorem left_next {W t : Nat} (hW : 0 < W) (h : t % W = 0) (h0 : 0 < t) : (t - 1) / W + 1 = t / W ∧ (t - 1) % W = W - 1 := by
  have h1 := div_mod' W t
  have hr : 0 < t / W := by
    rcases Nat.eq_zero_or_pos (t / W) with e | e
    · rw [e, h] at h1; omega
    · exact e
  obtain ⟨k, hk⟩ : ∃ k, t / W = k + 1 := ⟨t / W - 1, by omega⟩
  have e : t - 1 = k * W + (W - 1) := by rw [hk, Nat.add_mul] at h1; omega
  rw [hk, e, rc_div (by omega), rc_mod (by omega)]; exact ⟨rfl, rfl⟩
/-- Which of the four are next to one. -/
theorem far_north {W t : Nat} (hW : 0 < W) (h : W ≤ t) : far W t (t - W) = 1 := by
  have := (row_pos hW).2 h
  unfold far; rw [sub_div, sub_mod h]; generalize t % W = x at *; generalize t / W = y at *; omega
theorem far_south {W t : Nat} (hW : 0 < W) : far W t (t + W) = 1 := by
  unfold far; rw [add_div' hW, Nat.add_mod_right]; generalize t % W = x at *; generalize t / W = y at *; omega
theorem far_east {W t : Nat} (hW : 4 ≤ W) : far W t (t + 1) = 1 ↔ t % W + 1 < W := by
  have hl := Nat.mod_lt t (show 0 < W by omega)
  unfold far
  by_cases h : t % W + 1 < W
  · obtain ⟨h1, h2⟩ := right_same (by omega) h
    rw [h1, h2]; generalize t % W = x at *; generalize t / W = y at *; omega
  · obtain ⟨h1, h2⟩ := right_next (by omega) (show t % W + 1 = W by omega)
    rw [h1, h2]; generalize t % W = x at *; generalize t / W = y at *; omega
theorem far_west {W t : Nat} (hW : 4 ≤ W) (h0 : 0 < t) : far W t (t - 1) = 1 ↔ 0 < t % W := by
  have hl := Nat.mod_lt t (show 0 < W by omega)
  unfold far
  by_cases h : 0 < t % W
  · obtain ⟨h1, h2⟩ := left_same (by omega) h
    rw [h1, h2]; generalize t % W = x at *; generalize t / W = y at *; omega
  · obtain ⟨h1, h2⟩ := left_next (by omega) (show t % W = 0 by omega) h0
    rw [h2]; generalize t % W = x at *; generalize (t - 1) / W = z at *; generalize t / W = y at *; omega
end Go.Proofs.Ytmceaocknlnmpaa.Grid
namespace Go.Proofs.Ytmceaocknlnmpaa
open Go.ChangeShapes Go.WideShapes Go.ChangeAt Go.RowKit
theorem kc {a b : World} {B o : Nat} {v : Value} (hb : Ext a b) (h : a.cell? ⟨B, o, none⟩ = some v) : b.cell? ⟨B, o, none⟩ = some v :=
  (hb.cell (p := ⟨B, o, none⟩) (World.block_lt_of_cell? a _ h)).trans h
/-- Block g is just these cells, none of them frozen. -/
def Blk (w : World) (g : Nat) (t : TypeId) (cs : Array Value) : Prop := w.heap[g]? = some (.cells cs t (0, 0))
section
variable {w w' : World} {g : Nat} {t : TypeId} {cs : Array Value}
theorem Blk.lt (h : Blk w g t cs) : g < w.heap.size := by
  rcases Nat.lt_or_ge g w.heap.size with hl | hl
  · exact hl
  · unfold Blk at h; rw [Array.getElem?_eq_none hl] at h; cases h
theorem Blk.cell (h : Blk w g t cs) (i : Nat) : w.cell? ⟨g, i, none⟩ = cs[i]? := cell_of_row w g i cs t (0, 0) h
theorem Blk.frozen (h : Blk w g t cs) (i : Nat) : w.frozen? ⟨g, i, none⟩ = false := by
  unfold Blk at h
  simp [World.frozen?, h]
theorem Blk.new (w : World) (t : TypeId) (cs : Array Value) : Blk (w.alloc (.cells cs t)) w.heap.size t cs := heap_alloc_new w _
theorem Blk.new1 (w : World) (o : Obj) (t : TypeId) (cs : Array Value) : Blk ((w.alloc o).alloc (.cells cs t)) (w.heap.size + 1) t cs := by
  have := Blk.new (w.alloc o) t cs
  rwa [World.size_alloc] at this
theorem Blk.newD (w : World) (t : TypeId) (cs : Array Value) : Blk (w.drew.alloc (.cells cs t)) w.heap.size t cs := Blk.new w.drew t cs
theorem Blk.new1D (w : World) (o : Obj) (t : TypeId) (cs : Array Value) : Blk ((w.drew.alloc o).alloc (.cells cs t)) (w.heap.size + 1) t cs := Blk.new1 w.drew o t cs
theorem Blk.newS (w : World) (p q : Addr) (a b : Value) (t : TypeId) (cs : Array Value) : Blk (((w.setCell p a).setCell q b).alloc (.cells cs t)) w.heap.size t cs := by
  have h := Blk.new ((w.setCell p a).setCell q b) t cs
  have e : ((w.setCell p a).setCell q b).heap.size = w.heap.size := by simp [World.setCell]
  rwa [e] at h
theorem Blk.drew (h : Blk w g t cs) : Blk w.drew g t cs := h
theorem Blk.drewN (h : Blk w g t cs) (n : Nat) : Blk (w.drewN n) g t cs := h
theorem Blk.alloc (h : Blk w g t cs) (o : Obj) : Blk (w.alloc o) g t cs := (Below.heap_alloc w o g h.lt).trans h
theorem Blk.set_ (h : Blk w g t cs) (i : Nat) (u : Value) : Blk (w.setCell ⟨g, i, none⟩ u) g t (cs.setIfInBounds i u) := by
  unfold Blk at h ⊢
  simp [World.setCell, Array.getElem?_modify, h]
theorem Blk.far (h : Blk w g t cs) {p : Addr} (hp : g ≠ p.block) (u : Value) : Blk (w.setCell p u) g t cs := (Below.heap_setCell w p u g hp).trans h
theorem Blk.ext (h : Blk w g t cs) (hb : Ext w w') : Blk w' g t cs := (hb.block g h.lt).trans h
theorem Blk.two {a b : Value} (h : Blk w g t #[a, b]) : w.cell? ⟨g, 0, none⟩ = some a ∧ w.cell? ⟨g, 1, none⟩ = some b ∧ w.frozen? ⟨g, 0, none⟩ = false ∧ w.frozen? ⟨g, 1, none⟩ = false :=
  ⟨h.cell 0, h.cell 1, h.frozen 0, h.frozen 1⟩
theorem Blk.put2 {a b c d : Value} (h : Blk w g t #[a, b]) : Blk ((w.setCell ⟨g, 0, none⟩ c).setCell ⟨g, 1, none⟩ d) g t #[c, d] := (h.set_ 0 c).set_ 1 d
theorem Blk.far2 {g' : Nat} {c d : Value} (h : Blk w g t cs) (hne : g ≠ g') : Blk ((w.setCell ⟨g', 0, none⟩ c).setCell ⟨g', 1, none⟩ d) g t cs := (h.far hne c).far hne d
theorem size_put2 (w : World) (p q : Addr) (c d : Value) : ((w.setCell p c).setCell q d).heap.size = w.heap.size := by simp [World.setCell]
theorem ext_put2 {a w : World} {g : Nat} (h : Ext a w) (hg : a.heap.size ≤ g) (c d : Value) : Ext a ((w.setCell ⟨g, 0, none⟩ c).setCell ⟨g, 1, none⟩ d) := ext_set (ext_set h hg c) hg d
end
end Go.Proofs.Ytmceaocknlnmpaa
namespace Go.Proofs.Ytmceaocknlnmpaa
open Go.ChangeShapes Go.WideShapes Go.ChangeAt Go.RowKit
section
variable {P : Program} {w W : World}
theorem ext_grown {a b c : World} (h : Ext a b) {row : Option Nat} (hg : b.grownBy c row) (hr : ∀ k, row = some k → a.heap.size ≤ k) : Ext a c :=
  ⟨hg.os.trans h.os, hg.tape.trans h.tape, hg.output.trans h.output, Nat.le_trans h.size hg.size, fun k hk =>
    (hg.block k (Nat.lt_of_lt_of_le hk h.size) (fun e => by have := hr k e.symm; omega)).trans (h.block k hk)⟩
theorem own_ge {base : Nat} {e : TypeId} {size n : Nat} {v : Value} {xs : List Value} (h : w.ownsRow base e size v n xs) : ∀ k, v.ownBlock = some k → base ≤ k := fun k hk => (h.lt k hk).1
theorem own_shape {base : Nat} {e : TypeId} {size n : Nat} {v : Value} {xs : List Value} (h : w.ownsRow base e size v n xs) : ∃ A c, v = .slice A n c ∧ n ≤ c ∧ c ≤ maxLen ∧ (0 < n → ∃ g, A = some ⟨g, 0, none⟩ ∧ base ≤ g) := by
  rcases h.2 with ⟨rfl, rfl⟩ | ⟨g, cap, cur, rfl, hb, _, hnc, hcm, _⟩
  · exact ⟨none, 0, rfl, Nat.le_refl _, by unfold maxLen; omega, fun h => absurd h (by omega)⟩
  · exact ⟨_, cap, rfl, hnc, hcm, fun _ => ⟨g, rfl, hb⟩⟩
theorem run_firstCells_own {base : Nat} {e : TypeId} {size n : Nat} {A : Option Addr} {c : Nat} {xs : List Value} (h : w.ownsRow base e size (.slice A n c) n xs) : (Builtin.firstCells size n (.slice A n c)).run P w.drew = .ok xs.toArray w.drew := by
  rcases h.2 with ⟨h1, rfl⟩ | ⟨g, cap, cur, h1, _⟩
  · obtain ⟨rfl, _, rfl⟩ := Value.slice.inj h1
    have : xs = [] := List.eq_nil_of_length_eq_zero (by simpa using h.1)
    subst this
    exact run_firstCells_none w.drew size 0 0 0
  · obtain ⟨rfl, _, rfl⟩ := Value.slice.inj h1
    have hc := h.cells (g := g) rfl
    exact run_firstCells_some w.drew size n _ _ _ xs h.1 (by simpa using hc)
/-- The new row. -/
theorem own_new (base : Nat) (e : TypeId) (z : Value) (size : Nat) (hzs : z.cells.size = size) (xs news : List Value) (n m old : Nat) (hx : xs.length = n * size) (hl : news.length = m * size) (h63 : n + m ≤ maxLen) (hbase : base ≤ w.heap.size) :
    (w.drew.alloc (.cells ((xs ++ news).toArray ++ Builtin.zeroCells z.cells (grownCap w (n + m) old e - (n + m))) e)).ownsRow base e size
      (.slice (some ⟨w.heap.size, 0, none⟩) (n + m) (grownCap w (n + m) old e)) (n + m) (xs ++ news) := by
  have hge := grownCap_ge w (n + m) old e
  have hcm : grownCap w (n + m) old e ≤ maxLen := grownCap_le_maxLen w (n + m) old e h63
  have hlen : (xs ++ news).length = (n + m) * size := by rw [List.length_append, hx, hl, Nat.add_mul]
  refine ⟨hlen, .inr ⟨w.heap.size, _, _, rfl, hbase, heap_alloc_new w.drew _, hge, hcm, ?_, ?_⟩⟩
  · rw [Array.size_append, List.size_toArray, hlen, size_zeroCells, hzs, ← Nat.add_mul]
    congr 1; omega
  · rw [Array.toList_append, ← hlen]
    exact List.take_left
/-- What is appended grows: whatever the first one is. -/
theorem run_app_grow (t tx ty e : TypeId) (i : TypeInfo) (z : Value) (size bytes : Nat) (ht : P.underlying t = some (.slice e)) (hi : P.info? e = some i) (hz : i.zero = some z) (hsize : i.size = size) (hby : i.bytes = bytes) (hzs : z.cells.size = size)
    (A : Option Addr) (n c : Nat) (xs : List Value) (hx : xs.length = n * size) (hold : (Builtin.firstCells size n (.slice A n c)).run P w.drew = .ok xs.toArray w.drew)
    (x : Value) (m : Nat) (news : List Value) (hs : Src P size tx x m news w) (hg : c < n + m) (h63 : n + m ≤ maxLen) (hb : (n + m) * bytes ≤ 140737488355328) (base : Nat) (hbase : base ≤ w.heap.size) :
    ∃ v' w', (Builtin.append_ #[t, tx] ty #[.slice A n c, x]).run P w = .ok v' w' ∧ w'.ownsRow base e size v' (n + m) (xs ++ news) ∧ w'.ownsRow w.heap.size e size v' (n + m) (xs ++ news) ∧ ∀ row, w.grownBy w' row := by
  subst hsize hby
  have h63' : ((n + m : Nat) : Int) ≤ 9223372036854775807 := by simp only [maxLen] at h63; omega
  exact ⟨_, _, run_append_grow_src w t tx ty e i z ht hi hz A n c xs hold x m news hs hg h63' (growslice_fits hg hb),
    own_new base e z _ hzs xs news n m c hx hs.newsLen h63 hbase, own_new w.heap.size e z _ hzs xs news n m c hx hs.newsLen h63 (Nat.le_refl _),
    fun _ => ⟨rfl, rfl, rfl, by simp, fun k hk _ => Below.heap_alloc w.drew _ k hk⟩⟩
theorem run_app_own (t tx ty e : TypeId) (i : TypeInfo) (z : Value) (size bytes : Nat) (ht : P.underlying t = some (.slice e)) (hi : P.info? e = some i) (hz : i.zero = some z) (hsize : i.size = size) (hby : i.bytes = bytes) (hzs : z.cells.size = size)
    (base : Nat) (v : Value) (n : Nat) (xs : List Value) (hown : w.ownsRow base e size v n xs)
    (x : Value) (m : Nat) (news : List Value) (hs : Src P size tx x m news w) (h63 : n + m ≤ maxLen) (hb : (n + m) * bytes ≤ 140737488355328) (hbase : base ≤ w.heap.size) :
    ∃ v' w', (Builtin.append_ #[t, tx] ty #[v, x]).run P w = .ok v' w' ∧ w'.ownsRow base e size v' (n + m) (xs ++ news) ∧ w.grownBy w' v.ownBlock := by
  rcases hown.2 with ⟨rfl, rfl⟩ | ⟨g, cap, cur, rfl, hbg, hgg, hnc, hcm, hcs, htake⟩
  · by_cases hm : m = 0
    · subst hm
      have hn : news = [] := List.eq_nil_of_length_eq_zero (by simpa using hs.newsLen)
      have hx : xs = [] := List.eq_nil_of_length_eq_zero (by simpa using hown.1)
      subst hn hx
      refine ⟨.slice none 0 0, w, ?_, World.ownsRow_nil w base e size, ⟨rfl, rfl, rfl, Nat.le_refl _, fun _ _ _ => rfl⟩⟩
      subst hsize
      rcases hs.kind with ⟨e', hk⟩ | hk <;> simp [Builtin.append_, run_underlying ht, run_underlying hk, sizeOf, typeInfo, hi, hs.len, hs.cells]
    · obtain ⟨v', w', h1, h2, _, h4⟩ := run_app_grow t tx ty e i z size bytes ht hi hz hsize hby hzs none 0 0 xs hown.1 (run_firstCells_own hown) x m news hs (by omega) h63 hb base hbase
      exact ⟨v', w', h1, h2, h4 _⟩
  · by_cases hroom : n + m ≤ cap
    · subst hsize
      have hfit : n * i.size + news.length ≤ cur.size := by rw [hs.newsLen, hcs, ← Nat.add_mul]; exact Nat.mul_le_mul_right _ hroom
      have hlen : (xs ++ news).length = (n + m) * i.size := by rw [List.length_append, hown.1, hs.newsLen, Nat.add_mul]
      have hst := run_storeCells_at P g (n * i.size) e news 0 cur w hgg (by simpa using hfit) hs.one
      simp only [Nat.add_zero] at hst
      have hr : (Builtin.append_ #[t, tx] ty #[.slice (some ⟨g, 0, none⟩) n cap, x]).run P w =
          .ok (.slice (some ⟨g, 0, none⟩) (n + m) cap) (w.setRow g (cur.toList.take (n * i.size) ++ news ++ cur.toList.drop (n * i.size + news.length)).toArray) := by
        rcases hs.kind with ⟨e', hk⟩ | hk <;> simp [Builtin.append_, run_underlying ht, run_underlying hk, sizeOf, typeInfo, hi, hs.len, hroom, hs.cells, Addr.add_lit, hst]
      refine ⟨_, _, hr, ⟨hlen, .inr ⟨g, cap, _, rfl, hbg, setRow_heap w g cur _ e _ hgg, hroom, hcm, ?_, ?_⟩⟩, ⟨rfl, rfl, rfl, by simp, fun k _ hk => setRow_other w g k _ (fun e => hk (by simp [Value.ownBlock, e]))⟩⟩
      · simp only [List.size_toArray, List.length_append, List.length_take, List.length_drop, Array.length_toList]
        omega
      · rw [htake, ← hlen]
        exact List.take_left
    · obtain ⟨v', w', h1, h2, _, h4⟩ := run_app_grow t tx ty e i z size bytes ht hi hz hsize hby hzs _ n cap xs hown.1 (run_firstCells_own hown) x m news hs (by omega) h63 hb base hbase
      exact ⟨v', w', h1, h2, h4 _⟩
theorem wpList_of_append {ops : Array Oper} {rest : List Oper} {o : Oper} {a : Act} {Q : Exit → Act → World → Prop} (hgd : o.guard = none) (s x : Operand) (t tx : TypeId)
    (ho : o.op = .call { callee := .builtin .append, args := #[s, x], argTypes := #[t, tx] }) (vs vx : Value) (hs : a.eval s = vs) (hx : a.eval x = vx) {v' : Value} {w' : World}
    (hr : (Builtin.append_ #[t, tx] o.type #[vs, vx]).run P w = .ok v' w') (h : wpList P ops Q rest (a.put o.dst v') w') : wpList P ops Q (o :: rest) a w :=
  wpList_plain hgd fun K hK => by
    unfold Oper.wp execOp
    simp only [ho, resolve, invoke, builtin, Sem.run_bind, Sem.run_pure, Result.andThen_ok, List.map_toArray, List.map_cons, List.map_nil, hs, hx, hr]
    exact hK _ _ h
/-- Something is appended to a row of the call's own. -/
theorem wpList_app_own {ops : Array Oper} {rest : List Oper} {o : Oper} {a : Act} {Q : Exit → Act → World → Prop} (hgd : o.guard = none) (s x : Operand) (t tx : TypeId)
    (ho : o.op = .call { callee := .builtin .append, args := #[s, x], argTypes := #[t, tx] }) (e : TypeId) (i : TypeInfo) (z : Value) (size bytes : Nat) (ht : P.underlying t = some (.slice e)) (hi : P.info? e = some i) (hz : i.zero = some z) (hsize : i.size = size) (hby : i.bytes = bytes) (hzs : z.cells.size = size)
    (base : Nat) (v vx : Value) (n : Nat) (xs : List Value) (hs : a.eval s = v) (hx : a.eval x = vx) (hown : w.ownsRow base e size v n xs) (m : Nat) (news : List Value) (hsrc : Src P size tx vx m news w) (h63 : n + m ≤ maxLen) (hb : (n + m) * bytes ≤ 140737488355328) (hbase : base ≤ w.heap.size)
    (h : ∀ v' w', w'.ownsRow base e size v' (n + m) (xs ++ news) → w.grownBy w' v.ownBlock → wpList P ops Q rest (a.put o.dst v') w') : wpList P ops Q (o :: rest) a w := by
  obtain ⟨v', w', h1, h2, h3⟩ := run_app_own (P := P) t tx o.type e i z size bytes ht hi hz hsize hby hzs base v n xs hown vx m news hsrc h63 hb hbase
  exact wpList_of_append hgd s x t tx ho v vx hs hx h1 (h v' w' h2 h3)
/-- Something is appended that there is no room for. -/
theorem wpList_app_grow {ops : Array Oper} {rest : List Oper} {o : Oper} {a : Act} {Q : Exit → Act → World → Prop} (hgd : o.guard = none) (s x : Operand) (t tx : TypeId)
    (ho : o.op = .call { callee := .builtin .append, args := #[s, x], argTypes := #[t, tx] }) (e : TypeId) (i : TypeInfo) (z : Value) (size bytes : Nat) (ht : P.underlying t = some (.slice e)) (hi : P.info? e = some i) (hz : i.zero = some z) (hsize : i.size = size) (hby : i.bytes = bytes) (hzs : z.cells.size = size)
    (base : Nat) (A : Option Addr) (n c : Nat) (vx : Value) (xs : List Value) (hs : a.eval s = .slice A n c) (hx : a.eval x = vx) (hxl : xs.length = n * size) (hold : (Builtin.firstCells size n (.slice A n c)).run P w.drew = .ok xs.toArray w.drew)
    (m : Nat) (news : List Value) (hsrc : Src P size tx vx m news w) (hg : c < n + m) (h63 : n + m ≤ maxLen) (hb : (n + m) * bytes ≤ 140737488355328) (hbase : base ≤ w.heap.size)
    (h : ∀ v' w', w'.ownsRow base e size v' (n + m) (xs ++ news) → Ext w w' → wpList P ops Q rest (a.put o.dst v') w') : wpList P ops Q (o :: rest) a w := by
  obtain ⟨v', w', h1, h2, _, h4⟩ := run_app_grow (P := P) t tx o.type e i z size bytes ht hi hz hsize hby hzs A n c xs hxl hold vx m news hsrc hg h63 hb base hbase
  exact wpList_of_append hgd s x t tx ho _ vx hs hx h1 (h v' w' h2 (ext_grown (Ext.rfl' _) (h4 none) (fun _ hk => by cases hk)))
end
end Go.Proofs.Ytmceaocknlnmpaa
namespace Go.Proofs.Ytmceaocknlnmpaa.Rec
open Go.ChangeShapes Go.WideShapes Go.ChangeAt Go.RowKit
set_option linter.unusedVariables false
variable {α : Type}
/-- A slice that reads as these records. -/
def RowR (w : World) (A : Option Addr) (n k : Nat) (f : α → List Value) (xs : List α) : Prop :=
  xs.length = n ∧ (0 < n → ∃ b o, A = some ⟨b, o, none⟩ ∧ b < w.heap.size ∧ ∀ j (hj : j < xs.length) i, i < k → w.cell? ⟨b, o + j * k + i, none⟩ = (f xs[j])[i]?)
theorem RowR.nil (w : World) (A : Option Addr) (k : Nat) (f : α → List Value) : RowR w A 0 k f [] := ⟨rfl, fun h => absurd h (by omega)⟩
theorem RowR.keep {w w' : World} {A : Option Addr} {n k : Nat} {f : α → List Value} {xs : List α} (h : RowR w A n k f xs) (hs : w.heap.size ≤ w'.heap.size) (hk : ∀ a, A = some a → 0 < n → w'.heap[a.block]? = w.heap[a.block]?) : RowR w' A n k f xs := by
  refine ⟨h.1, fun hp => ?_⟩
  obtain ⟨b, o, e, hb, hc⟩ := h.2 hp
  exact ⟨b, o, e, Nat.lt_of_lt_of_le hb hs, fun j hj i hi => (World.cell?_of_block (a := ⟨b, o + j * k + i, none⟩) (show w'.heap[b]? = w.heap[b]? from hk ⟨b, o, none⟩ e hp)).trans (hc j hj i hi)⟩
theorem RowR.ext {w w' : World} {A : Option Addr} {n k : Nat} {f : α → List Value} {xs : List α} (h : RowR w A n k f xs) (e : Ext w w') : RowR w' A n k f xs := by
  refine h.keep e.size (fun a ha hp => ?_)
  obtain ⟨b, o, e1, hb, hc⟩ := h.2 hp
  obtain rfl := Option.some.inj (ha.symm.trans e1)
  exact e.block b hb
theorem RowR.grown {w w' : World} {A : Option Addr} {n k : Nat} {r : Option Nat} {f : α → List Value} {xs : List α} (h : RowR w A n k f xs) (e : w.grownBy w' r) (hr : ∀ a, A = some a → 0 < n → some a.block ≠ r) : RowR w' A n k f xs := by
  refine h.keep e.size (fun a ha hp => ?_)
  obtain ⟨b, o, e1, hb, hc⟩ := h.2 hp
  have := hr a ha hp
  obtain rfl := Option.some.inj (ha.symm.trans e1)
  exact e.block b hb this
theorem flat_len {k : Nat} {f : α → List Value} (hf : ∀ x, (f x).length = k) : ∀ xs : List α, (xs.flatMap f).length = xs.length * k
  | [] => by simp
  | x :: xs => by rw [List.flatMap_cons, List.length_append, hf, flat_len hf xs, List.length_cons, Nat.succ_mul, Nat.add_comm]
theorem flat_get {k : Nat} {f : α → List Value} (hf : ∀ x, (f x).length = k) : ∀ (xs : List α) (j : Nat) (hj : j < xs.length) (i : Nat), i < k → (xs.flatMap f)[j * k + i]? = (f xs[j])[i]?
  | [], j, hj, _, _ => absurd hj (by simp)
  | x :: xs, 0, hj, i, hi => by
    rw [List.flatMap_cons, List.getElem?_append_left (by rw [hf]; omega)]; simp
  | x :: xs, j + 1, hj, i, hi => by
    rw [List.flatMap_cons, List.getElem?_append_right (by rw [hf, Nat.succ_mul]; omega), hf, show (j + 1) * k + i - k = j * k + i by rw [Nat.succ_mul]; omega, flat_get hf xs j (by simpa using hj) i hi]
    rfl
/-- A slice of one's own, these records in it. -/
def OwnR (base : Nat) (w : World) (e : TypeId) (k : Nat) (f : α → List Value) (v : Value) (xs : List α) : Prop := w.ownsRow base e k v xs.length (xs.flatMap f)
theorem OwnR.nil (base : Nat) (w : World) (e : TypeId) (k : Nat) (f : α → List Value) : OwnR base w e k f (.slice none 0 0) ([] : List α) := World.ownsRow_nil w base e k
theorem OwnR.ext {base : Nat} {w w' : World} {e : TypeId} {k : Nat} {f : α → List Value} {v : Value} {xs : List α} (h : OwnR base w e k f v xs) (hE : Ext w w') : OwnR base w' e k f v xs := by
  refine World.ownsRow.kept h (row := none) ⟨hE.os, hE.tape, hE.output, hE.size, fun k hk _ => hE.block k hk⟩ ?_
  cases v.ownBlock <;> simp
theorem OwnR.grown {base : Nat} {w w' : World} {e : TypeId} {k : Nat} {f : α → List Value} {v : Value} {xs : List α} {r : Nat} (h : OwnR base w e k f v xs) (hg : w.grownBy w' (some r)) (hr : r < base) : OwnR base w' e k f v xs := by
  refine World.ownsRow.kept h hg ?_
  cases hv : v.ownBlock with
  | none => exact .inl rfl
  | some q => exact .inr (fun e => by have := (World.ownsRow.lt h q hv).1; have := Option.some.inj e; omega)
theorem OwnR.shape {base : Nat} {w : World} {e : TypeId} {k : Nat} {f : α → List Value} {v : Value} {xs : List α} (h : OwnR base w e k f v xs) : ∃ A c, v = .slice A xs.length c ∧ xs.length ≤ c ∧ c ≤ maxLen ∧ (A = none → xs.length = 0 ∧ c = 0) ∧ (∀ a, A = some a → base ≤ a.block) := by
  rcases h.2 with ⟨rfl, hn⟩ | ⟨g, cap, cur, rfl, hb, _, h1, h2, _⟩
  · exact ⟨none, 0, by rw [hn], by omega, by unfold maxLen; omega, (fun _ => ⟨hn, rfl⟩), (fun a ha => by cases ha)⟩
  · exact ⟨_, cap, rfl, h1, h2, (fun ha => by cases ha), (fun a ha => by cases ha; exact hb)⟩
theorem OwnR.row {base : Nat} {w : World} {e : TypeId} {k : Nat} {f : α → List Value} {A : Option Addr} {n c : Nat} {xs : List α} (hf : ∀ x, (f x).length = k) (h : OwnR base w e k f (.slice A n c) xs) : RowR w A n k f xs := by
  rcases h.2 with ⟨h1, hn⟩ | ⟨g, cap, cur, h1, hb, hg, h2, h3, hs, ht⟩
  · obtain ⟨rfl, rfl, rfl⟩ := Value.slice.inj h1
    exact ⟨hn, fun hp => absurd hp (by omega)⟩
  · obtain ⟨rfl, rfl, rfl⟩ := Value.slice.inj h1
    refine ⟨rfl, fun hp => ⟨g, 0, rfl, (Array.getElem?_eq_some_iff.1 hg).1, fun j hj i hi => ?_⟩⟩
    have hlt : j * k + i < (xs.flatMap f).length := by
      rw [flat_len hf]
      calc j * k + i < j * k + k := by omega
        _ = (j + 1) * k := by rw [Nat.succ_mul]
        _ ≤ xs.length * k := Nat.mul_le_mul_right k hj
    have hq : (xs.flatMap f)[j * k + i]? = some ((xs.flatMap f)[j * k + i]) := List.getElem?_eq_getElem hlt
    have := World.ownsRow.cells h (g := g) rfl (j * k + i) _ hq
    have hadd : (⟨g, 0, none⟩ : Addr).add (j * k + i) = ⟨g, j * k + i, none⟩ := by unfold Addr.add; split <;> simp_all
    rw [hadd] at this
    rw [Nat.zero_add, this, ← hq, flat_get hf xs j hj i hi]
/-- A slice just made. -/
theorem row_new {k : Nat} {f : α → List Value} (hf : ∀ x, (f x).length = k) (w : World) (t : TypeId) (xs : List α) : RowR (w.alloc (.cells (xs.flatMap f).toArray t)) (some ⟨w.heap.size, 0, none⟩) xs.length k f xs := by
  refine ⟨rfl, fun _ => ⟨w.heap.size, 0, rfl, by rw [World.size_alloc]; omega, fun j hj i hi => ?_⟩⟩
  rw [(Blk.new w t (xs.flatMap f).toArray).cell, Nat.zero_add, ← flat_get hf xs j hj i hi]
  simp
/-- One record more. -/
theorem wpList_rec {P : Program} {w : World} {base : Nat} {ops : Array Oper} {rest : List Oper} {o : Oper} {a : Act} {Q : Exit → Act → World → Prop} (hgd : o.guard = none) (s x : Operand) (t e : TypeId) (k bytes : Nat) (z : Value) (f : α → List Value) (ho : o.op = .call { callee := .builtin .append, args := #[s, x], argTypes := #[t, t] })
    (ht : P.underlying t = some (.slice e)) (hi : (P.info? e).map (fun i => (i.zero, i.size, i.bytes)) = some (some z, k, bytes)) (hzs : z.cells.size = k) (hby : bytes ≤ 1000) (v vx : Value) (xs : List α) (y : α) (hs : a.eval s = v) (hx : a.eval x = vx) (hO : OwnR base w e k f v xs) (hbase : base ≤ w.heap.size)
    (hsrc : Src P k t vx 1 (f y) w) (hb : xs.length ≤ 100000000) (h : ∀ v' w', OwnR base w' e k f v' (xs ++ [y]) → w.grownBy w' v.ownBlock → wpList P ops Q rest (a.put o.dst v') w') : wpList P ops Q (o :: rest) a w := by
  obtain ⟨i0, hi0, hq⟩ := Option.map_eq_some_iff.1 hi
  simp only [Prod.mk.injEq] at hq
  obtain ⟨hz0, hz1, hz2⟩ := hq
  have hm : (xs.length + 1) * bytes ≤ 140737488355328 := by
    calc (xs.length + 1) * bytes ≤ (xs.length + 1) * 1000 := Nat.mul_le_mul_left _ hby
      _ ≤ 140737488355328 := by omega
  refine wpList_app_own hgd s x t t ho e i0 z k bytes ht hi0 hz0 hz1 hz2 hzs base v vx xs.length (xs.flatMap f) hs hx hO 1 (f y) hsrc (by unfold maxLen; omega) hm hbase ?_
  intro v' w' h2 h3
  refine h v' w' ?_ h3
  unfold OwnR
  rw [List.length_append, List.flatMap_append]
  simpa using h2
theorem run_rec {P : Program} {w : World} {base : Nat} (t e ty : TypeId) (k bytes : Nat) (z : Value) (f : α → List Value)
    (ht : P.underlying t = some (.slice e)) (hi : (P.info? e).map (fun i => (i.zero, i.size, i.bytes)) = some (some z, k, bytes)) (hzs : z.cells.size = k) (hby : bytes ≤ 1000) (v vx : Value) (xs : List α) (y : α) (hO : OwnR base w e k f v xs) (hbase : base ≤ w.heap.size)
    (hsrc : Src P k t vx 1 (f y) w) (hb : xs.length ≤ 100000000) : ∃ v' w', (Builtin.append_ #[t, t] ty #[v, vx]).run P w = .ok v' w' ∧ OwnR base w' e k f v' (xs ++ [y]) ∧ w.grownBy w' v.ownBlock := by
  obtain ⟨i0, hi0, hq⟩ := Option.map_eq_some_iff.1 hi
  simp only [Prod.mk.injEq] at hq
  obtain ⟨hz0, hz1, hz2⟩ := hq
  have hm : (xs.length + 1) * bytes ≤ 140737488355328 := by
    calc (xs.length + 1) * bytes ≤ (xs.length + 1) * 1000 := Nat.mul_le_mul_left _ hby
      _ ≤ 140737488355328 := by omega
  obtain ⟨v', w', r1, r2, r3⟩ := run_app_own (P := P) t t ty e i0 z k bytes ht hi0 hz0 hz1 hz2 hzs base v xs.length (xs.flatMap f) hO vx 1 (f y) hsrc (by unfold maxLen; omega) hm hbase
  refine ⟨v', w', r1, ?_, r3⟩
  unfold OwnR
  rw [List.length_append, List.flatMap_append]
  simpa using r2
/-- A slice of one record, just made. -/
theorem src_rec {P : Program} {tx e e' : TypeId} {k : Nat} (hk : P.underlying tx = some (.slice e)) (w : World) (cs : List Value) (hl : cs.length = k) (h1 : ∀ u ∈ cs, u.oneCell' = true) (c : Nat) : Src P k tx (.slice (some ⟨w.heap.size, 0, none⟩) 1 c) 1 cs (w.alloc (.cells cs.toArray e')) := by
  refine Src.ofSlice _ hk _ _ c _ (by rw [Nat.one_mul, hl]) (fun j u hj => ?_) h1
  have hadd : (⟨w.heap.size, 0, none⟩ : Addr).add j = ⟨w.heap.size, j, none⟩ := by unfold Addr.add; split <;> simp_all
  rw [hadd, (Blk.new w e' cs.toArray).cell j, ← hj]
  simp
end Go.Proofs.Ytmceaocknlnmpaa.Rec
namespace Go.Proofs.Ytmceaocknlnmpaa.Rec
open Go.ChangeShapes Go.WideShapes Go.ChangeAt Go.RowKit
set_option linter.unusedVariables false
section
variable {P : Program} {w : World}
/-- Only the row's own block has changed; the row stands there still, or in a new block. -/
def Grew (w w' : World) (v v' : Value) : Prop := w.grownBy w' v.ownBlock ∧ (v'.ownBlock = v.ownBlock ∨ ∀ k, v'.ownBlock = some k → w.heap.size ≤ k)
def Off (v : Value) (b : Nat) : Prop := v.ownBlock ≠ some b
theorem Grew.off {w w' : World} {v v' : Value} {b : Nat} (h : Grew w w' v v') (ho : Off v b) (hb : b < w.heap.size) : Off v' b := by
  rcases h.2 with h1 | h1
  · unfold Off; rw [h1]; exact ho
  · intro e; have := h1 b e; omega
theorem Grew.blk {w w' : World} {v v' : Value} {b : Nat} {t : TypeId} {cs : Array Value} (h : Grew w w' v v') (ho : Off v b) (hb : Blk w b t cs) : Blk w' b t cs := (h.1.block b hb.lt (Ne.symm ho)).trans hb
theorem Grew.heap {w w' : World} {v v' : Value} {b : Nat} (h : Grew w w' v v') (ho : Off v b) (hb : b < w.heap.size) : w'.heap[b]? = w.heap[b]? := h.1.block b hb (Ne.symm ho)
theorem off_new {base : Nat} {e : TypeId} {size n : Nat} {v : Value} {xs : List Value} (h : w.ownsRow base e size v n xs) {b : Nat} (hb : w.heap.size ≤ b ∨ b < base) : Off v b := by
  intro e; have := World.ownsRow.lt h b e; omega
theorem run_app_own2 (t tx ty e : TypeId) (i : TypeInfo) (z : Value) (size bytes : Nat) (ht : P.underlying t = some (.slice e)) (hi : P.info? e = some i) (hz : i.zero = some z) (hsize : i.size = size) (hby : i.bytes = bytes) (hzs : z.cells.size = size)
    (base : Nat) (v : Value) (n : Nat) (xs : List Value) (hown : w.ownsRow base e size v n xs)
    (x : Value) (m : Nat) (news : List Value) (hs : Src P size tx x m news w) (h63 : n + m ≤ maxLen) (hb : (n + m) * bytes ≤ 140737488355328) (hbase : base ≤ w.heap.size) :
    ∃ v' w', (Builtin.append_ #[t, tx] ty #[v, x]).run P w = .ok v' w' ∧ w'.ownsRow base e size v' (n + m) (xs ++ news) ∧ Grew w w' v v' := by
  rcases hown.2 with ⟨rfl, rfl⟩ | ⟨g, cap, cur, rfl, hbg, hgg, hnc, hcm, hcs, htake⟩
  · by_cases hm : m = 0
    · subst hm
      have hn : news = [] := List.eq_nil_of_length_eq_zero (by simpa using hs.newsLen)
      have hx : xs = [] := List.eq_nil_of_length_eq_zero (by simpa using hown.1)
      subst hn hx
      refine ⟨.slice none 0 0, w, ?_, World.ownsRow_nil w base e size, ⟨rfl, rfl, rfl, Nat.le_refl _, fun _ _ _ => rfl⟩, .inl rfl⟩
      subst hsize
      rcases hs.kind with ⟨e', hk⟩ | hk <;> simp [Builtin.append_, run_underlying ht, run_underlying hk, sizeOf, typeInfo, hi, hs.len, hs.cells]
    · obtain ⟨v', w', h1, h2, h3, h4⟩ := run_app_grow t tx ty e i z size bytes ht hi hz hsize hby hzs none 0 0 xs hown.1 (run_firstCells_own hown) x m news hs (by omega) h63 hb base hbase
      exact ⟨v', w', h1, h2, h4 _, .inr (own_ge h3)⟩
  · by_cases hroom : n + m ≤ cap
    · subst hsize
      have hfit : n * i.size + news.length ≤ cur.size := by rw [hs.newsLen, hcs, ← Nat.add_mul]; exact Nat.mul_le_mul_right _ hroom
      have hlen : (xs ++ news).length = (n + m) * i.size := by rw [List.length_append, hown.1, hs.newsLen, Nat.add_mul]
      have hst := run_storeCells_at P g (n * i.size) e news 0 cur w hgg (by simpa using hfit) hs.one
      simp only [Nat.add_zero] at hst
      have hr : (Builtin.append_ #[t, tx] ty #[.slice (some ⟨g, 0, none⟩) n cap, x]).run P w =
          .ok (.slice (some ⟨g, 0, none⟩) (n + m) cap) (w.setRow g (cur.toList.take (n * i.size) ++ news ++ cur.toList.drop (n * i.size + news.length)).toArray) := by
        rcases hs.kind with ⟨e', hk⟩ | hk <;> simp [Builtin.append_, run_underlying ht, run_underlying hk, sizeOf, typeInfo, hi, hs.len, hroom, hs.cells, Addr.add_lit, hst]
      refine ⟨_, _, hr, ⟨hlen, .inr ⟨g, cap, _, rfl, hbg, setRow_heap w g cur _ e _ hgg, hroom, hcm, ?_, ?_⟩⟩, ⟨rfl, rfl, rfl, by simp, fun k _ hk => setRow_other w g k _ (fun e => hk (by simp [Value.ownBlock, e]))⟩, .inl rfl⟩
      · simp only [List.size_toArray, List.length_append, List.length_take, List.length_drop, Array.length_toList]
        omega
      · rw [htake, ← hlen]
        exact List.take_left
    · obtain ⟨v', w', h1, h2, h3, h4⟩ := run_app_grow t tx ty e i z size bytes ht hi hz hsize hby hzs _ n cap xs hown.1 (run_firstCells_own hown) x m news hs (by omega) h63 hb base hbase
      exact ⟨v', w', h1, h2, h4 _, .inr (own_ge h3)⟩
end
theorem run_rec3 {α : Type} {P : Program} {w : World} {base : Nat} (t e ty : TypeId) (k bytes : Nat) (z : Value) (f : α → List Value)
    (ht : P.underlying t = some (.slice e)) (hi : (P.info? e).map (fun i => (i.zero, i.size, i.bytes)) = some (some z, k, bytes)) (hzs : z.cells.size = k) (hby : bytes ≤ 1000) (v vx : Value) (xs : List α) (y : α) (hO : OwnR base w e k f v xs) (hbase : base ≤ w.heap.size)
    (hsrc : Src P k t vx 1 (f y) w) (hb : xs.length ≤ 100000000) : ∃ v' w', (Builtin.append_ #[t, t] ty #[v, vx]).run P w = .ok v' w' ∧ OwnR base w' e k f v' (xs ++ [y]) ∧ Grew w w' v v' := by
  obtain ⟨i0, hi0, hq⟩ := Option.map_eq_some_iff.1 hi
  simp only [Prod.mk.injEq] at hq
  obtain ⟨hz0, hz1, hz2⟩ := hq
  have hm : (xs.length + 1) * bytes ≤ 140737488355328 := by
    calc (xs.length + 1) * bytes ≤ (xs.length + 1) * 1000 := Nat.mul_le_mul_left _ hby
      _ ≤ 140737488355328 := by omega
  obtain ⟨v', w', r1, r2, r3⟩ := run_app_own2 (P := P) t t ty e i0 z k bytes ht hi0 hz0 hz1 hz2 hzs base v xs.length (xs.flatMap f) hO vx 1 (f y) hsrc (by unfold maxLen; omega) hm hbase
  refine ⟨v', w', r1, ?_, r3⟩
  unfold OwnR
  rw [List.length_append, List.flatMap_append]
  simpa using r2
end Go.Proofs.Ytmceaocknlnmpaa.Rec
namespace Go.Proofs.Ytmceaocknlnmpaa.Rec
open Go.ChangeShapes Go.WideShapes Go.ChangeAt Go.RowKit
set_option linter.unusedVariables false
section
variable {α : Type}
theorem wpList_recs {P : Program} {w : World} {base : Nat} {ops : Array Oper} {rest : List Oper} {o : Oper} {a : Act} {Q : Exit → Act → World → Prop} (hgd : o.guard = none) (s x : Operand) (t e : TypeId) (k bytes : Nat) (z : Value) (f : α → List Value) (ho : o.op = .call { callee := .builtin .append, args := #[s, x], argTypes := #[t, t] })
    (ht : P.underlying t = some (.slice e)) (hi : (P.info? e).map (fun i => (i.zero, i.size, i.bytes)) = some (some z, k, bytes)) (hzs : z.cells.size = k) (hby : bytes ≤ 1000) (v vx : Value) (xs ys : List α) (hs : a.eval s = v) (hx : a.eval x = vx) (hO : OwnR base w e k f v xs) (hbase : base ≤ w.heap.size)
    (hsrc : Src P k t vx ys.length (ys.flatMap f) w) (hb : xs.length + ys.length ≤ 100000000) (h : ∀ v' w', OwnR base w' e k f v' (xs ++ ys) → w.grownBy w' v.ownBlock → wpList P ops Q rest (a.put o.dst v') w') : wpList P ops Q (o :: rest) a w := by
  obtain ⟨i0, hi0, hq⟩ := Option.map_eq_some_iff.1 hi
  simp only [Prod.mk.injEq] at hq
  obtain ⟨hz0, hz1, hz2⟩ := hq
  have hm : (xs.length + ys.length) * bytes ≤ 140737488355328 := by
    calc (xs.length + ys.length) * bytes ≤ (xs.length + ys.length) * 1000 := Nat.mul_le_mul_left _ hby
      _ ≤ 140737488355328 := by omega
  refine wpList_app_own hgd s x t t ho e i0 z k bytes ht hi0 hz0 hz1 hz2 hzs base v vx xs.length (xs.flatMap f) hs hx hO ys.length (ys.flatMap f) hsrc (by unfold maxLen; omega) hm hbase ?_
  intro v' w' h2 h3
  refine h v' w' ?_ h3
  unfold OwnR
  rw [List.length_append, List.flatMap_append]
  exact h2
theorem src_row {P : Program} {w : World} {tx e' : TypeId} {k n c : Nat} {f : α → List Value} {xs : List α} {a : Addr} (hk : P.underlying tx = some (.slice e')) (hf : ∀ x, (f x).length = k) (h : RowR w (some a) n k f xs) (h1 : ∀ x, ∀ u ∈ f x, u.oneCell' = true) : Src P k tx (.slice (some a) n c) xs.length (xs.flatMap f) w := by
  obtain ⟨hn, hc⟩ := h
  subst hn
  refine Src.ofSlice _ hk a _ c _ (flat_len hf xs) (fun j u hj => ?_) (fun u hu => ?_)
  · have hlt : j < xs.length * k := by
      have := (List.getElem?_eq_some_iff.1 hj).1
      rwa [flat_len hf] at this
    have hk0 : 0 < k := by
      rcases Nat.eq_zero_or_pos k with h | h
      · subst h; simp at hlt
      · exact h
    have hx0 : 0 < xs.length := by
      rcases Nat.eq_zero_or_pos xs.length with h | h
      · rw [h] at hlt; simp at hlt
      · exact h
    obtain ⟨b, o, e, hb, hcell⟩ := hc hx0
    obtain rfl := Option.some.inj e
    have hd : j / k < xs.length := (Nat.div_lt_iff_lt_mul hk0).2 hlt
    have hm : j % k < k := Nat.mod_lt _ hk0
    have hj2 : j / k * k + j % k = j := by rw [Nat.mul_comm]; exact Nat.div_add_mod j k
    have hadd : (⟨b, o, none⟩ : Addr).add j = ⟨b, o + j, none⟩ := by unfold Addr.add; split <;> simp_all
    have q := hcell (j / k) hd (j % k) hm
    rw [Nat.add_assoc, hj2] at q
    rw [hadd, q, ← flat_get hf xs (j / k) hd (j % k) hm, hj2, hj]
  · obtain ⟨x, _, hx⟩ := List.mem_flatMap.1 hu
    exact h1 x u hx
theorem own_one (w : World) (e : TypeId) (k : Nat) (f : α → List Value) (y : α) (hf : (f y).length = k) : OwnR w.heap.size (w.alloc (.cells (f y).toArray e)) e k f (.slice (some ⟨w.heap.size, 0, none⟩) 1 1) [y] := by
  refine ⟨by simp [hf], .inr ⟨w.heap.size, 1, (f y).toArray, rfl, Nat.le_refl _, Blk.new w e _, Nat.le_refl _, by unfold maxLen; omega, by simp [hf], ?_⟩⟩
  simp [hf, List.take_of_length_le]
/-- What a slice of one's own yields to an append. -/
theorem src_own {P : Program} {w : World} {base : Nat} {tx e' e : TypeId} {k : Nat} {f : α → List Value} {xs : List α} {v : Value} (hk : P.underlying tx = some (.slice e')) (hf : ∀ x, (f x).length = k) (h : OwnR base w e k f v xs) (h1 : ∀ x, ∀ u ∈ f x, u.oneCell' = true) : Src P k tx v xs.length (xs.flatMap f) w := by
  obtain ⟨A, c, rfl, hc, _, hn, _⟩ := h.shape
  cases A with
  | none =>
    obtain ⟨h0, _⟩ := hn rfl
    have : xs = [] := List.eq_nil_of_length_eq_zero h0
    subst this
    exact Src.ofNil _ hk c
  | some a => exact src_row hk hf (h.row hf) h1
end
end Go.Proofs.Ytmceaocknlnmpaa.Rec
namespace Go.Proofs.Ytmceaocknlnmpaa.Rec
open Go.ChangeShapes Go.WideShapes Go.ChangeAt Go.RowKit Go.Deep
set_option linter.unusedVariables false

theorem recs_of {H : Type} {enc : TypeId × Value → H} {P : Program} {w : World} {base : Nat} {spare : Nat → Bool} {held : Bool} {fuel : Nat} {a : Option Addr} {len cap : Nat} {x : DataW H × List MemPlace} {t e : TypeId} {k : Nat} {α : Type} {f : α → List Value} {good : α → Prop}
    (hu : P.underlying t = some (.slice e)) (hk : P.cellsOf e = k) (hk0 : 0 < k) (hf : ∀ y, (f y).length = k) (hel : ∀ fuel cs x, DataW.trod enc P w base spare held fuel e cs = some x → cs.length = k → ∃ y, cs = f y ∧ good y)
    (h : DataW.trod enc P w base spare held fuel t [.slice a len cap] = some x) : ∃ ls : List α, RowR w a len k f ls ∧ (∀ y ∈ ls, good y) ∧ cap ≤ maxLen ∧ len ≤ cap := by
  rcases open_slice hu h with ⟨hcs, _⟩ | ⟨ad, l, c, m, n, D, Pl, hcs, hb, hl, hm, hmm, hx, hi⟩
  · obtain ⟨rfl, rfl, rfl⟩ := Value.slice.inj (List.cons.inj hcs).1
    exact ⟨[], RowR.nil _ _ _ _, by simp, by unfold maxLen; omega, Nat.le_refl _⟩
  · obtain ⟨rfl, rfl, rfl⟩ := Value.slice.inj (List.cons.inj hcs).1
    have hlm : len ≤ m := by rw [hmm]; split <;> omega
    rw [hk] at hi
    have key : ∀ i, i < len → ∃ y : α, good y ∧ ∀ j (hj : j < k), w.cell? ((ad.add (i * k)).add j) = (f y)[j]? := by
      intro i hil
      obtain ⟨cs', hc, ht'⟩ := hi i (by omega)
      obtain ⟨_, hcl, hat⟩ := World.cells?_some hc
      obtain ⟨y, hy, hg⟩ := hel _ _ _ ht' hcl
      subst hy
      refine ⟨y, hg, fun j hj => ?_⟩
      rw [hat j hj, List.getElem?_eq_getElem (by rw [hf]; exact hj)]
    obtain ⟨b, o, spot⟩ := ad
    let g : Fin len → α := fun i => Classical.choose (key i.1 i.2)
    have hg : ∀ i : Fin len, good (g i) ∧ ∀ j (hj : j < k), w.cell? (((⟨b, o, spot⟩ : Addr).add (i.1 * k)).add j) = (f (g i))[j]? := fun i => Classical.choose_spec (key i.1 i.2)
    refine ⟨List.ofFn g, ⟨by simp, fun h0 => ?_⟩, fun y hy => ?_, hm, hl⟩
    · have hc00 := (hg ⟨0, h0⟩).2 0 hk0
      rw [List.getElem?_eq_getElem (by rw [hf]; exact hk0)] at hc00
      have hspot : spot = none := by
        have := hc00
        simpa [Addr.add] using World.cell?_spot this
      subst hspot
      have hadd : ∀ b o j, (⟨b, o, none⟩ : Addr).add j = ⟨b, o + j, none⟩ := fun b o j => by unfold Addr.add; split <;> simp_all
      refine ⟨b, o, rfl, ?_, fun j hj i hi => ?_⟩
      · rw [hadd, hadd] at hc00
        exact World.block_lt_of_cell? w _ hc00
      · have hj' : j < len := by simpa using hj
        have := (hg ⟨j, hj'⟩).2 i hi
        rw [hadd, hadd] at this
        rw [List.getElem_ofFn]
        exact this
    · obtain ⟨i, rfl⟩ := List.mem_ofFn.1 hy
      exact (hg i).1
theorem nat_u8 {n : Int} (h : 0 ≤ n ∧ n ≤ 255) : ∃ m : Nat, n = (m : Int) ∧ m < 256 := ⟨n.toNat, by omega, by omega⟩
theorem nat_u16 {n : Int} (h : 0 ≤ n ∧ n ≤ 65535) : ∃ m : Nat, n = (m : Int) ∧ m < 65536 := ⟨n.toNat, by omega, by omega⟩
theorem nat_u32 {n : Int} (h : 0 ≤ n ∧ n ≤ 4294967295) : ∃ m : Nat, n = (m : Int) ∧ m < 4294967296 := ⟨n.toNat, by omega, by omega⟩
end Go.Proofs.Ytmceaocknlnmpaa.Rec
