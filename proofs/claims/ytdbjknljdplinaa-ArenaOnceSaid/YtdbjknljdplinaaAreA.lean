/- Arenas as rows of cells: the code's (slot by slot), the document's (three rows); laws at what loads, stores, makes them whole. -/
import Derived.Test.YtdbjknljdplinaaRows
import Derived.Test.YtdbjknljdplinaaBlk
import Derived.Laws.Rows
import Derived.Laws.Tables
import Derived.WalkKit
import Derived.ProofKit
import Derived.OpenShut
import Derived.Outline
import Derived.Lib.Hide
import Derived.WalkLawsBesides
import Derived.BigQuiet
import Derived.Deep.QuietTactic
import Derived.IntWalk
import Derived.OrdersHeld
import Derived.Deep.RegionHeld
import Derived.RegionTactic
import Derived.Deep.LoopGhost
import Derived.Deep.CutRange
import Derived.Deep.DeepCutAuto
import Derived.BigRegion
namespace Go.Proofs.Ytdbjknljdplinaa.Arena
open Go.ChangeShapes Go.WideShapes Go.ChangeAt Go.RowKit
set_option linter.unusedVariables false

/-- Slot by slot: its generation, whether it is taken, its thing. -/
def cA (g : Nat → Nat) (t : Nat → Bool) (x : Nat → Int) : Array Value := Array.ofFn (n := 384) fun k =>
  if k.val % 3 = 0 then .int .u16 ((g (k.val / 3) : Nat) : Int) else if k.val % 3 = 1 then .bool (t (k.val / 3)) else .int .i64 (x (k.val / 3))
/-- The generations, the things, which are used. -/
def cR (g : Nat → Nat) (t : Nat → Bool) (x : Nat → Int) : Array Value := Array.ofFn (n := 384) fun k =>
  if k.val < 128 then .int .i64 ((g k.val : Nat) : Int) else if k.val < 256 then .int .i64 (x (k.val - 128)) else .bool (t (k.val - 256))
def up {α : Type} (f : Nat → α) (i : Nat) (v : α) (j : Nat) : α := if j = i then v else f j
section
variable {g : Nat → Nat} {t : Nat → Bool} {x : Nat → Int} {i : Nat}
theorem cA_size : (cA g t x).size = 384 := by simp [cA]
theorem cR_size : (cR g t x).size = 384 := by simp [cR]
theorem cA_get {k : Nat} (h : k < 384) : (cA g t x)[k]? = some (if k % 3 = 0 then .int .u16 ((g (k / 3) : Nat) : Int) else if k % 3 = 1 then .bool (t (k / 3)) else .int .i64 (x (k / 3))) := by
  unfold cA; rw [Array.getElem?_ofFn, dif_pos h]
theorem cR_get {k : Nat} (h : k < 384) : (cR g t x)[k]? = some (if k < 128 then .int .i64 ((g k : Nat) : Int) else if k < 256 then .int .i64 (x (k - 128)) else .bool (t (k - 256))) := by
  unfold cR; rw [Array.getElem?_ofFn, dif_pos h]
theorem cA_g (h : i < 128) : (cA g t x)[i * 3]? = some (.int .u16 ((g i : Nat) : Int)) := by
  rw [cA_get (by omega), if_pos (by omega), show i * 3 / 3 = i by omega]
theorem cA_t (h : i < 128) : (cA g t x)[i * 3 + 1]? = some (.bool (t i)) := by
  rw [cA_get (by omega), if_neg (by omega), if_pos (by omega), show (i * 3 + 1) / 3 = i by omega]
theorem cA_x (h : i < 128) : (cA g t x)[i * 3 + 2]? = some (.int .i64 (x i)) := by
  rw [cA_get (by omega), if_neg (by omega), if_neg (by omega), show (i * 3 + 2) / 3 = i by omega]
theorem cR_g (h : i < 128) : (cR g t x)[i]? = some (.int .i64 ((g i : Nat) : Int)) := by rw [cR_get (by omega), if_pos h]
theorem cR_x (h : i < 128) : (cR g t x)[128 + i]? = some (.int .i64 (x i)) := by
  rw [cR_get (by omega), if_neg (by omega), if_pos (by omega), show 128 + i - 128 = i by omega]
theorem cR_t (h : i < 128) : (cR g t x)[256 + i]? = some (.bool (t i)) := by
  rw [cR_get (by omega), if_neg (by omega), if_neg (by omega), show 256 + i - 256 = i by omega]
theorem cA_one : (cA g t x).all (·.oneCell') = true := by
  rw [Array.all_eq_true]
  intro k hk
  have h1 := cA_get (g := g) (t := t) (x := x) (k := k) (by rw [cA_size] at hk; exact hk)
  rw [Array.getElem?_eq_getElem hk] at h1
  rw [Option.some.inj h1]
  split
  · rfl
  · split <;> rfl
theorem cR_one : (cR g t x).all (·.oneCell') = true := by
  rw [Array.all_eq_true]
  intro k hk
  have h1 := cR_get (g := g) (t := t) (x := x) (k := k) (by rw [cR_size] at hk; exact hk)
  rw [Array.getElem?_eq_getElem hk] at h1
  rw [Option.some.inj h1]
  split
  · rfl
  · split <;> rfl
theorem ext_get {a b : Array Value} (ha : a.size = 384) (hb : b.size = 384) (h : ∀ k, k < 384 → a[k]? = b[k]?) : a = b := by
  apply Array.ext_getElem?
  intro k
  by_cases hk : k < 384
  · exact h k hk
  · rw [Array.getElem?_eq_none (by omega), Array.getElem?_eq_none (by omega)]
theorem cA_set_g (n : Nat) : (cA g t x).setIfInBounds (i * 3) (.int .u16 (n : Int)) = cA (up g i n) t x := by
  refine ext_get (by simp [cA_size]) cA_size fun k hk => ?_
  rw [Array.getElem?_setIfInBounds, cA_get hk, cA_get hk, cA_size]
  unfold up
  by_cases h : i * 3 = k
  · subst h; rw [if_pos rfl, if_pos hk, if_pos (by omega), if_pos (by omega)]
  · rw [if_neg h]
    by_cases h0 : k % 3 = 0
    · rw [if_pos h0, if_pos h0, if_neg (by omega)]
    · rw [if_neg h0, if_neg h0]
theorem cA_set_t (b : Bool) : (cA g t x).setIfInBounds (i * 3 + 1) (.bool b) = cA g (up t i b) x := by
  refine ext_get (by simp [cA_size]) cA_size fun k hk => ?_
  rw [Array.getElem?_setIfInBounds, cA_get hk, cA_get hk, cA_size]
  unfold up
  by_cases h : i * 3 + 1 = k
  · subst h; rw [if_pos rfl, if_pos hk, if_neg (by omega), if_pos (by omega), if_pos (by omega)]
  · rw [if_neg h]
    by_cases h1 : k % 3 = 1
    · rw [if_pos h1, if_pos h1, if_neg (by omega : ¬ k / 3 = i)]
    · rw [if_neg h1, if_neg h1]
theorem cA_set_x (n : Int) : (cA g t x).setIfInBounds (i * 3 + 2) (.int .i64 n) = cA g t (up x i n) := by
  refine ext_get (by simp [cA_size]) cA_size fun k hk => ?_
  rw [Array.getElem?_setIfInBounds, cA_get hk, cA_get hk, cA_size]
  unfold up
  by_cases h : i * 3 + 2 = k
  · subst h; rw [if_pos rfl, if_pos hk, if_neg (by omega), if_neg (by omega), if_pos (by omega)]
  · rw [if_neg h]
    by_cases h0 : k % 3 = 0
    · rw [if_pos h0, if_pos h0]
    · by_cases h1 : k % 3 = 1
      · rw [if_neg h0, if_neg h0, if_pos h1, if_pos h1]
      · rw [if_neg h0, if_neg h0, if_neg h1, if_neg h1, if_neg (by omega : ¬ k / 3 = i)]
theorem cR_set_g (h128 : i < 128) (n : Nat) : (cR g t x).setIfInBounds i (.int .i64 (n : Int)) = cR (up g i n) t x := by
  refine ext_get (by simp [cR_size]) cR_size fun k hk => ?_
  rw [Array.getElem?_setIfInBounds, cR_get hk, cR_get hk, cR_size]
  unfold up
  by_cases h : i = k
  · subst h; rw [if_pos rfl, if_pos hk, if_pos h128, if_pos rfl]
  · rw [if_neg h]
    by_cases h0 : k < 128
    · rw [if_pos h0, if_pos h0, if_neg (by omega)]
    · rw [if_neg h0, if_neg h0]
theorem cR_set_x (h128 : i < 128) (n : Int) : (cR g t x).setIfInBounds (128 + i) (.int .i64 n) = cR g t (up x i n) := by
  refine ext_get (by simp [cR_size]) cR_size fun k hk => ?_
  rw [Array.getElem?_setIfInBounds, cR_get hk, cR_get hk, cR_size]
  unfold up
  by_cases h : 128 + i = k
  · subst h; rw [if_pos rfl, if_pos hk, if_neg (by omega), if_pos (by omega), if_pos (by omega)]
  · rw [if_neg h]
    by_cases h0 : k < 128
    · rw [if_pos h0, if_pos h0]
    · by_cases h1 : k < 256
      · rw [if_neg h0, if_neg h0, if_pos h1, if_pos h1, if_neg (by omega : ¬ k - 128 = i)]
      · rw [if_neg h0, if_neg h0, if_neg h1, if_neg h1]
theorem cR_set_t (h128 : i < 128) (b : Bool) : (cR g t x).setIfInBounds (256 + i) (.bool b) = cR g (up t i b) x := by
  refine ext_get (by simp [cR_size]) cR_size fun k hk => ?_
  rw [Array.getElem?_setIfInBounds, cR_get hk, cR_get hk, cR_size]
  unfold up
  by_cases h : 256 + i = k
  · subst h; rw [if_pos rfl, if_pos hk, if_neg (by omega), if_neg (by omega), if_pos (by omega)]
  · rw [if_neg h]
    by_cases h0 : k < 128
    · rw [if_pos h0, if_pos h0]
    · by_cases h1 : k < 256
      · rw [if_neg h0, if_neg h0, if_pos h1, if_pos h1]
      · rw [if_neg h0, if_neg h0, if_neg h1, if_neg h1, if_neg (by omega : ¬ k - 256 = i)]
end
/-- At first. -/
def zA : Array Value := cA (fun _ => 0) (fun _ => false) (fun _ => 0)
def zR : Array Value := cR (fun _ => 0) (fun _ => false) (fun _ => 0)
theorem zeroA : (Try.prog.info? 78).bind (·.zero) = some (.agg zA) := by kernel_rfl
theorem zeroR : (Try.prog.info? 82).bind (·.zero) = some (.agg zR) := by kernel_rfl
theorem sizeA : (Try.prog.info? 78).map (·.size) = some 384 := by kernel_rfl
theorem sizeR : (Try.prog.info? 82).map (·.size) = some 384 := by kernel_rfl
section
variable {P : Program}
theorem wpList_allocZ {ops : Array Oper} {rest : List Oper} {o : Oper} {a : Act} {w : World} {Q : Exit → Act → World → Prop} (hg : o.guard = none) (t : TypeId) (ho : o.op = .alloc t)
    (cells : Array Value) (hz : (P.info? t).bind (·.zero) = some (.agg cells)) (h : wpList P ops Q rest (a.put o.dst (.pointer (some ⟨w.heap.size, 0, none⟩))) (w.alloc (.cells cells t))) : wpList P ops Q (o :: rest) a w := by
  obtain ⟨i, hi, hz'⟩ := Option.bind_eq_some_iff.1 hz
  refine wpList_plain hg fun K hK => ?_
  have hr : (zeroValue t).run P w = .ok (.agg cells) w := by simp [zeroValue, typeInfo, hi, hz']
  unfold Oper.wp execOp
  simp only [ho, Sem.run_bind, Instr.alloc, hr, newVar, newRow, run_newObj_alloc, Sem.run_pure, Result.andThen_ok, Value.cells]
  exact hK _ _ h
theorem yields_row {ops : Array Oper} {S : World → Prop} {o : Oper} {a : Act} (hw : Region.wanted o (yielded ops a.tmps) = true) (ty : TypeId) (x : Operand) (ho : o.op = .load ty x)
    (g : Nat) (hx : a.eval x = .pointer (some ⟨g, 0, none⟩)) (t : TypeId) (cs : Array Value) (d : TypeDesc) (hg : ∀ w, S w → w.heap[g]? = some (.cells cs t (0, 0)))
    (hu : P.underlying ty = some d) (hd : (match d with | .struct _ | .array _ _ => true | _ => false) = true) (hi : (P.info? ty).map (·.size) = some cs.size) : YieldsIf P ops S o (.agg cs) a := by
  refine .inl ⟨hw, fun w hS => ?_⟩
  unfold execOp
  simp only [ho, hx, Instr.loadAt, Instr.sureAddr, Sem.run_bind, Sem.run_pure, Result.andThen_ok, run_loadVar_row w g t ty cs (0, 0) d (hg w hS) hu hd hi]
theorem want {ops : Array Oper} {o : Oper} {a : Act} {X : Prop} {w : World} {K : Act → World → Prop} {Q : Exit → Act → World → Prop} (hw : Region.wanted o (yielded ops a.tmps) = true) (h : o.wp P a w K Q) : if Region.wanted o (yielded ops a.tmps) = true then o.wp P a w K Q else X := by
  rw [if_pos hw]; exact h
theorem results_cell3 {fn : Func} {p q r : Tmp} {ty : TypeId} (h : fn.results = #[.cell p ty, .tmp q, .tmp r]) (tmps : Array Value) (w : World) (g : Nat) (t : TypeId) (cs : Array Value) (fr : Nat × Nat) (d : TypeDesc)
    (hp : tmps.getD p undef = .pointer (some ⟨g, 0, none⟩)) (hg : w.heap[g]? = some (.cells cs t fr)) (b c : Value) (hq : tmps.getD q undef = b) (hr : tmps.getD r undef = c)
    (hu : P.underlying ty = some d) (hd : (match d with | .struct _ | .array _ _ => true | _ => false) = true) (hi : (P.info? ty).map (·.size) = some cs.size) :
    (results fn tmps).run P w = .ok (.tuple #[.agg cs, b, c]) w := by
  have hp' : tmps[p]?.getD undef = .pointer (some ⟨g, 0, none⟩) := by simpa using hp
  have hq' : tmps[q]?.getD undef = b := by simpa using hq
  have hr' : tmps[r]?.getD undef = c := by simpa using hr
  simp [results, h, hp', hq', hr', asAddr, run_loadVar_row w g t ty cs fr d hg hu hd hi]
theorem results_cell2 {fn : Func} {p q : Tmp} {ty : TypeId} (h : fn.results = #[.cell p ty, .tmp q]) (tmps : Array Value) (w : World) (g : Nat) (t : TypeId) (cs : Array Value) (fr : Nat × Nat) (d : TypeDesc)
    (hp : tmps.getD p undef = .pointer (some ⟨g, 0, none⟩)) (hg : w.heap[g]? = some (.cells cs t fr)) (b : Value) (hq : tmps.getD q undef = b)
    (hu : P.underlying ty = some d) (hd : (match d with | .struct _ | .array _ _ => true | _ => false) = true) (hi : (P.info? ty).map (·.size) = some cs.size) :
    (results fn tmps).run P w = .ok (.tuple #[.agg cs, b]) w := by
  have hp' : tmps[p]?.getD undef = .pointer (some ⟨g, 0, none⟩) := by simpa using hp
  have hq' : tmps[q]?.getD undef = b := by simpa using hq
  simp [results, h, hp', hq', asAddr, run_loadVar_row w g t ty cs fr d hg hu hd hi]
end
theorem ext_setRow {a w : World} (h : Ext a w) {g : Nat} (hg : a.heap.size ≤ g) (cs : Array Value) : Ext a (w.setRow g cs) :=
  ⟨h.os, h.tape, h.output, by have := h.size; simpa [World.setRow] using this, fun k hk => (setRow_other w g k cs (by omega)).trans (h.block k hk)⟩
theorem setRow_blk {w : World} {g : Nat} {t : TypeId} {old cs : Array Value} (k : Blk w g t old) : Blk (w.setRow g cs) g t cs := setRow_heap w g old cs t (0, 0) k
theorem setRow_far {w : World} {g h : Nat} {t : TypeId} {cs ds : Array Value} (k : Blk w g t cs) (hne : g ≠ h) : Blk (w.setRow h ds) g t cs := (setRow_other w h g ds hne).trans k
end Go.Proofs.Ytdbjknljdplinaa.Arena
