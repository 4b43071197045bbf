/- A block that is known whole, and what keeps it so. -/
import Derived.Test.YtdbjknljdplinaaBase
import Derived.Laws.OwnMore
import Derived.Laws.Rows
namespace Go.Proofs.Ytdbjknljdplinaa
open Go.ChangeShapes Go.WideShapes Go.ChangeAt Go.RowKit
theorem kc {a b : World} {B o : Nat} {v : Value} (hb : Ext a b) (h : a.cell? ⟨B, o, none⟩ = some v) : b.cell? ⟨B, o, none⟩ = some v :=
  (hb.cell (p := ⟨B, o, none⟩) (World.block_lt_of_cell? a _ h)).trans h
/-- Block g is just these cells, none of them frozen. -/
def Blk (w : World) (g : Nat) (t : TypeId) (cs : Array Value) : Prop := w.heap[g]? = some (.cells cs t (0, 0))
section
variable {w w' : World} {g : Nat} {t : TypeId} {cs : Array Value}
theorem Blk.lt (h : Blk w g t cs) : g < w.heap.size := by
  rcases Nat.lt_or_ge g w.heap.size with hl | hl
  · exact hl
  · unfold Blk at h; rw [Array.getElem?_eq_none hl] at h; cases h
theorem Blk.cell (h : Blk w g t cs) (i : Nat) : w.cell? ⟨g, i, none⟩ = cs[i]? := cell_of_row w g i cs t (0, 0) h
theorem Blk.frozen (h : Blk w g t cs) (i : Nat) : w.frozen? ⟨g, i, none⟩ = false := by
  unfold Blk at h
  simp [World.frozen?, h]
theorem Blk.new (w : World) (t : TypeId) (cs : Array Value) : Blk (w.alloc (.cells cs t)) w.heap.size t cs := heap_alloc_new w _
theorem Blk.new1 (w : World) (o : Obj) (t : TypeId) (cs : Array Value) : Blk ((w.alloc o).alloc (.cells cs t)) (w.heap.size + 1) t cs := by
  have := Blk.new (w.alloc o) t cs
  rwa [World.size_alloc] at this
theorem Blk.newD (w : World) (t : TypeId) (cs : Array Value) : Blk (w.drew.alloc (.cells cs t)) w.heap.size t cs := Blk.new w.drew t cs
theorem Blk.new1D (w : World) (o : Obj) (t : TypeId) (cs : Array Value) : Blk ((w.drew.alloc o).alloc (.cells cs t)) (w.heap.size + 1) t cs := Blk.new1 w.drew o t cs
theorem Blk.newS (w : World) (p q : Addr) (a b : Value) (t : TypeId) (cs : Array Value) : Blk (((w.setCell p a).setCell q b).alloc (.cells cs t)) w.heap.size t cs := by
  have h := Blk.new ((w.setCell p a).setCell q b) t cs
  have e : ((w.setCell p a).setCell q b).heap.size = w.heap.size := by simp [World.setCell]
  rwa [e] at h
theorem Blk.drew (h : Blk w g t cs) : Blk w.drew g t cs := h
theorem Blk.drewN (h : Blk w g t cs) (n : Nat) : Blk (w.drewN n) g t cs := h
theorem Blk.alloc (h : Blk w g t cs) (o : Obj) : Blk (w.alloc o) g t cs := (Below.heap_alloc w o g h.lt).trans h
theorem Blk.set_ (h : Blk w g t cs) (i : Nat) (u : Value) : Blk (w.setCell ⟨g, i, none⟩ u) g t (cs.setIfInBounds i u) := by
  unfold Blk at h ⊢
  simp [World.setCell, Array.getElem?_modify, h]
theorem Blk.far (h : Blk w g t cs) {p : Addr} (hp : g ≠ p.block) (u : Value) : Blk (w.setCell p u) g t cs := (Below.heap_setCell w p u g hp).trans h
theorem Blk.ext (h : Blk w g t cs) (hb : Ext w w') : Blk w' g t cs := (hb.block g h.lt).trans h
theorem Blk.two {a b : Value} (h : Blk w g t #[a, b]) : w.cell? ⟨g, 0, none⟩ = some a ∧ w.cell? ⟨g, 1, none⟩ = some b ∧ w.frozen? ⟨g, 0, none⟩ = false ∧ w.frozen? ⟨g, 1, none⟩ = false :=
  ⟨h.cell 0, h.cell 1, h.frozen 0, h.frozen 1⟩
theorem Blk.put2 {a b c d : Value} (h : Blk w g t #[a, b]) : Blk ((w.setCell ⟨g, 0, none⟩ c).setCell ⟨g, 1, none⟩ d) g t #[c, d] := (h.set_ 0 c).set_ 1 d
theorem Blk.far2 {g' : Nat} {c d : Value} (h : Blk w g t cs) (hne : g ≠ g') : Blk ((w.setCell ⟨g', 0, none⟩ c).setCell ⟨g', 1, none⟩ d) g t cs := (h.far hne c).far hne d
theorem size_put2 (w : World) (p q : Addr) (c d : Value) : ((w.setCell p c).setCell q d).heap.size = w.heap.size := by simp [World.setCell]
theorem ext_put2 {a w : World} {g : Nat} (h : Ext a w) (hg : a.heap.size ≤ g) (c d : Value) : Ext a ((w.setCell ⟨g, 0, none⟩ c).setCell ⟨g, 1, none⟩ d) := ext_set (ext_set h hg c) hg d
end
end Go.Proofs.Ytdbjknljdplinaa
