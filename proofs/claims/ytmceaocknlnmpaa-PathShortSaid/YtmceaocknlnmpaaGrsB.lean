/- A row of numbers that is taken from ahead and added to behind; a row of numbers known whole. -/
import Derived.Test.YtmceaocknlnmpaaP2
import Derived.Test.YtmceaocknlnmpaaP4
import Derived.Test.YtmceaocknlnmpaaP5
namespace Go.Proofs.Ytmceaocknlnmpaa.Grid
open Go.ChangeShapes Go.WideShapes Go.ChangeAt Go.RowKit Go.Shelf
set_option linter.unusedVariables false

theorem nums_eq (zs : List Nat) : Map32.nums zs = nums zs := rfl
def Wk (w : World) (base gl : Nat) (v : Value) (Q : List Nat) : Prop :=
  (∀ k, v.ownBlock = some k → base ≤ k ∧ k ≠ gl ∧ k < w.heap.size) ∧ ((Q = [] ∧ ∃ a, v = .slice (some a) 0 0) ∨ Map32.Sl w base 3 v Q)
section
variable {w w' : World} {base gl : Nat} {v : Value} {Q : List Nat}
theorem Wk.ext (h : Wk w base gl v Q) (e : Ext w w') : Wk w' base gl v Q :=
  ⟨fun k hk => by have := h.1 k hk; have := e.size; exact ⟨by omega, by omega, by omega⟩, h.2.imp id (fun s => s.ext e)⟩
theorem Wk.turn (h : Wk w base gl v Q) {g2 : Nat} (hg : w.heap.size ≤ g2 ∨ g2 < base) : Wk w base g2 v Q :=
  ⟨fun k hk => by have := h.1 k hk; exact ⟨by omega, by omega, by omega⟩, h.2⟩
theorem Wk.len (h : Wk w base gl v Q) : ∃ a c, v = .slice (some a) Q.length c := by
  rcases h.2 with ⟨rfl, a, rfl⟩ | hs
  · exact ⟨a, 0, rfl⟩
  · obtain ⟨g, o, cap, rfl, _⟩ := hs.shape
    exact ⟨_, cap, rfl⟩
theorem Wk.far (h : Wk w base gl v Q) {p : Addr} (hp : p.block < base) (u : Value) : Wk (w.setCell p u) base gl v Q := by
  refine ⟨fun k hk => by have := h.1 k hk; rw [show (w.setCell p u).heap.size = w.heap.size from by simp [World.setCell]]; exact this, h.2.imp id ?_⟩
  rintro ⟨g, o, cap, cur, rfl, hb, hh, r⟩
  exact ⟨g, o, cap, cur, rfl, hb, (Below.heap_setCell w p u g (by omega)).trans hh, r⟩
/-- It begins with a number. -/
theorem Wk.head {i : Nat} (h : Wk w base gl v (i :: Q)) : ∃ g o cap, v = .slice (some ⟨g, o, none⟩) (Q.length + 1) cap ∧ Q.length + 1 ≤ cap ∧ cap ≤ maxLen ∧ w.cell? ⟨g, o, none⟩ = some (.int .i64 (i : Int)) ∧
    (cap = 1 → Q = [] ∧ Wk w base gl (.slice (some ⟨g, o, none⟩) 0 0) []) ∧ (cap ≠ 1 → Wk w base gl (.slice (some ⟨g, o + 1, none⟩) Q.length (cap - 1)) Q) := by
  obtain ⟨hk, h | h⟩ := h
  · cases h.1
  · obtain ⟨g, o, cap, rfl, h1, h2, h3⟩ := h.shape
    have hl : (i :: Q).length = Q.length + 1 := rfl
    rw [hl] at h h1 hk ⊢
    refine ⟨g, o, cap, rfl, h1, h2, h.cells 0 (by simp), fun hc => ?_, fun hc => ⟨hk, .inr h.tail⟩⟩
    have : Q = [] := List.eq_nil_of_length_eq_zero (by omega)
    exact ⟨this, hk, .inl ⟨rfl, _, rfl⟩⟩
/-- One more behind it. -/
theorem wk_more (i : TypeInfo) (hi : Try.prog.info? 3 = some i) (hz : i.zero = some (.int .i64 0)) (hsize : i.size = 1) (hby : i.bytes = 8) (ty : TypeId) (h : Wk w base gl v Q) (a : Addr) (x : Nat) (hx : w.cell? a = some (.int .i64 (x : Int))) (hl : Q.length ≤ 1000) (hbase : base ≤ w.heap.size) (hgl : gl < w.heap.size) :
    ∃ v' w', (Builtin.append_ #[22, 22] ty #[v, .slice (some a) 1 1]).run Try.prog w = .ok v' w' ∧ Wk w' base gl v' (Q ++ [x]) ∧ w.grownBy w' v.ownBlock := by
  rcases h with ⟨hk, ⟨rfl, b, rfl⟩ | hs⟩
  · have hr := run_append_grow (P := Try.prog) w 22 ty 3 i (.int .i64 0) Try.underlying22 hi hz b 0 0 [] (by simp) (fun j u hj => by simp at hj) a 1 1 [Value.int .i64 (x : Int)] (by rw [hsize]; rfl)
      (fun j u hj => by
        match j, hj with
        | 0, hj => simp at hj; subst hj; simpa [Addr.add] using hx) (by omega) (by omega) (by rw [hby]; exact growslice_fits (by omega) (by omega))
    have hge := grownCap_ge w (0 + 1) 0 3
    have hcm : grownCap w (0 + 1) 0 3 ≤ maxLen := grownCap_le_maxLen w (0 + 1) 0 3 (by unfold maxLen; omega)
    refine ⟨_, _, hr, ⟨fun k hk' => ?_, .inr ⟨w.heap.size, 0, _, _, rfl, hbase, heap_alloc_new w.drew _, hge, hcm, ?_, ?_⟩⟩, ⟨rfl, rfl, rfl, by simp, fun k hk _ => Below.heap_alloc w.drew _ k hk⟩⟩
    · obtain rfl := Option.some.inj hk'
      exact ⟨hbase, (by show w.heap.size ≠ gl; omega), by simp⟩
    · simp only [Array.size_append, List.size_toArray, size_zeroCells, List.length_cons, List.length_nil]
      rw [show (Value.int .i64 0).cells.size = 1 from rfl]
      omega
    · simp [Map32.nums]
  · obtain ⟨v', w', h1, h2, h3, h4⟩ := Map32.run_more (P := Try.prog) 22 ty i (.int .i64 0) Try.underlying22 hi hz hsize hby rfl (.inr hs) a x hx hl hbase
    refine ⟨v', w', h1, ⟨fun k hk' => ?_, .inr h2⟩, h3⟩
    obtain ⟨g, e1, e2, e3⟩ := h2.block
    obtain rfl := Option.some.inj (e1.symm.trans hk')
    refine ⟨e2, ?_, e3⟩
    rcases h4 with h4 | h4
    · exact (hk g (h4.symm.trans e1)).2.1
    · have := Option.some.inj (h4.symm.trans e1); omega
end
theorem blk_grown {w w' : World} {g : Nat} {t : TypeId} {cs : Array Value} (h : Blk w g t cs) {row : Option Nat} (hg : w.grownBy w' row) (hne : row ≠ some g) : Blk w' g t cs :=
  (hg.block g h.lt (fun e => hne e.symm)).trans h
/-- A row that the call has just made, as a block. -/
theorem own_blk {w : World} {base e g n c : Nat} {o : Option _} {xs : List Value} (h : w.ownsRow base e 1 (.slice (some ⟨g, 0, o⟩) n c) n xs) : ∃ cur, o = none ∧ base ≤ g ∧ Blk w g e cur ∧ cur.toList.take n = xs ∧ cur.size = c ∧ n ≤ c := by
  rcases h.2 with ⟨hv, _⟩ | ⟨g', cap, cur, hv, hb, hg, h1, h2, h3, h4⟩
  · cases (Value.slice.inj hv).1
  · obtain ⟨e1, _, rfl⟩ := Value.slice.inj hv
    obtain ⟨rfl, _, rfl⟩ := Addr.mk.inj (Option.some.inj e1)
    exact ⟨cur, rfl, hb, hg, by rwa [Nat.mul_one] at h4, by rwa [Nat.mul_one] at h3, h1⟩
theorem take_cell {w : World} {g e : Nat} {cur : Array Value} {zs : List Nat} {n : Nat} (h : Blk w g e cur) (ht : cur.toList.take n = nums zs) (hn : zs.length = n) (j : Nat) (hj : j < n) : w.cell? ⟨g, j, none⟩ = some (.int .i64 ((zs.getD j 0 : Nat) : Int)) := by
  rw [h.cell j, ← Array.getElem?_toList]
  have := congrArg (fun l => l[j]?) ht
  simp only [List.getElem?_take, if_pos hj] at this
  rw [this]
  simp [nums, List.getD_eq_getElem?_getD, List.getElem?_eq_getElem (show j < zs.length by omega)]
def NB (w : World) (g : Nat) (s : List Nat) : Prop := Blk w g 3 (nums s).toArray
theorem NB.cell {w : World} {g : Nat} {s : List Nat} (h : NB w g s) {j : Nat} (hj : j < s.length) : w.cell? ⟨g, j, none⟩ = some (.int .i64 ((s.getD j 0 : Nat) : Int)) := by
  refine take_cell (n := s.length) h ?_ rfl j hj
  rw [List.take_of_length_le (by simp [nums])]
theorem NB.set {w : World} {g : Nat} {s : List Nat} (h : NB w g s) (j x : Nat) : NB (w.setCell ⟨g, j, none⟩ (.int .i64 (x : Int))) g (s.set j x) := by
  have := Blk.set_ h j (.int .i64 (x : Int))
  unfold NB
  rwa [show (nums (s.set j x)).toArray = (nums s).toArray.setIfInBounds j (.int .i64 (x : Int)) from by simp [nums, List.map_set]]
theorem NB.ext {w w' : World} {g : Nat} {s : List Nat} (h : NB w g s) (e : Ext w w') : NB w' g s := Blk.ext h e
theorem row_one {W w : World} {v : Value} {zs : List Nat} (h : Row W w v zs) (h0 : 0 < zs.length) : ∃ gl c cur, v = .slice (some ⟨gl, 0, none⟩) zs.length c ∧ W.heap.size ≤ gl ∧ Blk w gl 3 cur ∧ cur.toList.take zs.length = nums zs ∧ zs.length ≤ c := by
  rcases h.2 with ⟨_, hq⟩ | ⟨g, cap, cur, hv, hb, hg, h1, h2, h3, h4⟩
  · omega
  · exact ⟨g, cap, cur, hv, hb, hg, by rwa [Nat.mul_one] at h4, h1⟩
theorem nxt_pos {W H t : Nat} (hW : 4 ≤ W) : 0 < (nxt W H t).length := by
  have : t % W < W := Nat.mod_lt t (by omega)
  by_cases h : 0 < t % W
  · exact List.length_pos_of_mem ((nxt_mem (t - 1)).2 (.inr (.inr (.inr ⟨h, rfl⟩))))
  · exact List.length_pos_of_mem ((nxt_mem (t + 1)).2 (.inr (.inl ⟨by omega, rfl⟩)))
theorem zero_get (N j : Nat) : (List.replicate N 0).getD j 0 = 0 := by
  rw [List.getD_eq_getElem?_getD, List.getElem?_replicate]; split <;> rfl
theorem conv_zeros {w : World} {base g P c : Nat} (h : w.ownsRow base 5 1 (.slice (some ⟨g, 0, none⟩) P c) P (madeCells (Value.int .u8 0).cells (P * 1)).toList) :
    (convert 42 9 (.slice (some ⟨g, 0, none⟩) P c)).run Try.prog w = .ok (.string (strOf (List.replicate P 0))) w := by
  rw [Nat.mul_one, show (Value.int .u8 0).cells = #[.int .u8 0] from rfl, toList_madeCells_one (.int .u8 0) P] at h
  have h' : w.ownsRow base 5 1 (.slice (some ⟨g, 0, none⟩) P c) P (c8 (List.replicate P 0)) := by simpa [c8] using h
  exact (Bs.own h' (fun j => by rw [zero_get]; omega)).conv 42 5 9 Try.underlying42 Try.underlying5 Try.underlying9 c
theorem nums_zeros {w : World} {base g P : Nat} (h : w.ownsRow base 3 1 (.slice (some ⟨g, 0, none⟩) P P) P (madeCells (Value.int .i64 0).cells (P * 1)).toList) :
    NB w g (List.replicate P 0) := by
  rw [Nat.mul_one, show (Value.int .i64 0).cells = #[.int .i64 0] from rfl, toList_madeCells_one (.int .i64 0) P] at h
  obtain ⟨cur, _, _, hb, ht, hc, _⟩ := own_blk h
  unfold NB
  have : cur = (nums (List.replicate P 0)).toArray := by
    rw [List.take_of_length_le (by simp [hc])] at ht
    apply Array.toList_inj.1
    rw [ht]; simp [nums]
  rw [← this]; exact hb
theorem zeros_ok (P : Nat) : (strOf (List.replicate P 0)).size = P ∧ ∀ i, (hi : i < (strOf (List.replicate P 0)).size) → (strOf (List.replicate P 0))[i].toNat ≤ 2 := by
  have hs : (strOf (List.replicate P 0)).size = P := by rw [strOf_size]; simp
  refine ⟨hs, fun i hi => ?_⟩
  have h := nats_strOf (xs := List.replicate P 0) (fun j => by rw [zero_get]; omega)
  have h2 : (natsOf (strOf (List.replicate P 0))).getD i 0 = 0 := by rw [h, zero_get]
  have hl : i < (natsOf (strOf (List.replicate P 0))).length := by rw [natsOf_len]; exact hi
  have h3 : (natsOf (strOf (List.replicate P 0))).getD i 0 = (strOf (List.replicate P 0))[i].toNat := by
    rw [List.getD_eq_getElem?_getD, List.getElem?_eq_getElem hl]
    simp [natsOf]; rfl
  omega
end Go.Proofs.Ytmceaocknlnmpaa.Grid
