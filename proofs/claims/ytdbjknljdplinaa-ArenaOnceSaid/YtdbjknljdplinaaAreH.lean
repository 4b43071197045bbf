/- The code's arena beside the document's: what each act does to both. -/
import Derived.Test.YtdbjknljdplinaaAreG
namespace Go.Proofs.Ytdbjknljdplinaa.Arena
open Go.ChangeShapes Go.WideShapes Go.ChangeAt Go.RowKit
set_option linter.unusedVariables false

/-- The one holds what the other does. -/
def Tw (A R : Array Value) : Prop := ∃ g t x, (∀ i, i < 128 → g i ≤ 512) ∧ (∀ i, i < 128 → t i = true → g i ≤ 511) ∧ A = cA g t x ∧ R = cR g t x
theorem Tw.sizes {A R : Array Value} (h : Tw A R) : A.size = 384 ∧ R.size = 384 ∧ A.all (·.oneCell') = true ∧ R.all (·.oneCell') = true := by
  obtain ⟨g, t, x, _, _, rfl, rfl⟩ := h
  exact ⟨cA_size, cR_size, cA_one, cR_one⟩
theorem Tw.zero : Tw zA zR := ⟨fun _ => 0, fun _ => false, fun _ => 0, fun _ _ => Nat.zero_le _, fun _ _ h => Bool.noConfusion h, rfl, rfl⟩
theorem Tw.same {A R : Array Value} (h : Tw A R) (w : World) : Calls Try.prog 58 #[.agg A, .agg R] w fun e w' => e = .returned (.bool true) ∧ Ext w w' := by
  obtain ⟨g, t, x, h1, h2, rfl, rfl⟩ := h
  exact Arena.same g t x w h1 h2
theorem up_le {g : Nat → Nat} {i n m : Nat} (h : ∀ j, j < 128 → g j ≤ m) (hn : n ≤ m) : ∀ j, j < 128 → up g i n j ≤ m := fun j hj => by
  unfold up; split
  · exact hn
  · exact h j hj
theorem Tw.drop {A R : Array Value} (h : Tw A R) (id : Nat) (hi : id < 65536) : ∃ A' R', Tw A' R' ∧
    (∀ w, Calls Try.prog 50 #[.agg A, .int .u16 (id : Int)] w fun e w' => e = .returned (.agg A') ∧ Ext w w') ∧
    (∀ w, Calls Try.prog 51 #[.agg R, .int .i64 (id : Int)] w fun e w' => e = .returned (.agg R') ∧ Ext w w') := by
  obtain ⟨g, t, x, h1, h2, rfl, rfl⟩ := h
  have hl : id % 128 < 128 := Nat.mod_lt _ (by omega)
  have hd := fun w => Arena.drop g t x id w hi (h1 _ hl)
  have hr := fun w => rdrop g t x id w hi (h1 _ hl)
  by_cases hh : hs g t id = true
  · have ht : t (id % 128) = true := by unfold hs at hh; simp at hh; exact hh.1
    have h5 := h2 _ hl ht
    refine ⟨_, _, ⟨up g (id % 128) (g (id % 128) + 1), up t (id % 128) false, up x (id % 128) 0, up_le h1 (by omega), fun i hi2 ht2 => ?_, rfl, rfl⟩, fun w => ?_, fun w => ?_⟩
    · unfold up at ht2 ⊢
      by_cases e : i = id % 128
      · rw [if_pos e] at ht2; cases ht2
      · rw [if_neg e] at ht2 ⊢; exact h2 i hi2 ht2
    · have := hd w; unfold eA at this; rw [if_pos hh] at this; exact this
    · have := hr w; unfold eR at this; rw [if_pos hh] at this; exact this
  · refine ⟨_, _, ⟨g, t, x, h1, h2, rfl, rfl⟩, fun w => ?_, fun w => ?_⟩
    · have := hd w; unfold eA at this; rw [if_neg hh] at this; exact this
    · have := hr w; unfold eR at this; rw [if_neg hh] at this; exact this
theorem Tw.set {A R : Array Value} (h : Tw A R) (id : Nat) (v : Int) (hi : id < 65536) : ∃ A' R', Tw A' R' ∧
    (∀ w, Calls Try.prog 52 #[.agg A, .int .u16 (id : Int), .int .i64 v] w fun e w' => e = .returned (.agg A') ∧ Ext w w') ∧
    (∀ w, Calls Try.prog 53 #[.agg R, .int .i64 (id : Int), .int .i64 v] w fun e w' => e = .returned (.agg R') ∧ Ext w w') := by
  obtain ⟨g, t, x, h1, h2, rfl, rfl⟩ := h
  have hl : id % 128 < 128 := Nat.mod_lt _ (by omega)
  have hd := fun w => Arena.sets g t x id v w hi (by have := h1 _ hl; omega)
  have hr := fun w => rset g t x id v w hi (h1 _ hl)
  by_cases hh : hs g t id = true
  · refine ⟨_, _, ⟨g, t, up x (id % 128) v, h1, h2, rfl, rfl⟩, fun w => ?_, fun w => ?_⟩
    · have := hd w; unfold dA at this; rw [if_pos hh] at this; exact this
    · have := hr w; unfold dR at this; rw [if_pos hh] at this; exact this
  · refine ⟨_, _, ⟨g, t, x, h1, h2, rfl, rfl⟩, fun w => ?_, fun w => ?_⟩
    · have := hd w; unfold dA at this; rw [if_neg hh] at this; exact this
    · have := hr w; unfold dR at this; rw [if_neg hh] at this; exact this
theorem Tw.add {A R : Array Value} (h : Tw A R) (v : Int) : ∃ A' R', Tw A' R' ∧
    ((∃ m : Nat, m ≤ 65535 ∧ (∀ w, Calls Try.prog 54 #[.agg A, .int .i64 v] w fun e w' => e = .returned (.tuple #[.agg A', .int .u16 (m : Int), .bool true]) ∧ Ext w w') ∧
      (∀ w, Calls Try.prog 55 #[.agg R, .int .i64 v] w fun e w' => e = .returned (.tuple #[.agg R', .int .i64 (m : Int)]) ∧ Ext w w')) ∨
     ((∀ w, Calls Try.prog 54 #[.agg A, .int .i64 v] w fun e w' => e = .returned (.tuple #[.agg A', .int .u16 0, .bool false]) ∧ Ext w w') ∧
      (∀ w, Calls Try.prog 55 #[.agg R, .int .i64 v] w fun e w' => e = .returned (.tuple #[.agg R', .int .i64 (-1)]) ∧ Ext w w'))) := by
  obtain ⟨g, t, x, h1, h2, rfl, rfl⟩ := h
  have hd := fun w => Arena.add g t x v w h1
  have hr := fun w => radd g t x v w h1
  cases hf : fnd g t with
  | none =>
    refine ⟨_, _, ⟨g, t, x, h1, h2, rfl, rfl⟩, .inr ⟨fun w => ?_, fun w => ?_⟩⟩
    · have := hd w; unfold addR at this; rw [hf] at this; exact this
    · have := hr w; unfold raddR at this; rw [hf] at this; exact this
  | some i =>
    have hok := List.find?_some hf
    have hi : i < 128 := List.mem_range.1 (List.mem_of_find?_eq_some hf)
    have hg5 : g i ≤ 511 := by unfold ok at hok; simp at hok; exact hok.2
    refine ⟨_, _, ⟨g, up t i true, up x i v, h1, fun j hj ht => ?_, rfl, rfl⟩, .inl ⟨i + 128 * g i, by omega, fun w => ?_, fun w => ?_⟩⟩
    · by_cases e : j = i
      · rw [e]; exact hg5
      · unfold up at ht; rw [if_neg e] at ht; exact h2 j hj ht
    · have := hd w; unfold addR at this; rw [hf] at this; exact this
    · have := hr w; unfold raddR at this; rw [hf] at this; exact this
theorem Tw.get {A R : Array Value} (h : Tw A R) (id : Nat) (hi : id < 65536) : ∃ (b : Bool) (v : Int), (b = false → v = 0) ∧ (b = true → R[128 + id % 128]? = some (.int .i64 v)) ∧
    (∀ w, Calls Try.prog 56 #[.agg A, .int .u16 (id : Int)] w fun e w' => e = .returned (.tuple #[.int .i64 v, .bool b]) ∧ Ext w w') ∧
    (∀ w, Calls Try.prog 57 #[.agg R, .int .i64 (id : Int)] w fun e w' => e = .returned (.bool b) ∧ Ext w w') := by
  obtain ⟨g, t, x, h1, h2, rfl, rfl⟩ := h
  have hl : id % 128 < 128 := Nat.mod_lt _ (by omega)
  refine ⟨hs g t id, if hs g t id then x (id % 128) else 0, fun hb => by rw [hb]; rfl, fun hb => by rw [hb]; exact cR_x hl, fun w => Arena.get g t x id w hi (by have := h1 _ hl; omega), fun w => rhas g t x id w hi (h1 _ hl)⟩
/-- A slice reads as these acts. -/
def Acts (w : World) (A : Option Addr) (n : Nat) (ls : List (Nat × Nat × Int)) : Prop :=
  ls.length = n ∧ (∀ a ∈ ls, a.1 < 256 ∧ a.2.1 < 65536) ∧ (0 < n → ∃ b o, A = some ⟨b, o, none⟩ ∧ b < w.heap.size ∧ ∀ j (hj : j < ls.length),
    w.cell? ⟨b, o + j * 3, none⟩ = some (.int .u8 ((ls[j].1 : Nat) : Int)) ∧ w.cell? ⟨b, o + j * 3 + 1, none⟩ = some (.int .u16 ((ls[j].2.1 : Nat) : Int)) ∧ w.cell? ⟨b, o + j * 3 + 2, none⟩ = some (.int .i64 ls[j].2.2))
theorem Acts.ext {w w' : World} {A : Option Addr} {n : Nat} {ls : List (Nat × Nat × Int)} (h : Acts w A n ls) (e : Ext w w') : Acts w' A n ls :=
  ⟨h.1, h.2.1, fun h0 => by
    obtain ⟨b, o, rfl, hb, hc⟩ := h.2.2 h0
    refine ⟨b, o, rfl, Nat.lt_of_lt_of_le hb e.size, fun j hj => ?_⟩
    obtain ⟨c1, c2, c3⟩ := hc j hj
    exact ⟨(e.cell (p := ⟨b, _, none⟩) hb).trans c1, (e.cell (p := ⟨b, _, none⟩) hb).trans c2, (e.cell (p := ⟨b, _, none⟩) hb).trans c3⟩⟩
theorem wp_allocZ {P : Program} {o : Oper} {a : Act} {w : World} {K : Act → World → Prop} {Q : Exit → Act → World → Prop} (t : TypeId) (ho : o.op = .alloc t)
    (cells : Array Value) (hz : (P.info? t).bind (·.zero) = some (.agg cells)) (h : K (a.put o.dst (.pointer (some ⟨w.heap.size, 0, none⟩))) (w.alloc (.cells cells t))) : o.wp P a w K Q := by
  obtain ⟨i, hi, hz'⟩ := Option.bind_eq_some_iff.1 hz
  have hr : (zeroValue t).run P w = .ok (.agg cells) w := by simp [zeroValue, typeInfo, hi, hz']
  unfold Oper.wp execOp
  simp only [ho, Sem.run_bind, Instr.alloc, hr, newVar, newRow, run_newObj_alloc, Sem.run_pure, Result.andThen_ok, Value.cells]
  exact h
theorem four (w : World) (t1 t2 : TypeId) (X Y : Array Value) : Blk ((((w.alloc (.cells X t1)).alloc (.cells X t1)).alloc (.cells Y t2)).alloc (.cells Y t2)) w.heap.size t1 X ∧
    Blk ((((w.alloc (.cells X t1)).alloc (.cells X t1)).alloc (.cells Y t2)).alloc (.cells Y t2)) (w.heap.size + 1) t1 X ∧
    Blk ((((w.alloc (.cells X t1)).alloc (.cells X t1)).alloc (.cells Y t2)).alloc (.cells Y t2)) (w.heap.size + 1 + 1) t2 Y ∧
    Blk ((((w.alloc (.cells X t1)).alloc (.cells X t1)).alloc (.cells Y t2)).alloc (.cells Y t2)) (w.heap.size + 1 + 1 + 1) t2 Y ∧
    Ext w ((((w.alloc (.cells X t1)).alloc (.cells X t1)).alloc (.cells Y t2)).alloc (.cells Y t2)) := by
  refine ⟨(((Blk.new _ _ _).alloc _).alloc _).alloc _, ((Blk.new1 _ _ _ _).alloc _).alloc _, ?_, ?_, ext_alloc (ext_alloc (ext_alloc (ext_alloc (Ext.rfl' _) _) _) _) _⟩
  · have := (Blk.new1 (w.alloc (.cells X t1)) (.cells X t1) t2 Y).alloc (.cells Y t2)
    rwa [World.size_alloc] at this
  · have := Blk.new1 ((w.alloc (.cells X t1)).alloc (.cells X t1)) (.cells Y t2) t2 Y
    rwa [World.size_alloc, World.size_alloc] at this
end Go.Proofs.Ytdbjknljdplinaa.Arena
