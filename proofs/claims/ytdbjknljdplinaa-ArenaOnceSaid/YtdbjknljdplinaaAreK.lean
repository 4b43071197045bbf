/- What ids have been given, and what is in an arena. -/
import Derived.Test.YtdbjknljdplinaaAreJ
import Derived.Test.YtdbjknljdplinaaMapU
namespace Go.Proofs.Ytdbjknljdplinaa.Arena
open Go.ChangeShapes Go.WideShapes Go.ChangeAt Go.RowKit
set_option linter.unusedVariables false

/-- Behind k acts: A is such an arena, G knows what has been given, M what is in it. -/
def On (k : Nat) (A : Array Value) (G M : Nat → Option Value) : Prop := ∃ g t x, A = cA g t x ∧ (∀ i, i < 128 → g i ≤ k) ∧
  (∀ id, M id = if id < 65536 ∧ hs g t id = true then some (.int .i64 (x (id % 128))) else none) ∧
  (∀ id, G id ≠ none → G id = some (.bool true) ∧ id / 128 ≤ g (id % 128) ∧ (id / 128 = g (id % 128) → t (id % 128) = true))
theorem hs_iff {g : Nat → Nat} {t : Nat → Bool} {id : Nat} : hs g t id = true ↔ t (id % 128) = true ∧ g (id % 128) = id / 128 := by unfold hs; simp
theorem On.zero : On 0 zA (fun _ => none) (fun _ => none) :=
  ⟨fun _ => 0, fun _ => false, fun _ => 0, rfl, fun _ _ => Nat.le_refl _, fun id => by rw [if_neg (fun h => by have := (hs_iff.1 h.2).1; cases this)], fun id h => absurd rfl h⟩
theorem On.sizes {k : Nat} {A : Array Value} {G M : Nat → Option Value} (h : On k A G M) : A.size = 384 ∧ A.all (·.oneCell') = true := by
  obtain ⟨g, t, x, rfl, _⟩ := h
  exact ⟨cA_size, cA_one⟩
theorem On.drop {k : Nat} {A : Array Value} {G M : Nat → Option Value} (h : On k A G M) (hk : k ≤ 400) (id : Nat) (hi : id < 65536) : ∃ A', On (k + 1) A' G (fun y => if y = id then none else M y) ∧
    (∀ w, Calls Try.prog 50 #[.agg A, .int .u16 (id : Int)] w fun e w' => e = .returned (.agg A') ∧ Ext w w') := by
  obtain ⟨g, t, x, rfl, h1, h2, h3⟩ := h
  have hl : id % 128 < 128 := Nat.mod_lt _ (by omega)
  have hd := fun w => Arena.drop g t x id w hi (by have := h1 _ hl; omega)
  by_cases hh : hs g t id = true
  · obtain ⟨e1, e2⟩ := hs_iff.1 hh
    refine ⟨_, ⟨up g (id % 128) (g (id % 128) + 1), up t (id % 128) false, up x (id % 128) 0, rfl, fun i hi2 => ?_, fun y => ?_, fun y hy => ?_⟩, fun w => ?_⟩
    · have := h1 i hi2; unfold up; split
      · have := h1 _ hl; omega
      · omega
    · show (if y = id then none else M y) = _
      by_cases ey : y = id
      · rw [if_pos ey, if_neg]
        rintro ⟨_, hb⟩
        have := (hs_iff.1 hb).1
        rw [ey] at this; unfold up at this; rw [if_pos rfl] at this; cases this
      · rw [if_neg ey, h2 y]
        by_cases es : y % 128 = id % 128
        · rw [if_neg, if_neg]
          · rintro ⟨_, hb⟩
            have := (hs_iff.1 hb).1
            unfold up at this; rw [if_pos es] at this; cases this
          · rintro ⟨_, hb⟩
            have := (hs_iff.1 hb).2
            rw [es] at this; omega
        · have q : hs (up g (id % 128) (g (id % 128) + 1)) (up t (id % 128) false) y = hs g t y := by unfold hs up; rw [if_neg es, if_neg es]
          rw [q]
          unfold up; rw [if_neg es]
    · obtain ⟨a1, a2, a3⟩ := h3 y hy
      refine ⟨a1, ?_, fun e => ?_⟩
      · unfold up; split
        · rename_i es; rw [es] at a2; omega
        · exact a2
      · unfold up at e ⊢
        by_cases es : y % 128 = id % 128
        · rw [if_pos es] at e; rw [es] at a2; omega
        · rw [if_neg es] at e ⊢; exact a3 e
    · have := hd w; unfold eA at this; rw [if_pos hh] at this; exact this
  · refine ⟨_, ⟨g, t, x, rfl, fun i hi2 => by have := h1 i hi2; omega, fun y => ?_, h3⟩, fun w => ?_⟩
    · show (if y = id then none else M y) = _
      by_cases ey : y = id
      · rw [if_pos ey, if_neg]; rintro ⟨_, hb⟩; rw [ey] at hb; exact hh hb
      · rw [if_neg ey, h2 y]
    · have := hd w; unfold eA at this; rw [if_neg hh] at this; exact this
theorem idk_mem {g : Nat → Nat} {t : Nat → Bool} {y : Nat} (hg : ∀ i, i < 128 → g i ≤ 511) : y ∈ idk g t 128 ↔ y < 65536 ∧ hs g t y = true := by
  unfold idk
  rw [List.mem_map]
  constructor
  · rintro ⟨i, hi, rfl⟩
    obtain ⟨h1, h2⟩ := List.mem_filter.1 hi
    have h1 := List.mem_range.1 h1
    have := hg i h1
    refine ⟨by omega, hs_iff.2 ?_⟩
    rw [show (i + 128 * g i) % 128 = i by omega, show (i + 128 * g i) / 128 = g i by omega]
    exact ⟨h2, rfl⟩
  · rintro ⟨h1, h2⟩
    obtain ⟨e1, e2⟩ := hs_iff.1 h2
    exact ⟨y % 128, List.mem_filter.2 ⟨List.mem_range.2 (Nat.mod_lt _ (by omega)), e1⟩, by rw [e2]; omega⟩
theorem idk_nodup (g : Nat → Nat) (t : Nat → Bool) : (idk g t 128).Nodup := by
  unfold idk
  unfold List.Nodup
  rw [List.pairwise_map]
  refine List.Pairwise.imp_of_mem ?_ (List.Pairwise.filter t List.nodup_range)
  intro i j hi hj hne he
  have h1 := List.mem_range.1 (List.mem_filter.1 hi).1; have h2 := List.mem_range.1 (List.mem_filter.1 hj).1
  omega
theorem On.add {k : Nat} {A : Array Value} {G M : Nat → Option Value} (h : On k A G M) (hk : k ≤ 400) (v : Int) : ∃ A',
    (∃ m : Nat, m < 65536 ∧ G m = none ∧ On (k + 1) A' (fun y => if y = m then some (.bool true) else G y) (fun y => if y = m then some (.int .i64 v) else M y) ∧
      (∀ w, Calls Try.prog 54 #[.agg A, .int .i64 v] w fun e w' => e = .returned (.tuple #[.agg A', .int .u16 (m : Int), .bool true]) ∧ Ext w w')) ∨
    (On (k + 1) A' G M ∧ (∃ I : List Nat, I.Nodup ∧ (∀ y, y ∈ I ↔ M y ≠ none) ∧ I.length = 128) ∧
      (∀ w, Calls Try.prog 54 #[.agg A, .int .i64 v] w fun e w' => e = .returned (.tuple #[.agg A', .int .u16 0, .bool false]) ∧ Ext w w')) := by
  obtain ⟨g, t, x, rfl, h1, h2, h3⟩ := h
  have hd := fun w => Arena.add g t x v w (fun i hi => by have := h1 i hi; omega)
  cases hf : fnd g t with
  | none =>
    have hall : ∀ i, i < 128 → t i = true := fun i hi => by
      have := List.find?_eq_none.1 hf i (List.mem_range.2 hi)
      unfold ok at this
      rw [decide_eq_true (show g i ≤ 511 by have := h1 i hi; omega)] at this
      simpa using this
    refine ⟨_, .inr ⟨⟨g, t, x, rfl, fun i hi => by have := h1 i hi; omega, h2, h3⟩, ⟨idk g t 128, idk_nodup g t, fun y => ?_, ?_⟩, fun w => ?_⟩⟩
    · rw [idk_mem (fun i hi => by have := h1 i hi; omega), h2]
      by_cases hc : y < 65536 ∧ hs g t y = true
      · rw [if_pos hc]; simp [hc]
      · rw [if_neg hc]; simp [hc]
    · unfold idk
      rw [List.length_map, List.filter_eq_self.2 (fun i hi => hall i (List.mem_range.1 hi)), List.length_range]
    · have := hd w; unfold addR at this; rw [hf] at this; exact this
  | some i =>
    have hok := List.find?_some hf
    have hi : i < 128 := List.mem_range.1 (List.mem_of_find?_eq_some hf)
    have hok2 : t i = false ∧ g i ≤ 511 := by unfold ok at hok; simpa using hok
    obtain ⟨ht, hg5⟩ := hok2
    have em : (i + 128 * g i) % 128 = i := by omega
    have ed : (i + 128 * g i) / 128 = g i := by omega
    refine ⟨_, .inl ⟨i + 128 * g i, by omega, ?_, ⟨g, up t i true, up x i v, rfl, fun j hj => by have := h1 j hj; omega, fun y => ?_, fun y hy => ?_⟩, fun w => ?_⟩⟩
    · by_cases hG : G (i + 128 * g i) = none
      · exact hG
      · obtain ⟨_, _, a3⟩ := h3 _ hG
        rw [em, ed] at a3
        rw [a3 rfl] at ht; cases ht
    · show (if y = i + 128 * g i then some (.int .i64 v) else M y) = _
      by_cases ey : y = i + 128 * g i
      · rw [if_pos ey, if_pos, ey, em]
        · unfold up; rw [if_pos rfl]
        · rw [ey]
          refine ⟨by omega, hs_iff.2 ⟨?_, ?_⟩⟩
          · rw [em]; unfold up; rw [if_pos rfl]
          · rw [em, ed]
      · rw [if_neg ey, h2 y]
        by_cases es : y % 128 = i
        · rw [if_neg, if_neg]
          · rintro ⟨_, hb⟩
            have := (hs_iff.1 hb).2
            rw [es] at this; omega
          · rintro ⟨_, hb⟩
            have := (hs_iff.1 hb).1
            rw [es, ht] at this; cases this
        · have q : hs g (up t i true) y = hs g t y := by unfold hs up; rw [if_neg es]
          rw [q]; unfold up; rw [if_neg es]
    · have hy' : (if y = i + 128 * g i then some (Value.bool true) else G y) ≠ none := hy
      show (if y = i + 128 * g i then some (Value.bool true) else G y) = _ ∧ _
      by_cases ey : y = i + 128 * g i
      · rw [if_pos ey, ey, em, ed]
        exact ⟨rfl, Nat.le_refl _, fun _ => by unfold up; rw [if_pos rfl]⟩
      · rw [if_neg ey] at hy' ⊢
        obtain ⟨a1, a2, a3⟩ := h3 y hy'
        refine ⟨a1, a2, fun e => ?_⟩
        unfold up; split
        · rfl
        · exact a3 e
    · have := hd w; unfold addR at this; rw [hf] at this; exact this
theorem On.ids {k : Nat} {A : Array Value} {G M : Nat → Option Value} (h : On k A G M) (hk : k ≤ 400) : ∃ I : List Nat, I.Nodup ∧ (∀ y, y ∈ I ↔ M y ≠ none) ∧ I.length ≤ 128 ∧ (∀ w, Calls Try.prog 59 #[.agg A] w (IdPost w I)) ∧
    ∀ j, j < I.length → I.getD j 0 < 65536 ∧ ∃ v : Int, M (I.getD j 0) = some (.int .i64 v) ∧ (∀ w, Calls Try.prog 56 #[.agg A, .int .u16 ((I.getD j 0 : Nat) : Int)] w fun e w' => e = .returned (.tuple #[.int .i64 v, .bool true]) ∧ Ext w w') := by
  obtain ⟨g, t, x, rfl, h1, h2, h3⟩ := h
  have hmem : ∀ y, y ∈ idk g t 128 ↔ y < 65536 ∧ hs g t y = true := fun y => idk_mem (fun i hi => by have := h1 i hi; omega)
  refine ⟨idk g t 128, idk_nodup g t, fun y => ?_, idk_len g t 128, fun w => Arena.ids g t x w (fun i hi _ => by have := h1 i hi; omega), fun j hj => ?_⟩
  · rw [hmem, h2]
    by_cases hc : y < 65536 ∧ hs g t y = true
    · rw [if_pos hc]; simp [hc]
    · rw [if_neg hc]; simp [hc]
  · have hin : (idk g t 128).getD j 0 ∈ idk g t 128 := by rw [List.getD_eq_getElem?_getD, List.getElem?_eq_getElem hj]; exact List.getElem_mem hj
    obtain ⟨a1, a2⟩ := (hmem _).1 hin
    generalize (idk g t 128).getD j 0 = y at *
    refine ⟨a1, x (y % 128), by rw [h2, if_pos ⟨a1, a2⟩], fun w => ?_⟩
    have := Arena.get g t x y w a1 (by have := h1 (y % 128) (Nat.mod_lt _ (by omega)); omega)
    rw [a2, if_pos rfl] at this
    exact this
end Go.Proofs.Ytdbjknljdplinaa.Arena
