/- Contracts of package arena: Get, Set, Drop, Generation, Free. -/
import Derived.Test.YtdbjknljdplinaaAreA
namespace Go.Proofs.Ytdbjknljdplinaa.Arena
open Go.ChangeShapes Go.WideShapes Go.ChangeAt Go.RowKit
set_option linter.unusedVariables false

/-- Is there a thing of an id? -/
def hs (g : Nat → Nat) (t : Nat → Bool) (id : Nat) : Bool := t (id % 128) && decide (g (id % 128) = id / 128)
set_option maxHeartbeats 1000000 in
set_option maxRecDepth 100000 in
theorem has (b o id n : Nat) (t : Bool) (w : World) (hi : id < 65536) (hn : n < 65536) (h0 : w.cell? ⟨b, o, none⟩ = some (.int .u16 (n : Int))) (h1 : w.cell? ⟨b, o + 1, none⟩ = some (.bool t)) :
    Calls Try.prog 71 #[.pointer (some ⟨b, o, none⟩), .int .u16 (id : Int)] w fun e w' => e = .returned (.bool (t && decide (n = id / 128))) ∧ w = w' := by
  have q0 : (0 : Int) ≤ (id : Int) := by omega
  cases t with
  | false =>
    go_enter Try.func71, Try.ntmps71
    go_wp2_with fail
    go_ret
    exact ⟨rfl, rfl⟩
  | true =>
    have q1 : (id : Int).tdiv 128 = ((id / 128 : Nat) : Int) := by rw [Int.tdiv_eq_ediv_of_nonneg (by omega)]; omega
    have q2 : (id : Int) / 128 = ((id / 128 : Nat) : Int) := by omega
    obtain ⟨m, hm⟩ : ∃ m, m = id / 128 := ⟨_, rfl⟩
    rw [← hm] at q1 q2
    have hm2 : m < 512 := by omega
    rw [← hm]
    clear hm
    by_cases h : n = m
    · subst h
      go_enter Try.func71, Try.ntmps71
      go_wp2_with fail
      go_ret
      exact ⟨by simp, rfl⟩
    · have q3 : ((n : Int) == (m : Int)) = false := beq_eq_false_iff_ne.2 (by omega)
      have q4 : decide (n = m) = false := decide_eq_false h
      rw [q4]
      clear q4
      go_enter Try.func71, Try.ntmps71
      go_wp2_with fail
      go_ret
      exact ⟨rfl, rfl⟩
set_option maxHeartbeats 1000000 in
set_option maxRecDepth 100000 in
theorem get (g : Nat → Nat) (t : Nat → Bool) (x : Nat → Int) (id : Nat) (w : World) (hi : id < 65536) (hg : g (id % 128) < 65536) :
    Calls Try.prog 56 #[.agg (cA g t x), .int .u16 (id : Int)] w fun e w' => e = .returned (.tuple #[.int .i64 (if hs g t id then x (id % 128) else 0), .bool (hs g t id)]) ∧ Ext w w' := by
  have q1 : (id : Int).tmod 128 = ((id % 128 : Nat) : Int) := by rw [Int.tmod_eq_emod_of_nonneg (by omega)]; omega
  have q2 : (id : Int) % 128 = ((id % 128 : Nat) : Int) := by omega
  have hl : id % 128 < 128 := Nat.mod_lt _ (by omega)
  have HB := Lib.hid (Blk.new w 78 (cA g t x))
  have hC : Hid (∀ w', Blk w' w.heap.size 78 (cA g t x) → Calls Try.prog 71 #[.pointer (some ⟨w.heap.size, id % 128 * 3, none⟩), .int .u16 (id : Int)] w' fun e w2 => e = .returned (.bool (hs g t id)) ∧ w' = w2) :=
    Lib.hid (fun w' h => has _ _ id (g (id % 128)) (t (id % 128)) w' hi hg ((h.cell _).trans (cA_g hl)) ((h.cell _).trans (cA_t hl)))
  have hX := ((HB.out.cell (id % 128 * 3 + 2)).trans (cA_x hl))
  generalize hs g t id = b at hC ⊢
  generalize x (id % 128) = y at hX ⊢
  generalize hL : id % 128 = L at *
  clear hL
  have q3 : (0 : Int) ≤ (L : Int) := by omega
  have q4 : (L : Int) < 128 := by omega
  go_enter Try.func56, Try.ntmps56
  go_wp2_with fail
  refine (hC.out _ HB.out).mono ?_
  rintro e w1 ⟨rfl, rfl⟩
  clear hC
  cases b with
  | false =>
    go_wp2_with fail
    go_ret2
    exact ⟨rfl, ext_alloc (Ext.rfl' w) _⟩
  | true =>
    go_wp2_with fail
    go_ret2
    exact ⟨rfl, ext_alloc (Ext.rfl' w) _⟩
def dA (g : Nat → Nat) (t : Nat → Bool) (x : Nat → Int) (id : Nat) (v : Int) : Array Value := if hs g t id then cA g t (up x (id % 128) v) else cA g t x
set_option maxHeartbeats 2000000 in
set_option maxRecDepth 100000 in
theorem sets (g : Nat → Nat) (t : Nat → Bool) (x : Nat → Int) (id : Nat) (v : Int) (w : World) (hi : id < 65536) (hg : g (id % 128) < 65536) :
    Calls Try.prog 52 #[.agg (cA g t x), .int .u16 (id : Int), .int .i64 v] w fun e w' => e = .returned (.agg (dA g t x id v)) ∧ Ext w w' := by
  have q1 : (id : Int).tmod 128 = ((id % 128 : Nat) : Int) := by rw [Int.tmod_eq_emod_of_nonneg (by omega)]; omega
  have q2 : (id : Int) % 128 = ((id % 128 : Nat) : Int) := by omega
  have hl : id % 128 < 128 := Nat.mod_lt _ (by omega)
  have hC : Hid (∀ n w', Blk w' n 78 (cA g t x) → Calls Try.prog 71 #[.pointer (some ⟨n, id % 128 * 3, none⟩), .int .u16 (id : Int)] w' fun e w2 => e = .returned (.bool (hs g t id)) ∧ w' = w2) :=
    Lib.hid (fun n w' h => has _ _ id (g (id % 128)) (t (id % 128)) w' hi hg ((h.cell _).trans (cA_g hl)) ((h.cell _).trans (cA_t hl)))
  unfold dA
  generalize hs g t id = b at hC ⊢
  generalize hL : id % 128 = L at *
  clear hL
  have q3 : (0 : Int) ≤ (L : Int) := by omega
  have q4 : (L : Int) < 128 := by omega
  have q5 : L < 128 := by omega
  go_enter Try.func52, Try.ntmps52
  go_upto_region 1 with (refine wpList_allocZ rfl 78 rfl zA zeroA ?_)
  simp only [Act.put, List.setIfInBounds_toArray, List.set_cons_zero, List.set_cons_succ, World.size_alloc]
  obtain ⟨w1, hw1⟩ : ∃ W1, W1 = (w.alloc (.cells (cA g t x) 78)).alloc (.cells zA 78) := ⟨_, rfl⟩
  have B0 := Lib.hid ((Blk.new w 78 (cA g t x)).alloc (.cells zA 78))
  have B1 := Lib.hid (Blk.new1 w (.cells (cA g t x) 78) 78 zA)
  have HE := Lib.hid (ext_alloc (ext_alloc (Ext.rfl' w) (.cells (cA g t x) 78)) (.cells zA 78))
  rw [← hw1] at B0 B1 HE ⊢
  obtain ⟨n0, hn0⟩ : ∃ n, n = w.heap.size := ⟨_, rfl⟩
  rw [← hn0] at B0 B1 ⊢
  have hn1 : w.heap.size ≤ n0 := by omega
  clear hw1 hn0
  go_wp2_with fail
  refine (hC.out n0 _ B0.out).mono ?_
  rintro e w2 ⟨rfl, rfl⟩
  clear hC
  cases b with
  | false =>
    go_wp2_with (first | (refine wpList_load_row rfl 78 (.tmp 3) rfl n0 rfl 78 (cA g t x) (0, 0) _ B0.out Try.underlying78 rfl (by rw [cA_size]; exact sizeA) ?_) | (refine wpList_store_row rfl 78 (.tmp 6) (.tmp 19) rfl (n0 + 1) (cA g t x) rfl rfl 78 zA B1.out (by rw [cA_size]; exact sizeA) (by rw [cA_size]; exact cA_size) cA_one ?_))
    exact bodyPost_ret (results_cell_row Try.results52 _ _ (n0 + 1) 78 (cA g t x) (0, 0) _ rfl (setRow_blk B1.out) Try.underlying78 rfl (by rw [cA_size]; exact sizeA)) rfl ⟨rfl, ext_setRow HE.out (by omega) _⟩
  | true =>
    have f0 := B0.out.frozen (L * 3 + 2)
    have c0 := (B0.out.cell (L * 3 + 2)).trans (cA_x q5)
    have B2 := Lib.hid (show Blk (w1.setCell ⟨n0, L * 3 + 2, none⟩ (.int .i64 v)) n0 78 (cA g t (up x L v)) from by rw [← cA_set_x]; exact B0.out.set_ _ _)
    have B3 := Lib.hid (show Blk (w1.setCell ⟨n0, L * 3 + 2, none⟩ (.int .i64 v)) (n0 + 1) 78 zA from B1.out.far (by show n0 + 1 ≠ n0; omega) _)
    have HE2 := Lib.hid (ext_set HE.out (p := ⟨n0, L * 3 + 2, none⟩) (by show w.heap.size ≤ n0; omega) (.int .i64 v))
    go_wp2_with (first | (refine wpList_load_row rfl 78 (.tmp 3) rfl n0 rfl 78 (cA g t (up x L v)) (0, 0) _ B2.out Try.underlying78 rfl (by rw [cA_size]; exact sizeA) ?_) | (refine wpList_store_row rfl 78 (.tmp 6) (.tmp 19) rfl (n0 + 1) (cA g t (up x L v)) rfl rfl 78 zA B3.out (by rw [cA_size]; exact sizeA) (by rw [cA_size]; exact cA_size) cA_one ?_))
    exact bodyPost_ret (results_cell_row Try.results52 _ _ (n0 + 1) 78 (cA g t (up x L v)) (0, 0) _ rfl (setRow_blk B3.out) Try.underlying78 rfl (by rw [cA_size]; exact sizeA)) rfl ⟨rfl, ext_setRow HE2.out (by omega) _⟩
def eA (g : Nat → Nat) (t : Nat → Bool) (x : Nat → Int) (id : Nat) : Array Value := if hs g t id then cA (up g (id % 128) (g (id % 128) + 1)) (up t (id % 128) false) (up x (id % 128) 0) else cA g t x
set_option maxHeartbeats 2000000 in
set_option maxRecDepth 100000 in
theorem drop (g : Nat → Nat) (t : Nat → Bool) (x : Nat → Int) (id : Nat) (w : World) (hi : id < 65536) (hg : g (id % 128) ≤ 512) :
    Calls Try.prog 50 #[.agg (cA g t x), .int .u16 (id : Int)] w fun e w' => e = .returned (.agg (eA g t x id)) ∧ Ext w w' := by
  have q1 : (id : Int).tmod 128 = ((id % 128 : Nat) : Int) := by rw [Int.tmod_eq_emod_of_nonneg (by omega)]; omega
  have q2 : (id : Int) % 128 = ((id % 128 : Nat) : Int) := by omega
  have hl : id % 128 < 128 := Nat.mod_lt _ (by omega)
  have hC : Hid (∀ n w', Blk w' n 78 (cA g t x) → Calls Try.prog 71 #[.pointer (some ⟨n, id % 128 * 3, none⟩), .int .u16 (id : Int)] w' fun e w2 => e = .returned (.bool (hs g t id)) ∧ w' = w2) :=
    Lib.hid (fun n w' h => has _ _ id (g (id % 128)) (t (id % 128)) w' hi (by omega) ((h.cell _).trans (cA_g hl)) ((h.cell _).trans (cA_t hl)))
  unfold eA
  generalize hs g t id = b at hC ⊢
  generalize hL : id % 128 = L at *
  clear hL
  have q3 : (0 : Int) ≤ (L : Int) := by omega
  have q4 : (L : Int) < 128 := by omega
  have q5 : L < 128 := by omega
  go_enter Try.func50, Try.ntmps50
  go_upto_region 1 with (refine wpList_allocZ rfl 78 rfl zA zeroA ?_)
  simp only [Act.put, List.setIfInBounds_toArray, List.set_cons_zero, List.set_cons_succ, World.size_alloc]
  obtain ⟨w1, hw1⟩ : ∃ W1, W1 = (w.alloc (.cells (cA g t x) 78)).alloc (.cells zA 78) := ⟨_, rfl⟩
  have B0 := Lib.hid ((Blk.new w 78 (cA g t x)).alloc (.cells zA 78))
  have B1 := Lib.hid (Blk.new1 w (.cells (cA g t x) 78) 78 zA)
  have HE := Lib.hid (ext_alloc (ext_alloc (Ext.rfl' w) (.cells (cA g t x) 78)) (.cells zA 78))
  rw [← hw1] at B0 B1 HE ⊢
  obtain ⟨n0, hn0⟩ : ∃ n, n = w.heap.size := ⟨_, rfl⟩
  rw [← hn0] at B0 B1 ⊢
  have hn1 : w.heap.size ≤ n0 := by omega
  clear hw1 hn0
  go_wp2_with fail
  refine (hC.out n0 _ B0.out).mono ?_
  rintro e w2 ⟨rfl, rfl⟩
  clear hC
  cases b with
  | false =>
    go_wp2_with (first | (refine wpList_load_row rfl 78 (.tmp 2) rfl n0 rfl 78 (cA g t x) (0, 0) _ B0.out Try.underlying78 rfl (by rw [cA_size]; exact sizeA) ?_) | (refine wpList_store_row rfl 78 (.tmp 4) (.tmp 21) rfl (n0 + 1) (cA g t x) rfl rfl 78 zA B1.out (by rw [cA_size]; exact sizeA) (by rw [cA_size]; exact cA_size) cA_one ?_))
    exact bodyPost_ret (results_cell_row Try.results50 _ _ (n0 + 1) 78 (cA g t x) (0, 0) _ rfl (setRow_blk B1.out) Try.underlying78 rfl (by rw [cA_size]; exact sizeA)) rfl ⟨rfl, ext_setRow HE.out (by omega) _⟩
  | true =>
    have f0 := B0.out.frozen (L * 3); have f1 := B0.out.frozen (L * 3 + 1); have f2 := B0.out.frozen (L * 3 + 2)
    have c0 := (B0.out.cell (L * 3)).trans (cA_g q5); have c1 := (B0.out.cell (L * 3 + 1)).trans (cA_t q5); have c2 := (B0.out.cell (L * 3 + 2)).trans (cA_x q5)
    have hgu : ((g L + 1 : Nat) : Int) = (g L : Int) + 1 := Int.natCast_add _ _
    have B2 := Lib.hid (show Blk (((w1.setCell ⟨n0, L * 3, none⟩ (.int .u16 ((g L : Int) + 1))).setCell ⟨n0, L * 3 + 1, none⟩ (.bool false)).setCell ⟨n0, L * 3 + 2, none⟩ (.int .i64 0)) n0 78 (cA (up g L (g L + 1)) (up t L false) (up x L 0)) from by rw [← cA_set_x, ← cA_set_t, ← cA_set_g, hgu]; exact ((B0.out.set_ _ _).set_ _ _).set_ _ _)
    have B3 := Lib.hid (show Blk (((w1.setCell ⟨n0, L * 3, none⟩ (.int .u16 ((g L : Int) + 1))).setCell ⟨n0, L * 3 + 1, none⟩ (.bool false)).setCell ⟨n0, L * 3 + 2, none⟩ (.int .i64 0)) (n0 + 1) 78 zA from ((B1.out.far (by show n0 + 1 ≠ n0; omega) _).far (by show n0 + 1 ≠ n0; omega) _).far (by show n0 + 1 ≠ n0; omega) _)
    have HE2 := Lib.hid (show Ext w (((w1.setCell ⟨n0, L * 3, none⟩ (.int .u16 ((g L : Int) + 1))).setCell ⟨n0, L * 3 + 1, none⟩ (.bool false)).setCell ⟨n0, L * 3 + 2, none⟩ (.int .i64 0)) from ext_set (ext_set (ext_set HE.out (by show w.heap.size ≤ n0; omega) _) (by show w.heap.size ≤ n0; omega) _) (by show w.heap.size ≤ n0; omega) _)
    clear hgu
    go_wp2_with (first | (refine wpList_load_row rfl 78 (.tmp 2) rfl n0 rfl 78 (cA (up g L (g L + 1)) (up t L false) (up x L 0)) (0, 0) _ B2.out Try.underlying78 rfl (by rw [cA_size]; exact sizeA) ?_) | (refine wpList_store_row rfl 78 (.tmp 4) (.tmp 21) rfl (n0 + 1) (cA (up g L (g L + 1)) (up t L false) (up x L 0)) rfl rfl 78 zA B3.out (by rw [cA_size]; exact sizeA) (by rw [cA_size]; exact cA_size) cA_one ?_))
    exact bodyPost_ret (results_cell_row Try.results50 _ _ (n0 + 1) 78 (cA (up g L (g L + 1)) (up t L false) (up x L 0)) (0, 0) _ rfl (setRow_blk B3.out) Try.underlying78 rfl (by rw [cA_size]; exact sizeA)) rfl ⟨rfl, ext_setRow HE2.out (by omega) _⟩
set_option maxHeartbeats 1000000 in
set_option maxRecDepth 100000 in
theorem generation (g : Nat → Nat) (t : Nat → Bool) (x : Nat → Int) (i : Nat) (w : World) (hi : i < 128) (hg : g i < 65536) :
    Calls Try.prog 69 #[.agg (cA g t x), .int .i64 (i : Int)] w fun e w' => e = .returned (.int .i64 ((g i : Nat) : Int)) ∧ Ext w w' := by
  have hX := ((Blk.new w 78 (cA g t x)).cell (i * 3)).trans (cA_g hi)
  generalize g i = n at hX hg ⊢
  have q1 : (0 : Int) ≤ (i : Int) := by omega
  have q2 : (i : Int) < 128 := by omega
  go_enter Try.func69, Try.ntmps69
  go_wp2_with fail
  go_ret
  exact ⟨rfl, ext_alloc (Ext.rfl' w) _⟩
set_option maxHeartbeats 1000000 in
set_option maxRecDepth 100000 in
theorem generation_no (cs : Array Value) (i : Int) (w : World) (hi : i < 0 ∨ 128 ≤ i) :
    Calls Try.prog 69 #[.agg cs, .int .i64 i] w fun e w' => e = .returned (.int .i64 (-1)) ∧ Ext w w' := by
  by_cases h : i < 0
  · clear hi
    go_enter Try.func69, Try.ntmps69
    go_wp2_with fail
    go_ret
    exact ⟨rfl, ext_alloc (Ext.rfl' w) _⟩
  · have h2 : 128 ≤ i := by omega
    have h3 : 0 ≤ i := by omega
    clear hi h
    go_enter Try.func69, Try.ntmps69
    go_wp2_with fail
    go_ret
    exact ⟨rfl, ext_alloc (Ext.rfl' w) _⟩
set_option maxHeartbeats 1000000 in
set_option maxRecDepth 100000 in
theorem free (g : Nat → Nat) (t : Nat → Bool) (x : Nat → Int) (i : Nat) (w : World) (hi : i < 128) :
    Calls Try.prog 70 #[.agg (cA g t x), .int .i64 (i : Int)] w fun e w' => e = .returned (.bool (!t i)) ∧ Ext w w' := by
  have hX := ((Blk.new w 78 (cA g t x)).cell (i * 3 + 1)).trans (cA_t hi)
  generalize t i = n at hX ⊢
  have q1 : (0 : Int) ≤ (i : Int) := by omega
  have q2 : (i : Int) < 128 := by omega
  go_enter Try.func70, Try.ntmps70
  go_wp2_with fail
  go_ret
  exact ⟨rfl, ext_alloc (Ext.rfl' w) _⟩
set_option maxHeartbeats 1000000 in
set_option maxRecDepth 100000 in
theorem free_no (cs : Array Value) (i : Int) (w : World) (hi : i < 0 ∨ 128 ≤ i) :
    Calls Try.prog 70 #[.agg cs, .int .i64 i] w fun e w' => e = .returned (.bool false) ∧ Ext w w' := by
  by_cases h : i < 0
  · clear hi
    go_enter Try.func70, Try.ntmps70
    go_wp2_with fail
    go_ret
    exact ⟨rfl, ext_alloc (Ext.rfl' w) _⟩
  · have h2 : 128 ≤ i := by omega
    have h3 : 0 ≤ i := by omega
    clear hi h
    go_enter Try.func70, Try.ntmps70
    go_wp2_with fail
    go_ret
    exact ⟨rfl, ext_alloc (Ext.rfl' w) _⟩
end Go.Proofs.Ytdbjknljdplinaa.Arena
