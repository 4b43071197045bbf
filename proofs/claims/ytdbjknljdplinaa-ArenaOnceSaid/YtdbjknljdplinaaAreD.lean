/- The document's arena: Add, Has, Set, Drop. -/
import Derived.Test.YtdbjknljdplinaaAreC
namespace Go.Proofs.Ytdbjknljdplinaa.Arena
open Go.ChangeShapes Go.WideShapes Go.ChangeAt Go.RowKit
set_option linter.unusedVariables false

set_option maxHeartbeats 4000000 in
set_option maxRecDepth 100000 in
theorem radd (g : Nat → Nat) (t : Nat → Bool) (x : Nat → Int) (v : Int) (w : World) (hg : ∀ i, i < 128 → g i ≤ 512) :
    Calls Try.prog 55 #[.agg (cR g t x), .int .i64 v] w fun e w' => e = .returned (raddR g t x v) ∧ Ext w w' := by
  have HG := Lib.hid hg
  clear hg
  go_enter Try.func55, Try.ntmps55
  go_upto_region 1 with (refine wpList_allocZ rfl 82 rfl zR zeroR ?_)
  try simp only [Act.put, List.setIfInBounds_toArray, List.set_cons_zero, List.set_cons_succ, World.size_alloc]
  obtain ⟨w1, hw1⟩ : ∃ W1, W1 = (w.alloc (.cells (cR g t x) 82)).alloc (.cells zR 82) := ⟨_, rfl⟩
  have B0 := Lib.hid ((Blk.new w 82 (cR g t x)).alloc (.cells zR 82))
  have B1 := Lib.hid (Blk.new1 w (.cells (cR g t x) 82) 82 zR)
  have HE := Lib.hid (ext_alloc (ext_alloc (Ext.rfl' w) (.cells (cR g t x) 82)) (.cells zR 82))
  rw [← hw1] at B0 B1 HE ⊢
  obtain ⟨n0, hn0⟩ : ∃ n, n = w.heap.size := ⟨_, rfl⟩
  rw [← hn0] at B0 B1 ⊢
  have hn1 : w.heap.size ≤ n0 := by omega
  clear hw1 hn0
  go_wp2_with fail
  go_loopw [6] (fun iv wr => ARel w1 g t iv wr) (fun iv _ => 128 - (intOf iv).toNat)
  case atStart => exact ⟨0, by omega, rfl, fun j hj => by omega, rfl⟩
  case round =>
    obtain ⟨k, hk, rfl, hn, rfl⟩ := hrel
    have HN := Lib.hid hn
    clear hn
    by_cases hlt : k < 128
    · have q1 : (0 : Int) ≤ (k : Int) := by omega
      have q2 : (k : Int) < 128 := by omega
      have c0 := (B0.out.cell k).trans (cR_g hlt)
      have c1 := (B0.out.cell (256 + k)).trans (cR_t hlt)
      have hgk := HG.out k hlt
      cases htk : t k with
      | true =>
        have HOK : Hid (ok g t k = false) := Lib.hid (by unfold ok; rw [htk]; rfl)
        rw [htk] at c1
        clear htk
        go_wp2_with fail
        go_roundw
        case rel => exact arel_next hlt HN.out HOK.out rfl (by go_num)
        case measure => simp [intOf]; omega
      | false =>
        rw [htk] at c1
        by_cases h5 : g k ≤ 511
        · have HOK : Hid (ok g t k = true) := Lib.hid (by unfold ok; rw [htk, decide_eq_true h5]; rfl)
          clear htk
          have q3 : ((g k : Nat) : Int) < 512 := by omega
          generalize hgk2 : g k = n at c0 q3 hgk h5
          have HGK := Lib.hid hgk2
          clear hgk2
          have f1 := B0.out.frozen (256 + k); have f2 := B0.out.frozen (128 + k)
          have c2 := (B0.out.cell (128 + k)).trans (cR_x hlt)
          have B2 := Lib.hid (show Blk ((w1.setCell ⟨n0, 256 + k, none⟩ (.bool true)).setCell ⟨n0, 128 + k, none⟩ (.int .i64 v)) n0 82 (cR g (up t k true) (up x k v)) from by rw [← cR_set_x hlt, ← cR_set_t hlt]; exact (B0.out.set_ _ _).set_ _ _)
          have B3 := Lib.hid (show Blk ((w1.setCell ⟨n0, 256 + k, none⟩ (.bool true)).setCell ⟨n0, 128 + k, none⟩ (.int .i64 v)) (n0 + 1) 82 zR from (B1.out.far (by show n0 + 1 ≠ n0; omega) _).far (by show n0 + 1 ≠ n0; omega) _)
          have HE2 := Lib.hid (ext_set (ext_set HE.out (p := ⟨n0, 256 + k, none⟩) (by show w.heap.size ≤ n0; omega) (.bool true)) (p := ⟨n0, 128 + k, none⟩) (by show w.heap.size ≤ n0; omega) (.int .i64 v))
          go_wp2_with fail
          obtain ⟨wx, hwx⟩ : ∃ W9 : World, W9 = (w1.setCell ⟨n0, 256 + k, none⟩ (.bool true)).setCell ⟨n0, 128 + k, none⟩ (.int .i64 v) := ⟨_, rfl⟩
          rw [← hwx] at B2 B3 HE2 ⊢
          obtain ⟨CS, hCS⟩ : ∃ CS, CS = cR g (up t k true) (up x k v) := ⟨_, rfl⟩
          have HZ : Hid (CS.size = 384) := Lib.hid (by rw [hCS]; exact cR_size)
          have HO : Hid (CS.all (·.oneCell') = true) := Lib.hid (by rw [hCS]; exact cR_one)
          have HC : Hid (CS[k]? = some (.int .i64 (n : Int))) := Lib.hid (by rw [hCS, cR_g hlt, HGK.out])
          rw [← hCS] at B2
          have HCS := Lib.hid hCS
          clear hCS
          have HX0 := Lib.hid (show SR n0 CS wx.drew from B2.out.drew)
          have r2 : IntKind.i64.wrap (128 * (n : Int)) = 128 * (n : Int) := IntWalk.i64_in _ (by omega)
          have r3 : IntKind.i64.wrap ((k : Int) + 128 * (n : Int)) = (k : Int) + 128 * (n : Int) := IntWalk.i64_in _ (by omega)
          clear hwx c0 c1 c2 f1 f2
          refine wp_region_held_drew (S := SR n0 CS) hmx HX0.out (fun _ => ?_)
          refine wpAnyH_take (i := 0) (oi := { dst := some 30, op := Go.Op.load 82 (Go.Operand.tmp 2), type := 82, pos := "ref.go:17", after := #[], guard := none }) rfl (by kernel_rfl) (by kernel_rfl) (by kernel_rfl) (fun _ _ _ h => h) (yields_row (by rfl) 82 (.tmp 2) rfl n0 rfl 82 (CS) _ (fun _ h => h) Try.underlying82 rfl (by rw [HZ.out]; exact sizeR)) HX0.out ?_
          (try simp only [Act.put, List.setIfInBounds_toArray, List.set_cons_zero, List.set_cons_succ])
          (refine wpAnyH_take (i := 1) (oi := { dst := some 31, op := Go.Op.move (Go.Operand.tmp 6), type := 3, pos := "ref.go:17", after := #[{ on := 8, ground := Go.Ground.gcOnly Go.Departure.lateStores }], guard := none }) (v := ?_) rfl (by kernel_rfl) (by kernel_rfl) (by kernel_rfl) (fun _ _ _ h => h) (Or.inl ⟨by rfl, ?_⟩) HX0.out ?_); rotate_left
          · (intro w' hSw; have c0 := (Blk.cell hSw k).trans HC.out; go_simp; try with_reducible rfl)
          (try simp only [Act.put, List.setIfInBounds_toArray, List.set_cons_zero, List.set_cons_succ])
          (refine wpAnyH_take (i := 2) (oi := { dst := some 32, op := Go.Op.move (Go.Operand.tmp 6), type := 3, pos := "ref.go:17", after := #[{ on := 8, ground := Go.Ground.gcOnly Go.Departure.lateStores }], guard := none }) (v := ?_) rfl (by kernel_rfl) (by kernel_rfl) (by kernel_rfl) (fun _ _ _ h => h) (Or.inl ⟨by rfl, ?_⟩) HX0.out ?_); rotate_left
          · (intro w' hSw; have c0 := (Blk.cell hSw k).trans HC.out; go_simp; try with_reducible rfl)
          (try simp only [Act.put, List.setIfInBounds_toArray, List.set_cons_zero, List.set_cons_succ])
          (refine wpAnyH_take (i := 3) (oi := { dst := some 33, op := Go.Op.fieldAddr 82 (Go.Operand.tmp 2) 0, type := 0, pos := "ref.go:17", after := #[{ on := 8, ground := Go.Ground.gcOnly Go.Departure.lateStores }], guard := none }) (v := ?_) rfl (by kernel_rfl) (by kernel_rfl) (by kernel_rfl) (fun _ _ _ h => h) (Or.inl ⟨by rfl, ?_⟩) HX0.out ?_); rotate_left
          · (intro w' hSw; have c0 := (Blk.cell hSw k).trans HC.out; go_simp; try with_reducible rfl)
          (try simp only [Act.put, List.setIfInBounds_toArray, List.set_cons_zero, List.set_cons_succ])
          (refine wpAnyH_take (i := 4) (oi := { dst := some 34, op := Go.Op.indexAddr 79 (Go.Operand.tmp 33) (Go.Operand.tmp 32), type := 0, pos := "ref.go:17", after := #[{ on := 3, ground := Go.Ground.data }, { on := 2, ground := Go.Ground.data }, { on := 8, ground := Go.Ground.gcOnly Go.Departure.lateStores }], guard := none }) (v := ?_) rfl (by kernel_rfl) (by kernel_rfl) (by kernel_rfl) (fun _ _ _ h => h) (Or.inl ⟨by rfl, ?_⟩) HX0.out ?_); rotate_left
          · (intro w' hSw; have c0 := (Blk.cell hSw k).trans HC.out; go_simp; try with_reducible rfl)
          (try simp only [Act.put, List.setIfInBounds_toArray, List.set_cons_zero, List.set_cons_succ])
          (refine wpAnyH_take (i := 5) (oi := { dst := some 35, op := Go.Op.load 3 (Go.Operand.tmp 34), type := 3, pos := "ref.go:17", after := #[{ on := 4, ground := Go.Ground.data }, { on := 8, ground := Go.Ground.gcOnly Go.Departure.lateStores }], guard := none }) (v := ?_) rfl (by kernel_rfl) (by kernel_rfl) (by kernel_rfl) (fun _ _ _ h => h) (Or.inl ⟨by rfl, ?_⟩) HX0.out ?_); rotate_left
          · (intro w' hSw; have c0 := (Blk.cell hSw k).trans HC.out; go_simp; try with_reducible rfl)
          (try simp only [Act.put, List.setIfInBounds_toArray, List.set_cons_zero, List.set_cons_succ])
          (refine wpAnyH_take (i := 6) (oi := { dst := some 36, op := Go.Op.binOp Go.BinOp.mul 3 (Go.Operand.const (Go.Value.int Go.IntKind.i64 128)) (Go.Operand.tmp 35) 3, type := 3, pos := "ref.go:17", after := #[{ on := 5, ground := Go.Ground.data }, { on := 8, ground := Go.Ground.gcOnly Go.Departure.lateStores }], guard := none }) (v := ?_) rfl (by kernel_rfl) (by kernel_rfl) (by kernel_rfl) (fun _ _ _ h => h) (Or.inl ⟨by rfl, ?_⟩) HX0.out ?_); rotate_left
          · (intro w' hSw; have c0 := (Blk.cell hSw k).trans HC.out; go_simp; try with_reducible rfl)
          (try simp only [Act.put, List.setIfInBounds_toArray, List.set_cons_zero, List.set_cons_succ])
          (refine wpAnyH_take (i := 7) (oi := { dst := some 37, op := Go.Op.binOp Go.BinOp.add 3 (Go.Operand.tmp 31) (Go.Operand.tmp 36) 3, type := 3, pos := "ref.go:17", after := #[{ on := 1, ground := Go.Ground.data }, { on := 6, ground := Go.Ground.data }, { on := 8, ground := Go.Ground.gcOnly Go.Departure.lateStores }], guard := none }) (v := ?_) rfl (by kernel_rfl) (by kernel_rfl) (by kernel_rfl) (fun _ _ _ h => h) (Or.inl ⟨by rfl, ?_⟩) HX0.out ?_); rotate_left
          · (intro w' hSw; have c0 := (Blk.cell hSw k).trans HC.out; go_simp; try with_reducible rfl)
          (try simp only [Act.put, List.setIfInBounds_toArray, List.set_cons_zero, List.set_cons_succ])
          refine wpAnyH_ready (rs := [8]) (by kernel_rfl) (by simp) ?_
          refine AllReadyH.cons (o := { dst := none, op := Go.Op.store 82 (Go.Operand.tmp 4) (Go.Operand.tmp 30), type := 0, pos := "ref.go:17", after := #[{ on := 0, ground := Go.Ground.data }, { on := 0, ground := Go.Ground.phase }, { on := 1, ground := Go.Ground.textOnly Go.Departure.lateStores }, { on := 2, ground := Go.Ground.textOnly Go.Departure.lateStores }, { on := 3, ground := Go.Ground.textOnly Go.Departure.lateStores }, { on := 4, ground := Go.Ground.textOnly Go.Departure.lateStores }, { on := 5, ground := Go.Ground.textOnly Go.Departure.lateStores }, { on := 6, ground := Go.Ground.textOnly Go.Departure.lateStores }, { on := 7, ground := Go.Ground.textOnly Go.Departure.lateStores }], guard := none }) (by kernel_rfl) (fun K hK => ?_) AllReadyH.nil
          refine want (by rfl) ?_
          refine wp_store_row 82 (.tmp 4) (.tmp 30) rfl (n0 + 1) (CS) rfl rfl 82 zR B3.out.drew (by rw [HZ.out]; exact sizeR) (by rw [HZ.out]; exact cR_size) HO.out ?_
          have HX1 := Lib.hid (show SR n0 (CS) (wx.drew.setRow (n0 + 1) (CS)) from setRow_far HX0.out (by omega))
          refine hK.out _ _ HX1.out (fun _ => ?_)
          clear hK K
          (try simp only [Act.put, List.setIfInBounds_toArray, List.set_cons_zero, List.set_cons_succ])
          (refine wpAnyH_take (i := 9) (oi := { dst := some 5, op := Go.Op.assign (Go.Operand.tmp 37), type := 3, pos := "ref.go:17", after := #[{ on := 7, ground := Go.Ground.data }, { on := 8, ground := Go.Ground.chain }, { on := 0, ground := Go.Ground.phase }, { on := 1, ground := Go.Ground.phase }, { on := 2, ground := Go.Ground.phase }, { on := 3, ground := Go.Ground.phase }, { on := 4, ground := Go.Ground.phase }, { on := 5, ground := Go.Ground.phase }, { on := 6, ground := Go.Ground.phase }, { on := 7, ground := Go.Ground.phase }, { on := 8, ground := Go.Ground.phase }], guard := none }) (v := ?_) rfl (by kernel_rfl) (by kernel_rfl) (by kernel_rfl) (fun _ _ _ h => h) (Or.inl ⟨by rfl, ?_⟩) HX1.out ?_); rotate_left
          · (intro w' hSw; have c0 := (Blk.cell hSw k).trans HC.out; go_simp; try with_reducible rfl)
          (try simp only [Act.put, List.setIfInBounds_toArray, List.set_cons_zero, List.set_cons_succ])
          refine wpAnyH_done (by kernel_rfl) ?_ _
          go_wp2_with fail
          refine bodyPost_ret (v := .tuple #[.agg CS, .int .i64 ((k : Int) + 128 * (n : Int))]) (results_cell2 Try.results55 _ _ (n0 + 1) 82 CS (0, 0) _ rfl (setRow_blk B3.out.drew) _ rfl Try.underlying82 rfl (by rw [HZ.out]; exact sizeR)) rfl ⟨?_, ext_setRow (ext_drew HE2.out) (by omega) _⟩
          rw [HCS.out]
          unfold raddR; rw [fnd_yes hlt HOK.out HN.out]; simp only [HGK.out, Int.natCast_add, Int.natCast_mul]; rfl
        · have HOK : Hid (ok g t k = false) := Lib.hid (by unfold ok; rw [htk, decide_eq_false h5]; rfl)
          have q3 : ¬ ((g k : Nat) : Int) < 512 := by omega
          clear htk
          generalize g k = n at c0 q3 hgk h5
          go_wp2_with fail
          go_roundw
          case rel => exact arel_next hlt HN.out HOK.out rfl (by go_num)
          case measure => simp [intOf]; omega
    · obtain rfl : k = 128 := by omega
      have HF := Lib.hid (fnd_no HN.out)
      go_wp2_with (first | (refine wpList_load_row rfl 82 (.tmp 2) rfl n0 rfl 82 (cR g t x) (0, 0) _ B0.out Try.underlying82 rfl (by rw [cR_size]; exact sizeR) ?_) | (refine wpList_store_row rfl 82 (.tmp 4) (.tmp 38) rfl (n0 + 1) (cR g t x) rfl rfl 82 zR B1.out (by rw [cR_size]; exact sizeR) (by rw [cR_size]; exact cR_size) cR_one ?_))
      refine bodyPost_ret (v := .tuple #[.agg (cR g t x), .int .i64 (-1)]) (results_cell2 Try.results55 _ _ (n0 + 1) 82 (cR g t x) (0, 0) _ rfl (setRow_blk B1.out) _ rfl Try.underlying82 rfl (by rw [cR_size]; exact sizeR)) rfl ⟨?_, ext_setRow HE.out (by omega) _⟩
      unfold raddR; rw [HF.out]
set_option maxHeartbeats 2000000 in
set_option maxRecDepth 100000 in
theorem rhas (g : Nat → Nat) (t : Nat → Bool) (x : Nat → Int) (id : Nat) (w : World) (hi : id < 65536) (hg : g (id % 128) ≤ 512) :
    Calls Try.prog 57 #[.agg (cR g t x), .int .i64 (id : Int)] w fun e w' => e = .returned (.bool (hs g t id)) ∧ Ext w w' := by
  have q1 : (id : Int).tmod 128 = ((id % 128 : Nat) : Int) := by rw [Int.tmod_eq_emod_of_nonneg (by omega)]; omega
  have q2 : (id : Int) % 128 = ((id % 128 : Nat) : Int) := by omega
  have hl : id % 128 < 128 := Nat.mod_lt _ (by omega)
  have c0 := ((Blk.new w 82 (cR g t x)).cell (id % 128)).trans (cR_g hl)
  have c1 := ((Blk.new w 82 (cR g t x)).cell (256 + id % 128)).trans (cR_t hl)
  have p1 : (id : Int).tdiv 128 = ((id / 128 : Nat) : Int) := by rw [Int.tdiv_eq_ediv_of_nonneg (by omega)]; omega
  have p2 : (id : Int) / 128 = ((id / 128 : Nat) : Int) := by omega
  obtain ⟨m, hm⟩ : ∃ m, m = id / 128 := ⟨_, rfl⟩
  rw [← hm] at p1 p2
  have hm2 : m < 512 := by omega
  unfold hs
  rw [← hm]
  clear hm
  generalize hL : id % 128 = L at *
  clear hL
  have q3 : (0 : Int) ≤ (L : Int) := by omega
  have q4 : (L : Int) < 128 := by omega
  generalize g L = n at c0 hg ⊢
  generalize t L = b at c1 ⊢
  cases b with
  | false =>
    go_enter Try.func57, Try.ntmps57
    go_wp2_with fail
    go_ret
    exact ⟨rfl, ext_alloc (Ext.rfl' w) _⟩
  | true =>
    by_cases h : n = m
    · subst h
      go_enter Try.func57, Try.ntmps57
      go_wp2_with fail
      go_ret
      exact ⟨by simp, ext_alloc (Ext.rfl' w) _⟩
    · have q5 : ((n : Int) == (m : Int)) = false := beq_eq_false_iff_ne.2 (by omega)
      have q6 : decide (n = m) = false := decide_eq_false h
      rw [q6]
      clear q6
      go_enter Try.func57, Try.ntmps57
      go_wp2_with fail
      go_ret
      exact ⟨rfl, ext_alloc (Ext.rfl' w) _⟩
def dR (g : Nat → Nat) (t : Nat → Bool) (x : Nat → Int) (id : Nat) (v : Int) : Array Value := if hs g t id then cR g t (up x (id % 128) v) else cR g t x
set_option maxHeartbeats 4000000 in
set_option maxRecDepth 100000 in
theorem rset (g : Nat → Nat) (t : Nat → Bool) (x : Nat → Int) (id : Nat) (v : Int) (w : World) (hi : id < 65536) (hg : g (id % 128) ≤ 512) :
    Calls Try.prog 53 #[.agg (cR g t x), .int .i64 (id : Int), .int .i64 v] w fun e w' => e = .returned (.agg (dR g t x id v)) ∧ Ext w w' := by
  have q1 : (id : Int).tmod 128 = ((id % 128 : Nat) : Int) := by rw [Int.tmod_eq_emod_of_nonneg (by omega)]; omega
  have q2 : (id : Int) % 128 = ((id % 128 : Nat) : Int) := by omega
  have hl : id % 128 < 128 := Nat.mod_lt _ (by omega)
  have hC := Lib.hid (fun w' => rhas g t x id w' hi hg)
  unfold dR
  generalize hs g t id = b at hC ⊢
  generalize hL : id % 128 = L at *
  clear hL
  have q3 : (0 : Int) ≤ (L : Int) := by omega
  have q4 : (L : Int) < 128 := by omega
  have q5 : L < 128 := by omega
  go_enter Try.func53, Try.ntmps53
  go_upto_region 1 with (refine wpList_allocZ rfl 82 rfl zR zeroR ?_)
  try simp only [Act.put, List.setIfInBounds_toArray, List.set_cons_zero, List.set_cons_succ, World.size_alloc]
  obtain ⟨w1, hw1⟩ : ∃ W1, W1 = (w.alloc (.cells (cR g t x) 82)).alloc (.cells zR 82) := ⟨_, rfl⟩
  have B0 := Lib.hid ((Blk.new w 82 (cR g t x)).alloc (.cells zR 82))
  have B1 := Lib.hid (Blk.new1 w (.cells (cR g t x) 82) 82 zR)
  have HE := Lib.hid (ext_alloc (ext_alloc (Ext.rfl' w) (.cells (cR g t x) 82)) (.cells zR 82))
  rw [← hw1] at B0 B1 HE ⊢
  obtain ⟨n0, hn0⟩ : ∃ n, n = w.heap.size := ⟨_, rfl⟩
  rw [← hn0] at B0 B1 ⊢
  have hn1 : w.heap.size ≤ n0 := by omega
  clear hw1 hn0
  go_wp2_with (refine wpList_load_row rfl 82 (.tmp 3) rfl n0 rfl 82 (cR g t x) (0, 0) _ B0.out Try.underlying82 rfl (by rw [cR_size]; exact sizeR) ?_)
  refine (hC.out _).mono ?_
  rintro e w2 ⟨rfl, b2⟩
  have B0 := Lib.hid (B0.out.ext b2); have B1 := Lib.hid (B1.out.ext b2); have HE := Lib.hid (ext_trans HE.out b2)
  clear hC b2
  cases b with
  | false =>
    go_wp2_with (first | (refine wpList_load_row rfl 82 (.tmp 3) rfl n0 rfl 82 (cR g t x) (0, 0) _ B0.out Try.underlying82 rfl (by rw [cR_size]; exact sizeR) ?_) | (refine wpList_store_row rfl 82 (.tmp 6) (.tmp 15) rfl (n0 + 1) (cR g t x) rfl rfl 82 zR B1.out (by rw [cR_size]; exact sizeR) (by rw [cR_size]; exact cR_size) cR_one ?_))
    exact bodyPost_ret (results_cell_row Try.results53 _ _ (n0 + 1) 82 (cR g t x) (0, 0) _ rfl (setRow_blk B1.out) Try.underlying82 rfl (by rw [cR_size]; exact sizeR)) rfl ⟨rfl, ext_setRow HE.out (by omega) _⟩
  | true =>
    have f0 := B0.out.frozen (128 + L)
    have c0 := (B0.out.cell (128 + L)).trans (cR_x q5)
    have B2 := Lib.hid (show Blk (w2.setCell ⟨n0, 128 + L, none⟩ (.int .i64 v)) n0 82 (cR g t (up x L v)) from by rw [← cR_set_x q5]; exact B0.out.set_ _ _)
    have B3 := Lib.hid (show Blk (w2.setCell ⟨n0, 128 + L, none⟩ (.int .i64 v)) (n0 + 1) 82 zR from B1.out.far (by show n0 + 1 ≠ n0; omega) _)
    have HE2 := Lib.hid (show Ext w (w2.setCell ⟨n0, 128 + L, none⟩ (.int .i64 v)) from ext_set HE.out (by show w.heap.size ≤ n0; omega) _)
    go_wp2_with (first | (refine wpList_load_row rfl 82 (.tmp 3) rfl n0 rfl 82 (cR g t (up x L v)) (0, 0) _ B2.out Try.underlying82 rfl (by rw [cR_size]; exact sizeR) ?_) | (refine wpList_store_row rfl 82 (.tmp 6) (.tmp 15) rfl (n0 + 1) (cR g t (up x L v)) rfl rfl 82 zR B3.out (by rw [cR_size]; exact sizeR) (by rw [cR_size]; exact cR_size) cR_one ?_))
    exact bodyPost_ret (results_cell_row Try.results53 _ _ (n0 + 1) 82 (cR g t (up x L v)) (0, 0) _ rfl (setRow_blk B3.out) Try.underlying82 rfl (by rw [cR_size]; exact sizeR)) rfl ⟨rfl, ext_setRow HE2.out (by omega) _⟩
def eR (g : Nat → Nat) (t : Nat → Bool) (x : Nat → Int) (id : Nat) : Array Value := if hs g t id then cR (up g (id % 128) (g (id % 128) + 1)) (up t (id % 128) false) (up x (id % 128) 0) else cR g t x
set_option maxHeartbeats 4000000 in
set_option maxRecDepth 100000 in
theorem rdrop (g : Nat → Nat) (t : Nat → Bool) (x : Nat → Int) (id : Nat) (w : World) (hi : id < 65536) (hg : g (id % 128) ≤ 512) :
    Calls Try.prog 51 #[.agg (cR g t x), .int .i64 (id : Int)] w fun e w' => e = .returned (.agg (eR g t x id)) ∧ Ext w w' := by
  have q1 : (id : Int).tmod 128 = ((id % 128 : Nat) : Int) := by rw [Int.tmod_eq_emod_of_nonneg (by omega)]; omega
  have q2 : (id : Int) % 128 = ((id % 128 : Nat) : Int) := by omega
  have hl : id % 128 < 128 := Nat.mod_lt _ (by omega)
  have hC := Lib.hid (fun w' => rhas g t x id w' hi hg)
  unfold eR
  generalize hs g t id = b at hC ⊢
  generalize hL : id % 128 = L at *
  clear hL
  have q3 : (0 : Int) ≤ (L : Int) := by omega
  have q4 : (L : Int) < 128 := by omega
  have q5 : L < 128 := by omega
  go_enter Try.func51, Try.ntmps51
  go_upto_region 1 with (refine wpList_allocZ rfl 82 rfl zR zeroR ?_)
  try simp only [Act.put, List.setIfInBounds_toArray, List.set_cons_zero, List.set_cons_succ, World.size_alloc]
  obtain ⟨w1, hw1⟩ : ∃ W1, W1 = (w.alloc (.cells (cR g t x) 82)).alloc (.cells zR 82) := ⟨_, rfl⟩
  have B0 := Lib.hid ((Blk.new w 82 (cR g t x)).alloc (.cells zR 82))
  have B1 := Lib.hid (Blk.new1 w (.cells (cR g t x) 82) 82 zR)
  have HE := Lib.hid (ext_alloc (ext_alloc (Ext.rfl' w) (.cells (cR g t x) 82)) (.cells zR 82))
  rw [← hw1] at B0 B1 HE ⊢
  obtain ⟨n0, hn0⟩ : ∃ n, n = w.heap.size := ⟨_, rfl⟩
  rw [← hn0] at B0 B1 ⊢
  have hn1 : w.heap.size ≤ n0 := by omega
  clear hw1 hn0
  go_wp2_with (refine wpList_load_row rfl 82 (.tmp 2) rfl n0 rfl 82 (cR g t x) (0, 0) _ B0.out Try.underlying82 rfl (by rw [cR_size]; exact sizeR) ?_)
  refine (hC.out _).mono ?_
  rintro e w2 ⟨rfl, b2⟩
  have B0 := Lib.hid (B0.out.ext b2); have B1 := Lib.hid (B1.out.ext b2); have HE := Lib.hid (ext_trans HE.out b2)
  clear hC b2
  cases b with
  | false =>
    go_wp2_with (first | (refine wpList_load_row rfl 82 (.tmp 2) rfl n0 rfl 82 (cR g t x) (0, 0) _ B0.out Try.underlying82 rfl (by rw [cR_size]; exact sizeR) ?_) | (refine wpList_store_row rfl 82 (.tmp 4) (.tmp 25) rfl (n0 + 1) (cR g t x) rfl rfl 82 zR B1.out (by rw [cR_size]; exact sizeR) (by rw [cR_size]; exact cR_size) cR_one ?_))
    exact bodyPost_ret (results_cell_row Try.results51 _ _ (n0 + 1) 82 (cR g t x) (0, 0) _ rfl (setRow_blk B1.out) Try.underlying82 rfl (by rw [cR_size]; exact sizeR)) rfl ⟨rfl, ext_setRow HE.out (by omega) _⟩
  | true =>
    have f0 := B0.out.frozen (256 + L); have f1 := B0.out.frozen (128 + L); have f2 := B0.out.frozen L
    have c0 := (B0.out.cell (256 + L)).trans (cR_t q5); have c1 := (B0.out.cell (128 + L)).trans (cR_x q5); have c2 := (B0.out.cell L).trans (cR_g q5)
    have hgu : ((g L + 1 : Nat) : Int) = (g L : Int) + 1 := Int.natCast_add _ _
    have B2 := Lib.hid (show Blk (((w2.setCell ⟨n0, 256 + L, none⟩ (.bool false)).setCell ⟨n0, 128 + L, none⟩ (.int .i64 0)).setCell ⟨n0, L, none⟩ (.int .i64 ((g L : Int) + 1))) n0 82 (cR (up g L (g L + 1)) (up t L false) (up x L 0)) from by rw [← cR_set_g q5, ← cR_set_x q5, ← cR_set_t q5, hgu]; exact ((B0.out.set_ _ _).set_ _ _).set_ _ _)
    have B3 := Lib.hid (show Blk (((w2.setCell ⟨n0, 256 + L, none⟩ (.bool false)).setCell ⟨n0, 128 + L, none⟩ (.int .i64 0)).setCell ⟨n0, L, none⟩ (.int .i64 ((g L : Int) + 1))) (n0 + 1) 82 zR from ((B1.out.far (by show n0 + 1 ≠ n0; omega) _).far (by show n0 + 1 ≠ n0; omega) _).far (by show n0 + 1 ≠ n0; omega) _)
    have HE2 := Lib.hid (show Ext w (((w2.setCell ⟨n0, 256 + L, none⟩ (.bool false)).setCell ⟨n0, 128 + L, none⟩ (.int .i64 0)).setCell ⟨n0, L, none⟩ (.int .i64 ((g L : Int) + 1))) from ext_set (ext_set (ext_set HE.out (by show w.heap.size ≤ n0; omega) _) (by show w.heap.size ≤ n0; omega) _) (by show w.heap.size ≤ n0; omega) _)
    clear hgu
    go_wp2_with (first | (refine wpList_load_row rfl 82 (.tmp 2) rfl n0 rfl 82 (cR (up g L (g L + 1)) (up t L false) (up x L 0)) (0, 0) _ B2.out Try.underlying82 rfl (by rw [cR_size]; exact sizeR) ?_) | (refine wpList_store_row rfl 82 (.tmp 4) (.tmp 25) rfl (n0 + 1) (cR (up g L (g L + 1)) (up t L false) (up x L 0)) rfl rfl 82 zR B3.out (by rw [cR_size]; exact sizeR) (by rw [cR_size]; exact cR_size) cR_one ?_))
    exact bodyPost_ret (results_cell_row Try.results51 _ _ (n0 + 1) 82 (cR (up g L (g L + 1)) (up t L false) (up x L 0)) (0, 0) _ rfl (setRow_blk B3.out) Try.underlying82 rfl (by rw [cR_size]; exact sizeR)) rfl ⟨rfl, ext_setRow HE2.out (by omega) _⟩
end Go.Proofs.Ytdbjknljdplinaa.Arena
