/- Contracts of package arena: Add; the document's Add. -/
import Derived.Test.YtdbjknljdplinaaAreB
namespace Go.Proofs.Ytdbjknljdplinaa.Arena
open Go.ChangeShapes Go.WideShapes Go.ChangeAt Go.RowKit
set_option linter.unusedVariables false

def SB (n : Nat) (cs : Array Value) (w : World) : Prop := Blk w n 78 cs
def SR (n : Nat) (cs : Array Value) (w : World) : Prop := Blk w n 82 cs
theorem hmx : Try.prog.follows .mixedOrders = true := by kernel_rfl
/-- May a slot be given out? -/
def ok (g : Nat → Nat) (t : Nat → Bool) (i : Nat) : Bool := !t i && decide (g i ≤ 511)
def fnd (g : Nat → Nat) (t : Nat → Bool) : Option Nat := (List.range 128).find? (ok g t)
theorem fnd_yes {g : Nat → Nat} {t : Nat → Bool} {i : Nat} (hi : i < 128) (h : ok g t i = true) (hn : ∀ j, j < i → ok g t j = false) : fnd g t = some i := by
  unfold fnd
  rw [show List.range 128 = List.range i ++ i :: (List.range (128 - i - 1)).map (i + 1 + ·) from by
    rw [show (128 : Nat) = i + (1 + (128 - i - 1)) by omega, List.range_add, List.range_add]
    simp [List.range_succ, Nat.add_assoc, show i + (1 + (128 - i - 1)) - i - 1 = 128 - i - 1 by omega]
    ]
  rw [List.find?_append, List.find?_eq_none.2 (fun x hx => by rw [hn x (List.mem_range.1 hx)]; simp)]
  simp [h]
theorem fnd_no {g : Nat → Nat} {t : Nat → Bool} (h : ∀ j, j < 128 → ok g t j = false) : fnd g t = none :=
  List.find?_eq_none.2 (fun x hx => by rw [h x (List.mem_range.1 hx)]; simp)
def addR (g : Nat → Nat) (t : Nat → Bool) (x : Nat → Int) (v : Int) : Value :=
  match fnd g t with
  | some i => .tuple #[.agg (cA g (up t i true) (up x i v)), .int .u16 ((i + 128 * g i : Nat) : Int), .bool true]
  | none => .tuple #[.agg (cA g t x), .int .u16 0, .bool false]
def raddR (g : Nat → Nat) (t : Nat → Bool) (x : Nat → Int) (v : Int) : Value :=
  match fnd g t with
  | some i => .tuple #[.agg (cR g (up t i true) (up x i v)), .int .i64 ((i + 128 * g i : Nat) : Int)]
  | none => .tuple #[.agg (cR g t x), .int .i64 (-1)]
def ARel (W : World) (g : Nat → Nat) (t : Nat → Bool) (v : Value) (wr : World) : Prop := ∃ k : Nat, k ≤ 128 ∧ v = .int .i64 ((k : Nat) : Int) ∧ (∀ j, j < k → ok g t j = false) ∧ W = wr
theorem arel_next {W wr : World} {g : Nat → Nat} {t : Nat → Bool} {k : Nat} {v : Value} (hk : k < 128) (hn : ∀ j, j < k → ok g t j = false) (h : ok g t k = false) (hw : W = wr) (hv : v = .int .i64 ((k + 1 : Nat) : Int)) : ARel W g t v wr :=
  ⟨k + 1, hk, hv, fun j hj => by
    by_cases e : j < k
    · exact hn j e
    · obtain rfl : j = k := by omega
      exact h, hw⟩
set_option maxHeartbeats 4000000 in
set_option maxRecDepth 100000 in
theorem add (g : Nat → Nat) (t : Nat → Bool) (x : Nat → Int) (v : Int) (w : World) (hg : ∀ i, i < 128 → g i ≤ 512) :
    Calls Try.prog 54 #[.agg (cA g t x), .int .i64 v] w fun e w' => e = .returned (addR g t x v) ∧ Ext w w' := by
  have HG := Lib.hid hg
  clear hg
  go_enter Try.func54, Try.ntmps54
  go_upto_region 1 with (refine wpList_allocZ rfl 78 rfl zA zeroA ?_)
  try simp only [Act.put, List.setIfInBounds_toArray, List.set_cons_zero, List.set_cons_succ, World.size_alloc]
  obtain ⟨w1, hw1⟩ : ∃ W1, W1 = (w.alloc (.cells (cA g t x) 78)).alloc (.cells zA 78) := ⟨_, rfl⟩
  have B0 := Lib.hid ((Blk.new w 78 (cA g t x)).alloc (.cells zA 78))
  have B1 := Lib.hid (Blk.new1 w (.cells (cA g t x) 78) 78 zA)
  have HE := Lib.hid (ext_alloc (ext_alloc (Ext.rfl' w) (.cells (cA g t x) 78)) (.cells zA 78))
  rw [← hw1] at B0 B1 HE ⊢
  obtain ⟨n0, hn0⟩ : ∃ n, n = w.heap.size := ⟨_, rfl⟩
  rw [← hn0] at B0 B1 ⊢
  have hn1 : w.heap.size ≤ n0 := by omega
  clear hw1 hn0
  go_wp2_with fail
  go_loopw [9] (fun iv wr => ARel w1 g t iv wr) (fun iv _ => 128 - (intOf iv).toNat)
  case atStart => exact ⟨0, by omega, rfl, fun j hj => by omega, rfl⟩
  case round =>
    obtain ⟨k, hk, rfl, hn, rfl⟩ := hrel
    have HN := Lib.hid hn
    clear hn
    by_cases hlt : k < 128
    · have q1 : (0 : Int) ≤ (k : Int) := by omega
      have q2 : (k : Int) < 128 := by omega
      have c0 := (B0.out.cell (k * 3)).trans (cA_g hlt)
      have c1 := (B0.out.cell (k * 3 + 1)).trans (cA_t hlt)
      have hgk := HG.out k hlt
      cases htk : t k with
      | true =>
        have HOK : Hid (ok g t k = false) := Lib.hid (by unfold ok; rw [htk]; rfl)
        rw [htk] at c1
        clear htk
        go_wp2_with fail
        go_roundw
        case rel => exact arel_next hlt HN.out HOK.out rfl (by go_num)
        case measure => simp [intOf]; omega
      | false =>
        rw [htk] at c1
        by_cases h5 : g k ≤ 511
        · have HOK : Hid (ok g t k = true) := Lib.hid (by unfold ok; rw [htk, decide_eq_true h5]; rfl)
          clear htk
          have q3 : ((g k : Nat) : Int) ≤ 511 := by omega
          generalize hgk2 : g k = n at c0 q3 hgk h5
          have HGK := Lib.hid hgk2
          clear hgk2
          have f1 := B0.out.frozen (k * 3 + 1); have f2 := B0.out.frozen (k * 3 + 2)
          have c2 := (B0.out.cell (k * 3 + 2)).trans (cA_x hlt)
          have B2 := Lib.hid (show Blk ((w1.setCell ⟨n0, k * 3 + 1, none⟩ (.bool true)).setCell ⟨n0, k * 3 + 2, none⟩ (.int .i64 v)) n0 78 (cA g (up t k true) (up x k v)) from by rw [← cA_set_x, ← cA_set_t]; exact (B0.out.set_ _ _).set_ _ _)
          have B3 := Lib.hid (show Blk ((w1.setCell ⟨n0, k * 3 + 1, none⟩ (.bool true)).setCell ⟨n0, k * 3 + 2, none⟩ (.int .i64 v)) (n0 + 1) 78 zA from (B1.out.far (by show n0 + 1 ≠ n0; omega) _).far (by show n0 + 1 ≠ n0; omega) _)
          have HE2 := Lib.hid (ext_set (ext_set HE.out (p := ⟨n0, k * 3 + 1, none⟩) (by show w.heap.size ≤ n0; omega) (.bool true)) (p := ⟨n0, k * 3 + 2, none⟩) (by show w.heap.size ≤ n0; omega) (.int .i64 v))
          go_wp2_with fail
          obtain ⟨wx, hwx⟩ : ∃ W9 : World, W9 = (w1.setCell ⟨n0, k * 3 + 1, none⟩ (.bool true)).setCell ⟨n0, k * 3 + 2, none⟩ (.int .i64 v) := ⟨_, rfl⟩
          rw [← hwx] at B2 B3 HE2 ⊢
          obtain ⟨CS, hCS⟩ : ∃ CS, CS = cA g (up t k true) (up x k v) := ⟨_, rfl⟩
          have HZ : Hid (CS.size = 384) := Lib.hid (by rw [hCS]; exact cA_size)
          have HO : Hid (CS.all (·.oneCell') = true) := Lib.hid (by rw [hCS]; exact cA_one)
          have HC : Hid (CS[k * 3]? = some (.int .u16 (n : Int))) := Lib.hid (by rw [hCS, cA_g hlt, HGK.out])
          rw [← hCS] at B2
          have HCS := Lib.hid hCS
          clear hCS
          have HX0 := Lib.hid (show SB n0 CS wx.drew from B2.out.drew)
          have r1 : IntKind.u16.wrap (k : Int) = (k : Int) := IntWalk.u16_in _ (by omega)
          have r2 : IntKind.u16.wrap (128 * (n : Int)) = 128 * (n : Int) := IntWalk.u16_in _ (by omega)
          have r3 : IntKind.u16.wrap ((k : Int) + 128 * (n : Int)) = (k : Int) + 128 * (n : Int) := IntWalk.u16_in _ (by omega)
          clear hwx c0 c1 c2 f1 f2
          refine wp_region_held_drew (S := SB n0 CS) hmx HX0.out (fun _ => ?_)
          refine wpAnyH_take (i := 0) (oi := { dst := some 34, op := Go.Op.load 78 (Go.Operand.tmp 2), type := 78, pos := "arena.go:27", after := #[], guard := none }) rfl (by kernel_rfl) (by kernel_rfl) (by kernel_rfl) (fun _ _ _ h => h) (yields_row (by rfl) 78 (.tmp 2) rfl n0 rfl 78 (CS) _ (fun _ h => h) Try.underlying78 rfl (by rw [HZ.out]; exact sizeA)) HX0.out ?_
          (try simp only [Act.put, List.setIfInBounds_toArray, List.set_cons_zero, List.set_cons_succ])
          (refine wpAnyH_take (i := 1) (oi := { dst := some 35, op := Go.Op.move (Go.Operand.tmp 7), type := 3, pos := "arena.go:27", after := #[{ on := 9, ground := Go.Ground.gcOnly Go.Departure.lateStores }], guard := none }) (v := ?_) rfl (by kernel_rfl) (by kernel_rfl) (by kernel_rfl) (fun _ _ _ h => h) (Or.inl ⟨by rfl, ?_⟩) HX0.out ?_); rotate_left
          · (intro w' hSw; have c0 := (Blk.cell hSw (k * 3)).trans HC.out; go_simp; try with_reducible rfl)
          (try simp only [Act.put, List.setIfInBounds_toArray, List.set_cons_zero, List.set_cons_succ])
          (refine wpAnyH_take (i := 2) (oi := { dst := some 36, op := Go.Op.convert 3 43 (Go.Operand.tmp 35), type := 43, pos := "arena.go:27", after := #[{ on := 1, ground := Go.Ground.data }, { on := 9, ground := Go.Ground.gcOnly Go.Departure.lateStores }], guard := none }) (v := ?_) rfl (by kernel_rfl) (by kernel_rfl) (by kernel_rfl) (fun _ _ _ h => h) (Or.inl ⟨by rfl, ?_⟩) HX0.out ?_); rotate_left
          · (intro w' hSw; have c0 := (Blk.cell hSw (k * 3)).trans HC.out; go_simp; try with_reducible rfl)
          (try simp only [Act.put, List.setIfInBounds_toArray, List.set_cons_zero, List.set_cons_succ])
          (refine wpAnyH_take (i := 3) (oi := { dst := some 37, op := Go.Op.move (Go.Operand.tmp 8), type := 114, pos := "arena.go:27", after := #[{ on := 9, ground := Go.Ground.gcOnly Go.Departure.lateStores }], guard := none }) (v := ?_) rfl (by kernel_rfl) (by kernel_rfl) (by kernel_rfl) (fun _ _ _ h => h) (Or.inl ⟨by rfl, ?_⟩) HX0.out ?_); rotate_left
          · (intro w' hSw; have c0 := (Blk.cell hSw (k * 3)).trans HC.out; go_simp; try with_reducible rfl)
          (try simp only [Act.put, List.setIfInBounds_toArray, List.set_cons_zero, List.set_cons_succ])
          (refine wpAnyH_take (i := 4) (oi := { dst := some 38, op := Go.Op.nilCheck (Go.Operand.tmp 37), type := 0, pos := "arena.go:27", after := #[{ on := 3, ground := Go.Ground.data }, { on := 9, ground := Go.Ground.gcOnly Go.Departure.lateStores }], guard := none }) (v := ?_) rfl (by kernel_rfl) (by kernel_rfl) (by kernel_rfl) (fun _ _ _ h => h) (Or.inl ⟨by rfl, ?_⟩) HX0.out ?_); rotate_left
          · (intro w' hSw; have c0 := (Blk.cell hSw (k * 3)).trans HC.out; go_simp; try with_reducible rfl)
          (try simp only [Act.put, List.setIfInBounds_toArray, List.set_cons_zero, List.set_cons_succ])
          (refine wpAnyH_take (i := 5) (oi := { dst := some 39, op := Go.Op.fieldAddr 75 (Go.Operand.tmp 38) 0, type := 0, pos := "arena.go:27", after := #[{ on := 4, ground := Go.Ground.data }, { on := 9, ground := Go.Ground.gcOnly Go.Departure.lateStores }], guard := none }) (v := ?_) rfl (by kernel_rfl) (by kernel_rfl) (by kernel_rfl) (fun _ _ _ h => h) (Or.inl ⟨by rfl, ?_⟩) HX0.out ?_); rotate_left
          · (intro w' hSw; have c0 := (Blk.cell hSw (k * 3)).trans HC.out; go_simp; try with_reducible rfl)
          (try simp only [Act.put, List.setIfInBounds_toArray, List.set_cons_zero, List.set_cons_succ])
          (refine wpAnyH_take (i := 6) (oi := { dst := some 40, op := Go.Op.load 43 (Go.Operand.tmp 39), type := 43, pos := "arena.go:27", after := #[{ on := 5, ground := Go.Ground.data }, { on := 9, ground := Go.Ground.gcOnly Go.Departure.lateStores }], guard := none }) (v := ?_) rfl (by kernel_rfl) (by kernel_rfl) (by kernel_rfl) (fun _ _ _ h => h) (Or.inl ⟨by rfl, ?_⟩) HX0.out ?_); rotate_left
          · (intro w' hSw; have c0 := (Blk.cell hSw (k * 3)).trans HC.out; go_simp; try with_reducible rfl)
          (try simp only [Act.put, List.setIfInBounds_toArray, List.set_cons_zero, List.set_cons_succ])
          (refine wpAnyH_take (i := 7) (oi := { dst := some 41, op := Go.Op.binOp Go.BinOp.mul 43 (Go.Operand.const (Go.Value.int Go.IntKind.u16 128)) (Go.Operand.tmp 40) 43, type := 43, pos := "arena.go:27", after := #[{ on := 6, ground := Go.Ground.data }, { on := 9, ground := Go.Ground.gcOnly Go.Departure.lateStores }], guard := none }) (v := ?_) rfl (by kernel_rfl) (by kernel_rfl) (by kernel_rfl) (fun _ _ _ h => h) (Or.inl ⟨by rfl, ?_⟩) HX0.out ?_); rotate_left
          · (intro w' hSw; have c0 := (Blk.cell hSw (k * 3)).trans HC.out; go_simp; try with_reducible rfl)
          (try simp only [Act.put, List.setIfInBounds_toArray, List.set_cons_zero, List.set_cons_succ])
          (refine wpAnyH_take (i := 8) (oi := { dst := some 42, op := Go.Op.binOp Go.BinOp.add 43 (Go.Operand.tmp 36) (Go.Operand.tmp 41) 43, type := 43, pos := "arena.go:27", after := #[{ on := 2, ground := Go.Ground.data }, { on := 7, ground := Go.Ground.data }, { on := 9, ground := Go.Ground.gcOnly Go.Departure.lateStores }], guard := none }) (v := ?_) rfl (by kernel_rfl) (by kernel_rfl) (by kernel_rfl) (fun _ _ _ h => h) (Or.inl ⟨by rfl, ?_⟩) HX0.out ?_); rotate_left
          · (intro w' hSw; have c0 := (Blk.cell hSw (k * 3)).trans HC.out; go_simp; try with_reducible rfl)
          (try simp only [Act.put, List.setIfInBounds_toArray, List.set_cons_zero, List.set_cons_succ])
          refine wpAnyH_ready (rs := [9]) (by kernel_rfl) (by simp) ?_
          refine AllReadyH.cons (o := { dst := none, op := Go.Op.store 78 (Go.Operand.tmp 4) (Go.Operand.tmp 34), type := 0, pos := "arena.go:27", after := #[{ on := 0, ground := Go.Ground.data }, { on := 0, ground := Go.Ground.phase }, { on := 1, ground := Go.Ground.textOnly Go.Departure.lateStores }, { on := 2, ground := Go.Ground.textOnly Go.Departure.lateStores }, { on := 3, ground := Go.Ground.textOnly Go.Departure.lateStores }, { on := 4, ground := Go.Ground.textOnly Go.Departure.lateStores }, { on := 5, ground := Go.Ground.textOnly Go.Departure.lateStores }, { on := 6, ground := Go.Ground.textOnly Go.Departure.lateStores }, { on := 7, ground := Go.Ground.textOnly Go.Departure.lateStores }, { on := 8, ground := Go.Ground.textOnly Go.Departure.lateStores }], guard := none }) (by kernel_rfl) (fun K hK => ?_) AllReadyH.nil
          refine want (by rfl) ?_
          refine wp_store_row 78 (.tmp 4) (.tmp 34) rfl (n0 + 1) (CS) rfl rfl 78 zA B3.out.drew (by rw [HZ.out]; exact sizeA) (by rw [HZ.out]; exact cA_size) HO.out ?_
          have HX1 := Lib.hid (show SB n0 (CS) (wx.drew.setRow (n0 + 1) (CS)) from setRow_far HX0.out (by omega))
          refine hK.out _ _ HX1.out (fun _ => ?_)
          clear hK K
          (try simp only [Act.put, List.setIfInBounds_toArray, List.set_cons_zero, List.set_cons_succ])
          (refine wpAnyH_take (i := 10) (oi := { dst := some 5, op := Go.Op.assign (Go.Operand.tmp 42), type := 43, pos := "arena.go:27", after := #[{ on := 8, ground := Go.Ground.data }, { on := 9, ground := Go.Ground.chain }, { on := 0, ground := Go.Ground.phase }, { on := 1, ground := Go.Ground.phase }, { on := 2, ground := Go.Ground.phase }, { on := 3, ground := Go.Ground.phase }, { on := 4, ground := Go.Ground.phase }, { on := 5, ground := Go.Ground.phase }, { on := 6, ground := Go.Ground.phase }, { on := 7, ground := Go.Ground.phase }, { on := 8, ground := Go.Ground.phase }, { on := 9, ground := Go.Ground.phase }], guard := none }) (v := ?_) rfl (by kernel_rfl) (by kernel_rfl) (by kernel_rfl) (fun _ _ _ h => h) (Or.inl ⟨by rfl, ?_⟩) HX1.out ?_); rotate_left
          · (intro w' hSw; have c0 := (Blk.cell hSw (k * 3)).trans HC.out; go_simp; try with_reducible rfl)
          (try simp only [Act.put, List.setIfInBounds_toArray, List.set_cons_zero, List.set_cons_succ])
          (refine wpAnyH_take (i := 11) (oi := { dst := some 6, op := Go.Op.assign (Go.Operand.const (Go.Value.bool true)), type := 4, pos := "arena.go:27", after := #[{ on := 10, ground := Go.Ground.chain }, { on := 0, ground := Go.Ground.phase }, { on := 1, ground := Go.Ground.phase }, { on := 2, ground := Go.Ground.phase }, { on := 3, ground := Go.Ground.phase }, { on := 4, ground := Go.Ground.phase }, { on := 5, ground := Go.Ground.phase }, { on := 6, ground := Go.Ground.phase }, { on := 7, ground := Go.Ground.phase }, { on := 8, ground := Go.Ground.phase }, { on := 9, ground := Go.Ground.phase }, { on := 10, ground := Go.Ground.phase }], guard := none }) (v := ?_) rfl (by kernel_rfl) (by kernel_rfl) (by kernel_rfl) (fun _ _ _ h => h) (Or.inl ⟨by rfl, ?_⟩) HX1.out ?_); rotate_left
          · (intro w' hSw; have c0 := (Blk.cell hSw (k * 3)).trans HC.out; go_simp; try with_reducible rfl)
          (try simp only [Act.put, List.setIfInBounds_toArray, List.set_cons_zero, List.set_cons_succ])
          refine wpAnyH_done (by kernel_rfl) ?_ _
          go_wp2_with fail
          refine bodyPost_ret (v := .tuple #[.agg CS, .int .u16 ((k : Int) + 128 * (n : Int)), .bool true]) (results_cell3 Try.results54 _ _ (n0 + 1) 78 CS (0, 0) _ rfl (setRow_blk B3.out.drew) _ _ rfl rfl Try.underlying78 rfl (by rw [HZ.out]; exact sizeA)) rfl ⟨?_, ext_setRow (ext_drew HE2.out) (by omega) _⟩
          rw [HCS.out]
          unfold addR; rw [fnd_yes hlt HOK.out HN.out]; simp only [HGK.out, Int.natCast_add, Int.natCast_mul]; rfl
        · have HOK : Hid (ok g t k = false) := Lib.hid (by unfold ok; rw [htk, decide_eq_false h5]; rfl)
          have q3 : ¬ ((g k : Nat) : Int) ≤ 511 := by omega
          clear htk
          generalize g k = n at c0 q3 hgk h5
          go_wp2_with fail
          go_roundw
          case rel => exact arel_next hlt HN.out HOK.out rfl (by go_num)
          case measure => simp [intOf]; omega
    · obtain rfl : k = 128 := by omega
      have HF := Lib.hid (fnd_no HN.out)
      go_wp2_with (first | (refine wpList_load_row rfl 78 (.tmp 2) rfl n0 rfl 78 (cA g t x) (0, 0) _ B0.out Try.underlying78 rfl (by rw [cA_size]; exact sizeA) ?_) | (refine wpList_store_row rfl 78 (.tmp 4) (.tmp 44) rfl (n0 + 1) (cA g t x) rfl rfl 78 zA B1.out (by rw [cA_size]; exact sizeA) (by rw [cA_size]; exact cA_size) cA_one ?_))
      refine bodyPost_ret (v := .tuple #[.agg (cA g t x), .int .u16 0, .bool false]) (results_cell3 Try.results54 _ _ (n0 + 1) 78 (cA g t x) (0, 0) _ rfl (setRow_blk B1.out) _ _ rfl rfl Try.underlying78 rfl (by rw [cA_size]; exact sizeA)) rfl ⟨?_, ext_setRow HE.out (by omega) _⟩
      unfold addR; rw [HF.out]
end Go.Proofs.Ytdbjknljdplinaa.Arena
