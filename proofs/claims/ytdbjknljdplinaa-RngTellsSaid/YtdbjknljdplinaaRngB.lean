/- The document's answer for rng, bit by bit. -/
import Derived.Test.YtdbjknljdplinaaRngA
import Derived.Test.YtdbjknljdplinaaBlk
import Derived.Laws.Tables
import Derived.Laws.CopyOwn
import Derived.LoopTactic
namespace Go.Proofs.Ytdbjknljdplinaa.Rng
open Go.ChangeShapes Go.WideShapes Go.ChangeAt Go.RowKit
set_option linter.unusedVariables false

theorem info_arr : (Try.prog.info? 108).map (·.size) = some 32 := by kernel_rfl
/-- Thirty-two bits as cells. -/
def bs (f : Nat → Bool) : Array Value := ((List.range 32).map fun i => Value.bool (f i)).toArray
theorem bs_size (f : Nat → Bool) : (bs f).size = 32 := by simp [bs]
theorem bs_at (f : Nat → Bool) (k : Nat) (hk : k < 32) : (bs f)[k]? = some (.bool (f k)) := by
  simp [bs, hk]
theorem bs_set (f : Nat → Bool) (k : Nat) (b : Bool) : (bs f).setIfInBounds k (.bool b) = bs (fun i => if i = k then b else f i) := by
  apply Array.ext_getElem?
  intro j
  by_cases hj : j < 32
  · rw [bs_at _ j hj, Array.getElem?_setIfInBounds]
    by_cases e : k = j
    · subst e; simp [bs_size, hj]
    · rw [if_neg e, bs_at _ j hj, if_neg (fun h => e h.symm)]
  · rw [Array.getElem?_eq_none (by rw [Array.size_setIfInBounds, bs_size]; omega), Array.getElem?_eq_none (by rw [bs_size]; omega)]
theorem bs_congr {f g : Nat → Bool} (h : ∀ i, i < 32 → f i = g i) : bs f = bs g := by
  apply Array.ext_getElem?
  intro j
  by_cases hj : j < 32
  · rw [bs_at _ j hj, bs_at _ j hj, h j hj]
  · rw [Array.getElem?_eq_none (by rw [bs_size]; omega), Array.getElem?_eq_none (by rw [bs_size]; omega)]
theorem bs_one (f : Nat → Bool) : (bs f).all (·.oneCell') = true := by
  simp [bs, Value.oneCell']
theorem bs_false : bs (fun _ => false) = #[.bool false, .bool false, .bool false, .bool false, .bool false, .bool false, .bool false, .bool false, .bool false, .bool false, .bool false, .bool false, .bool false, .bool false, .bool false, .bool false, .bool false, .bool false, .bool false, .bool false, .bool false, .bool false, .bool false, .bool false, .bool false, .bool false, .bool false, .bool false, .bool false, .bool false, .bool false, .bool false] := rfl
theorem setRow_blk {w : World} {g : Nat} {t : TypeId} {cs ds : Array Value} (h : Blk w g t cs) : Blk (w.setRow g ds) g t ds := setRow_heap w g cs ds t (0, 0) h
theorem ext_setRow {a w : World} {g : Nat} (h : Ext a w) (hg : a.heap.size ≤ g) (cs : Array Value) : Ext a (w.setRow g cs) := below_setRow h hg cs
def BRel (n : BitVec 32) (w : World) (B : Nat) (s i : Value) (wr : World) : Prop :=
  ∃ k : Nat, k ≤ 32 ∧ s = .int .u32 ((n.toNat / 2 ^ k : Nat) : Int) ∧ i = .int .i64 (k : Int) ∧ Blk wr B 108 (bs fun _ => false) ∧ Blk wr (B + 1) 108 (bs fun j => decide (j < k) && n.getLsbD j) ∧ Ext w wr
theorem bit_of (n : BitVec 32) (k : Nat) : (((n.toNat / 2 ^ k : Nat) : Int) % 2 == 1) = n.getLsbD k := by
  rw [BitVec.getLsbD, Nat.testBit_eq_decide_div_mod_eq]
  generalize n.toNat / 2 ^ k = q
  rw [Bool.eq_iff_iff, beq_iff_eq, decide_eq_true_iff]
  omega
theorem bs_step (n : BitVec 32) (k : Nat) : bs (fun i => if i = k then n.getLsbD k else (decide (i < k) && n.getLsbD i)) = bs (fun j => decide (j < k + 1) && n.getLsbD j) := by
  apply bs_congr
  intro i _
  by_cases e : i = k
  · subst e; simp
  · rw [if_neg e]
    by_cases h : i < k
    · simp [h, show i < k + 1 by omega]
    · simp [h, show ¬ i < k + 1 by omega]
theorem bs_end (n : BitVec 32) : bs (fun j => decide (j < 32) && n.getLsbD j) = bs n.getLsbD := bs_congr fun i hi => by simp [hi]
theorem bs_begin (n : BitVec 32) : bs (fun j => decide (j < 0) && n.getLsbD j) = bs (fun _ => false) := bs_congr fun i hi => by simp
theorem half (n k : Nat) : n / 2 ^ (k + 1) = n / 2 ^ k / 2 := by rw [Nat.pow_succ, Nat.div_div_eq_div_mul]
set_option maxHeartbeats 1000000 in
theorem bits (n : BitVec 32) (w : World) : Calls Try.prog 66 #[.int .u32 (n.toNat : Int)] w fun e w' => e = .returned (.agg (bs n.getLsbD)) ∧ Ext w w' := by
  have h0 := n.isLt
  go_enter Try.func66, Try.ntmps66
  go_wp2
  rw [← bs_false]
  go_loopw [0, 4] (fun s i wr => BRel n w w.heap.size s i wr) (fun _ i _ => 32 - (intOf i).toNat)
  case atStart => exact ⟨0, by omega, by simp, rfl, (Blk.new _ _ _).alloc _, by rw [bs_begin]; exact Blk.new1 _ _ _ _, ext_alloc (ext_alloc (Ext.rfl' _) _) _⟩
  case round =>
    obtain ⟨k, hk, rfl, rfl, k1, k2, ex⟩ := hrel
    have K1 := Lib.hid k1; have K2 := Lib.hid k2; clear k1 k2
    by_cases hlt : k < 32
    · have hq1 : n.toNat / 2 ^ k < 4294967296 := Nat.lt_of_le_of_lt (Nat.div_le_self _ _) h0
      have hh := half n.toNat k
      have hbit := bit_of n k
      generalize n.toNat / 2 ^ k = q at *
      have HH := Lib.hid hh; clear hh
      have c0 : wr.cell? ⟨w.heap.size + 1, k, none⟩ = some (.bool (decide (k < k) && n.getLsbD k)) := (K2.out.cell k).trans (bs_at _ k hlt)
      have f0 := K2.out.frozen k
      have k0 : (0 : Int) ≤ (k : Int) := by omega
      have k3 : (k : Int) < 32 := by omega
      have hB : w.heap.size ≤ w.heap.size + 1 := by omega
      generalize hc : (decide (k < k) && n.getLsbD k) = c at *
      have HS := Lib.hid (bs_step n k)
      generalize n.getLsbD k = bt at *
      have HB := Lib.hid hbit; clear hbit hc
      go_wp2
      go_roundw
      case rel => exact ⟨k + 1, by omega, by rw [HH.out]; go_num, by go_num, K1.out.far (by simp) _, by rw [← HS.out, ← bs_set, ← HB.out]; exact K2.out.set_ k _, ext_set ex hB _⟩
      case measure => simp [intOf]; omega
    · obtain rfl : k = 32 := by omega
      have k2 := K2.out
      rw [bs_end] at k2
      have K3 := Lib.hid k2; clear k2
      go_wp2_with (first | (refine wpList_load_row rfl 108 (.tmp 3) rfl (w.heap.size + 1) rfl 108 (bs n.getLsbD) (0, 0) _ K3.out Try.underlying108 rfl (by rw [bs_size]; exact info_arr) ?_) | (refine wpList_store_row rfl 108 (.tmp 2) (.tmp 16) rfl w.heap.size (bs n.getLsbD) rfl rfl 108 (bs fun _ => false) K1.out (by rw [bs_size]; exact info_arr) (by rw [bs_size, bs_size]) (bs_one _) ?_))
      refine bodyPost_ret (v := .agg (bs n.getLsbD)) (results_cell_row Try.results66 _ _ w.heap.size 108 _ (0, 0) _ rfl (setRow_blk K1.out) Try.underlying108 rfl (by rw [bs_size]; exact info_arr)) rfl ⟨rfl, ext_setRow ex (Nat.le_refl _) _⟩
end Go.Proofs.Ytdbjknljdplinaa.Rng
