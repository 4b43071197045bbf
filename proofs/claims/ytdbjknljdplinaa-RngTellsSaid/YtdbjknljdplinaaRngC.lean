/- The document's answer for rng: bits, changed by themselves, shifted. -/
import Derived.Test.YtdbjknljdplinaaRngB
namespace Go.Proofs.Ytdbjknljdplinaa.Rng
open Go.ChangeShapes Go.WideShapes Go.ChangeAt Go.RowKit
set_option linter.unusedVariables false

/-- What comes of a bit. -/
def wf (f : Nat → Bool) (d : Int) (i : Nat) : Bool := if 0 ≤ (i : Int) - d ∧ (i : Int) - d < 32 ∧ f ((i : Int) - d).toNat = true then !f i else f i
theorem wf_no {f : Nat → Bool} {d : Int} {i : Nat} (h : ¬ (0 ≤ (i : Int) - d ∧ (i : Int) - d < 32 ∧ f ((i : Int) - d).toNat = true)) : wf f d i = f i := if_neg h
theorem wf_yes {f : Nat → Bool} {d : Int} {i : Nat} (h : 0 ≤ (i : Int) - d ∧ (i : Int) - d < 32 ∧ f ((i : Int) - d).toNat = true) : wf f d i = !f i := if_pos h
def mid (f : Nat → Bool) (d : Int) (k i : Nat) : Bool := if i < k then wf f d i else f i
theorem mid_at (f : Nat → Bool) (d : Int) (k : Nat) : mid f d k k = f k := if_neg (by omega)
theorem mid_same {f : Nat → Bool} {d : Int} {k : Nat} (h : wf f d k = f k) : bs (mid f d (k + 1)) = bs (mid f d k) := bs_congr fun i _ => by
  unfold mid
  by_cases e : i = k
  · subst e; simp [h]
  · by_cases h1 : i < k
    · rw [if_pos (by omega), if_pos h1]
    · rw [if_neg (by omega), if_neg h1]
theorem mid_set {f : Nat → Bool} {d : Int} {k : Nat} (h : wf f d k = !f k) : bs (fun i => if i = k then !f k else mid f d k i) = bs (mid f d (k + 1)) := bs_congr fun i _ => by
  unfold mid
  by_cases e : i = k
  · subst e; simp [h]
  · rw [if_neg e]
    by_cases h1 : i < k
    · rw [if_pos h1, if_pos (by omega)]
    · rw [if_neg h1, if_neg (by omega)]
def WRel (f : Nat → Bool) (d : Int) (w : World) (B : Nat) (i : Value) (wr : World) : Prop :=
  ∃ k : Nat, k ≤ 32 ∧ i = .int .i64 (k : Int) ∧ Blk wr B 108 (bs f) ∧ Blk wr (B + 1) 108 (bs fun _ => false) ∧ Blk wr (B + 1 + 1) 108 (bs (mid f d k)) ∧ Ext w wr
theorem setRow_far {w : World} {g h : Nat} {t : TypeId} {cs ds : Array Value} (k : Blk w g t cs) (hne : g ≠ h) : Blk (w.setRow h ds) g t cs := (setRow_other w h g ds hne).trans k
theorem blk2 (w : World) (a b : Obj) (t : TypeId) (cs : Array Value) : Blk (((w.alloc a).alloc b).alloc (.cells cs t)) (w.heap.size + 1 + 1) t cs := by
  have := Blk.new1 (w.alloc a) b t cs
  rwa [World.size_alloc] at this
theorem mid_zero (f : Nat → Bool) (d : Int) : bs (mid f d 0) = bs f := bs_congr fun i _ => if_neg (by omega)
theorem mid_end (f : Nat → Bool) (d : Int) : bs (mid f d 32) = bs (wf f d) := bs_congr fun i hi => if_pos hi
set_option maxHeartbeats 1000000 in
theorem withs (f : Nat → Bool) (d : Int) (d1 : -64 ≤ d) (d2 : d ≤ 64) (w : World) : Calls Try.prog 65 #[.agg (bs f), .int .i64 d] w fun e w' => e = .returned (.agg (bs (wf f d))) ∧ Ext w w' := by
  go_enter Try.func65, Try.ntmps65
  go_wp2_with (first | (refine wpList_load_row rfl 108 (.tmp 2) rfl w.heap.size rfl 108 (bs f) (0, 0) _ ((Blk.new _ _ _).alloc _) Try.underlying108 rfl (by rw [bs_size]; exact info_arr) ?_) | (refine wpList_store_row rfl 108 (.tmp 5) (.tmp 7) rfl (w.heap.size + 1 + 1) (bs f) rfl rfl 108 #[.bool false, .bool false, .bool false, .bool false, .bool false, .bool false, .bool false, .bool false, .bool false, .bool false, .bool false, .bool false, .bool false, .bool false, .bool false, .bool false, .bool false, .bool false, .bool false, .bool false, .bool false, .bool false, .bool false, .bool false, .bool false, .bool false, .bool false, .bool false, .bool false, .bool false, .bool false, .bool false] (blk2 _ _ _ _ _) (by rw [bs_size]; exact info_arr) (by rw [bs_size]; rfl) (bs_one _) ?_))
  rw [← bs_false]
  go_loopw [6] (fun i wr => WRel f d w w.heap.size i wr) (fun i _ => 32 - (intOf i).toNat)
  case atStart => exact ⟨0, by omega, rfl, setRow_far (((Blk.new _ _ _).alloc _).alloc _) (by omega), setRow_far ((Blk.new1 _ _ _ _).alloc _) (by omega), by rw [mid_zero]; exact setRow_blk (blk2 _ _ _ _ _), ext_setRow (ext_alloc (ext_alloc (ext_alloc (Ext.rfl' _) _) _) _) (by omega) _⟩
  case round =>
    obtain ⟨k, hk, rfl, k1, k2, k3, ex⟩ := hrel
    have K1 := Lib.hid k1; have K2 := Lib.hid k2; have K3 := Lib.hid k3; clear k1 k2 k3
    by_cases hlt : k < 32
    · have k0 : (0 : Int) ≤ (k : Int) := by omega
      have k4 : (k : Int) < 32 := by omega
      by_cases h1 : 0 ≤ (k : Int) - d
      · by_cases h2 : (k : Int) - d < 32
        · have c0 : wr.cell? ⟨w.heap.size, ((k : Int) - d).toNat, none⟩ = some (.bool (f ((k : Int) - d).toNat)) := (K1.out.cell _).trans (bs_at _ _ (by omega))
          have c1 : wr.cell? ⟨w.heap.size + 1 + 1, k, none⟩ = some (.bool (f k)) := ((K3.out.cell _).trans (bs_at _ _ hlt)).trans (by rw [mid_at])
          have f1 := K3.out.frozen k
          cases hb : f ((k : Int) - d).toNat with
          | true =>
            have HS := Lib.hid (mid_set (wf_yes ⟨h1, h2, hb⟩))
            rw [hb] at c0
            clear hb
            generalize hfk : f k = fk at *
            have HK := Lib.hid hfk; clear hfk
            go_wp2
            go_roundw
            case rel => exact ⟨k + 1, by omega, by go_num, K1.out.far (by simp; omega) _, K2.out.far (by simp) _, by rw [← HS.out, ← bs_set]; exact K3.out.set_ k _, ext_set ex (by simp; omega) _⟩
            case measure => simp [intOf]; omega
          | false =>
            have HS := Lib.hid (mid_same (wf_no (f := f) (d := d) (i := k) (fun h => by rw [hb] at h; cases h.2.2)))
            rw [hb] at c0
            clear hb
            go_wp2
            go_roundw
            case rel => exact ⟨k + 1, by omega, by go_num, K1.out, K2.out, by rw [HS.out]; exact K3.out, ex⟩
            case measure => simp [intOf]; omega
        · have HS := Lib.hid (mid_same (wf_no (f := f) (d := d) (i := k) (fun h => h2 h.2.1)))
          go_wp2
          go_roundw
          case rel => exact ⟨k + 1, by omega, by go_num, K1.out, K2.out, by rw [HS.out]; exact K3.out, ex⟩
          case measure => simp [intOf]; omega
      · have HS := Lib.hid (mid_same (wf_no (f := f) (d := d) (i := k) (fun h => h1 h.1)))
        go_wp2
        go_roundw
        case rel => exact ⟨k + 1, by omega, by go_num, K1.out, K2.out, by rw [HS.out]; exact K3.out, ex⟩
        case measure => simp [intOf]; omega
    · obtain rfl : k = 32 := by omega
      have k3 := K3.out
      rw [mid_end] at k3
      have K4 := Lib.hid k3; clear k3
      go_wp2_with (first | (refine wpList_load_row rfl 108 (.tmp 5) rfl (w.heap.size + 1 + 1) rfl 108 (bs (wf f d)) (0, 0) _ K4.out Try.underlying108 rfl (by rw [bs_size]; exact info_arr) ?_) | (refine wpList_store_row rfl 108 (.tmp 4) (.tmp 35) rfl (w.heap.size + 1) (bs (wf f d)) rfl rfl 108 (bs fun _ => false) K2.out (by rw [bs_size]; exact info_arr) (by rw [bs_size, bs_size]) (bs_one _) ?_))
      refine bodyPost_ret (v := .agg (bs (wf f d))) (results_cell_row Try.results65 _ _ (w.heap.size + 1) 108 _ (0, 0) _ rfl (setRow_blk K2.out) Try.underlying108 rfl (by rw [bs_size]; exact info_arr)) rfl ⟨rfl, ext_setRow ex (by omega) _⟩
end Go.Proofs.Ytdbjknljdplinaa.Rng
