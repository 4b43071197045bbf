/- Contracts of package grid: how far tiles are apart; which are next to one. -/
import Derived.Test.YtdbjknljdplinaaGrdB
import Derived.Test.YtdbjknljdplinaaApp
namespace Go.Proofs.Ytdbjknljdplinaa.Grid
open Go.ChangeShapes Go.WideShapes Go.ChangeAt Go.RowKit
set_option linter.unusedVariables false

set_option maxHeartbeats 4000000 in
theorem far_yes (W H a b : Nat) (T : ByteArray) (w : World) (hW : 4 ≤ W) (hW2 : W ≤ 64) (hs : T.size ≤ 5000) (ha : a < T.size) (hb : b < T.size) : Calls Try.prog 42 #[.agg #[.int .i64 (W : Int), .int .i64 (H : Int), .string T], .int .i64 (a : Int), .int .i64 (b : Int)] w fun e w' => e = .returned (.int .i64 (far W a b : Nat)) ∧ Ext w w' := by
  have hf : far W a b = (a % W - b % W) + (b % W - a % W) + ((a / W - b / W) + (b / W - a / W)) := rfl
  have HA := Lib.hid (fun W1 => xy_yes W H a T W1 hW hW2 hs ha)
  have HB := Lib.hid (fun W1 => xy_yes W H b T W1 hW hW2 hs hb)
  have h1 := Nat.mod_le a W; have h2 := Nat.mod_le b W
  have h3 := Nat.div_le_self a W; have h4 := Nat.div_le_self b W
  generalize a % W = ax at *; generalize b % W = bx at *; generalize a / W = ay at *; generalize b / W = by_ at *
  obtain ⟨F, hF⟩ : ∃ F, F = far W a b := ⟨_, rfl⟩
  rw [← hF] at hf ⊢
  clear hF
  have HF := Lib.hid hf
  clear hf
  go_enter Try.func42, Try.ntmps42
  go_wp2_with fail
  refine (on_yes W H a T _ hW hs ha).mono ?_
  rintro e w1 ⟨rfl, b1⟩
  have K1 := Lib.hid ((Blk.new w 52 #[.int .i64 (W : Int), .int .i64 (H : Int), .string T]).ext b1)
  obtain ⟨c0, c1, c2⟩ := map_cells K1.out
  have HE1 := Lib.hid (ext_trans (ext_alloc (Ext.rfl' w) _) b1)
  clear b1
  go_wp2_with fail
  refine (on_yes W H b T _ hW hs hb).mono ?_
  rintro e w2 ⟨rfl, b2⟩
  have K2 := Lib.hid (K1.out.ext b2)
  clear c0 c1 c2
  obtain ⟨c0, c1, c2⟩ := map_cells K2.out
  have HE2 := Lib.hid (ext_trans HE1.out b2)
  clear b2
  go_wp2_with fail
  refine (HA.out _).mono ?_
  rintro e w3 ⟨rfl, b3⟩
  have K3 := Lib.hid (K2.out.ext b3)
  clear c0 c1 c2
  obtain ⟨c0, c1, c2⟩ := map_cells K3.out
  have HE3 := Lib.hid (ext_trans HE2.out b3)
  clear b3
  go_wp2_with fail
  refine (HB.out _).mono ?_
  rintro e w4 ⟨rfl, b4⟩
  have HE4 := Lib.hid (ext_trans HE3.out b4)
  clear b4 c0 c1 c2
  go_wp2_with fail
  all_goals
    go_ret
    exact ⟨ret_int (by have := HF.out; omega), HE4.out⟩
set_option maxHeartbeats 4000000 in
theorem far_no (W H : Nat) (a b : Int) (T : ByteArray) (w : World) (hW : 4 ≤ W) (hs : T.size ≤ 5000) (h : (a < 0 ∨ (T.size : Int) ≤ a) ∨ (b < 0 ∨ (T.size : Int) ≤ b)) : Calls Try.prog 42 #[.agg #[.int .i64 (W : Int), .int .i64 (H : Int), .string T], .int .i64 a, .int .i64 b] w fun e w' => e = .returned (.int .i64 (-1)) ∧ Ext w w' := by
  by_cases ha : a < 0 ∨ (T.size : Int) ≤ a
  · have HA := Lib.hid ha; clear h ha
    go_enter Try.func42, Try.ntmps42
    go_wp2_with fail
    refine (on_no W H a T _ hW hs HA.out).mono ?_
    rintro e w1 ⟨rfl, b1⟩
    have HE1 := Lib.hid (ext_trans (ext_alloc (Ext.rfl' w) _) b1)
    clear b1
    go_wp2_with fail
    go_ret
    exact ⟨rfl, HE1.out⟩
  · have hb : b < 0 ∨ (T.size : Int) ≤ b := by
      rcases h with h | h
      · exact absurd h ha
      · exact h
    obtain ⟨x, rfl⟩ : ∃ x : Nat, a = (x : Int) := ⟨a.toNat, by omega⟩
    have hx : x < T.size := by omega
    have HB := Lib.hid hb; clear h hb ha
    go_enter Try.func42, Try.ntmps42
    go_wp2_with fail
    refine (on_yes W H x T _ hW hs hx).mono ?_
    rintro e w1 ⟨rfl, b1⟩
    obtain ⟨c0, c1, c2⟩ := map_cells ((Blk.new w 52 #[.int .i64 (W : Int), .int .i64 (H : Int), .string T]).ext b1)
    have HE1 := Lib.hid (ext_trans (ext_alloc (Ext.rfl' w) _) b1)
    clear b1
    go_wp2_with fail
    refine (on_no W H b T _ hW hs HB.out).mono ?_
    rintro e w2 ⟨rfl, b2⟩
    have HE2 := Lib.hid (ext_trans HE1.out b2)
    clear b2
    go_wp2_with fail
    go_ret
    exact ⟨rfl, HE2.out⟩
end Go.Proofs.Ytdbjknljdplinaa.Grid
