/- Who makes a kind, counted. -/
import Derived.Test.YtdbjknljdplinaaDoorRulB
namespace Go.Proofs.YtdbjknljdplinaaDoor.Rul
open Go.ChangeShapes Go.WideShapes Go.ChangeAt Go.RowKit

theorem kc {a b : World} {B o : Nat} {v : Value} (hb : Ext a b) (h : a.cell? ⟨B, o, none⟩ = some v) : b.cell? ⟨B, o, none⟩ = some v :=
  (hb.cell (p := ⟨B, o, none⟩) (World.block_lt_of_cell? a _ h)).trans h
/-- How many of the kinds below one make another one. -/
def cnt (k m : Nat) : Nat := ((List.range m).filter fun i => makesB i k).length
theorem cnt_le (k m : Nat) : cnt k m ≤ m := by
  unfold cnt
  have := List.length_filter_le (fun i => makesB i k) (List.range m)
  simpa using this
theorem cnt_yes {k m : Nat} (h : makesB m k = true) : cnt k (m + 1) = cnt k m + 1 := by
  unfold cnt
  rw [List.range_succ, List.filter_append, List.length_append]
  simp [h]
theorem cnt_no {k m : Nat} (h : makesB m k = false) : cnt k (m + 1) = cnt k m := by
  unfold cnt
  rw [List.range_succ, List.filter_append, List.length_append]
  simp [h]
def HRel (k : Nat) (w0 : World) (mk i : Value) (wr : World) : Prop := ∃ m : Nat, m ≤ 256 ∧ mk = .int .i64 (cnt k m : Int) ∧ i = .int .i64 (m : Int) ∧ Ext w0 wr
theorem isN_no {n : Nat} (h : isN n = false) : n = 0 ∨ 5 < n := by
  simp [isN] at h; omega
set_option maxHeartbeats 400000 in
theorem hold_none (n : Nat) (hn : n < 256) (hk : isN n = false) (w : World) (h : Tab w) : Calls Tryd.prog 4 #[.int .u8 (n : Int)] w fun e w' => e = .returned (.bool true) ∧ Ext w w' := by
  have H := Lib.hid h; clear h
  have HK := Lib.hid hk
  rcases isN_no hk with rfl | h6
  · clear hk
    show Calls Tryd.prog 4 #[.int .u8 0] w _
    go_enter Tryd.func4, Tryd.ntmps4
    go_wp2_with fail
    refine (of_0 _ H.out).mono ?_
    rintro e w1 ⟨rfl, b1⟩
    go_wp2_with fail
    refine (wakes _ (H.out.ext (ext_alloc b1 _))).mono ?_
    rintro e w2 ⟨rfl, b2⟩
    go_wp2_with fail
    go_ret
    exact ⟨rfl, ext_trans (ext_alloc b1 _) b2⟩
  · clear hk
    have h0 : ((n : Int) == 0) = false := beq_eq_false_iff_ne.2 (by omega)
    go_enter Tryd.func4, Tryd.ntmps4
    go_wp2_with fail
    refine (of_any n hn _ H.out).mono ?_
    rintro e w1 ⟨rfl, b1⟩
    rw [HK.out]
    go_wp2_with fail
    refine (wakes _ (H.out.ext (ext_alloc b1 _))).mono ?_
    rintro e w2 ⟨rfl, b2⟩
    go_wp2_with fail
    go_ret
    exact ⟨rfl, ext_trans (ext_alloc b1 _) b2⟩
end Go.Proofs.YtdbjknljdplinaaDoor.Rul
