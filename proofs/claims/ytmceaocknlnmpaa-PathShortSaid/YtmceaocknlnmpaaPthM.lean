/- Path: whether a tile is free for whom a way is looked for. -/
import Derived.Test.YtmceaocknlnmpaaPthK
import Derived.Test.YtmceaocknlnmpaaGrdF
namespace Go.Proofs.Ytmceaocknlnmpaa.Pth
open Go.ChangeShapes Go.WideShapes Go.ChangeAt Go.RowKit
open Go.Proofs.Ytmceaocknlnmpaa.Rec Go.Proofs.Ytmceaocknlnmpaa.Grid
set_option linter.unusedVariables false
/-- A tile that may be walked on, and nobody stands on. -/
def sfree (T : ByteArray) (bz : Nat → Bool) (t : Nat) : Bool := (if h : t < T.size then T[t].toNat == 0 else false) && !bz t
/-- What tells which tiles are busy: nothing, or a function that reads what was there. -/
def Busy (bu : Value) (bz : Nat → Bool) (w0 : World) : Prop :=
  (bu = .nilFunc ∧ ∀ t, bz t = false) ∨ ∃ id caps, bu = .func (.func id) #[] caps ∧ (∀ (w : World) (args : Array Value), (callFunc id args).run Try.prog w = .ok (.enter id args) w) ∧ ∀ (w : World) (t : Nat), Ext w0 w → t < 5000 → Calls Try.prog id (#[.int .i64 (t : Int)] ++ caps) w fun e w' => e = .returned (.bool (bz t)) ∧ Ext w w'
def gM (W H : Nat) (T : ByteArray) : Value := .agg #[.int .i64 (W : Int), .int .i64 (H : Int), .string T]
/-- The search whose first cells are a map's. -/
abbrev sM (W H : Nat) (T : ByteArray) (bu mp v : Value) (tv near : Int) : Array Value := sC (.int .i64 (W : Int)) (.int .i64 (H : Int)) (.string T) bu (.int .i64 tv) (.int .i64 near) mp v
theorem nil_func (W : World) : (binOp .eql 33 .nilFunc .nilFunc).run Try.prog W = .ok (.bool true) W := by kernel_rfl
theorem not_nil_func (id : Nat) (caps : Array Value) (W : World) : (binOp .eql 33 (.func (.func id) #[] caps) .nilFunc).run Try.prog W = .ok (.bool false) W := by kernel_rfl
set_option maxHeartbeats 4000000 in
set_option maxRecDepth 100000 in
theorem free_st (B W H x : Nat) (tv near : Int) (T : ByteArray) (bu mp v : Value) (bz : Nat → Bool) (w0 w : World) (hB : Blk w B 48 (sM W H T bu mp v tv near)) (hbu : Busy bu bz w0) (he : Ext w0 w) (hW : 4 ≤ W) (hs : T.size ≤ 5000 - 1) (hx : x < T.size) :
    Calls Try.prog 28 #[.pointer (some ⟨B, 0, none⟩), .int .i64 (x : Int)] w fun e w' => e = .returned (.bool (sfree T bz x)) ∧ Ext w w' := by
  have b0 := hB.cell 0; have b1 := hB.cell 1; have b2 := hB.cell 2; have b3 := hB.cell 3
  simp only [sM, sC, List.getElem?_toArray, List.getElem?_cons_zero, List.getElem?_cons_succ] at b0 b1 b2 b3
  have HWALK := Lib.hid (walk_yes W H x T w hW (by omega) hx)
  obtain ⟨r, hr⟩ : ∃ r, r = (((T[x].toNat : Nat) : Int) == 0) := ⟨_, rfl⟩
  have HR : Hid (sfree T bz x = (r && !bz x)) := Lib.hid (by
    unfold sfree
    rw [dif_pos hx, hr]
    congr 1
    rw [Bool.eq_iff_iff]
    simp)
  rw [← hr] at HWALK
  clear hr
  have HB := Lib.hid hB
  clear hB
  rcases hbu with ⟨rfl, hz⟩ | ⟨id, caps, rfl, hcf, hc⟩
  · have HZ := Lib.hid (hz x)
    clear hz
    go_enter Try.func28, Try.ntmps28
    go_wp2_with fail
    refine HWALK.out.mono ?_
    rintro e w1 ⟨rfl, b1'⟩
    have HE := Lib.hid b1'
    have c3 : w1.cell? ⟨B, 3, none⟩ = some .nilFunc := (HB.out.ext b1').cell 3
    clear b1'
    cases r
    · go_wp2_with fail
      go_ret
      exact ⟨by rw [HR.out]; rfl, HE.out⟩
    · have hn := nil_func w1
      go_wp2_with fail
      go_ret
      exact ⟨by rw [HR.out, HZ.out]; rfl, HE.out⟩
  · have HC := Lib.hid (hc w x he (by omega))
    have HCC := Lib.hid hc
    have HCF := Lib.hid hcf
    clear hc HC hcf
    go_enter Try.func28, Try.ntmps28
    go_wp2_with fail
    refine HWALK.out.mono ?_
    rintro e w1 ⟨rfl, b1'⟩
    have HE := Lib.hid b1'
    have c3 : w1.cell? ⟨B, 3, none⟩ = some (.func (.func id) #[] caps) := (HB.out.ext b1').cell 3
    have HC := Lib.hid (HCC.out w1 x (ext_trans he b1') (by omega))
    clear b1'
    cases r
    · go_wp2_with fail
      go_ret
      exact ⟨by rw [HR.out]; rfl, HE.out⟩
    · have hn := not_nil_func id caps w1
      have hcf := HCF.out w1 (#[.int .i64 (x : Int)] ++ caps)
      go_wp2_with fail
      refine HC.out.mono ?_
      rintro e w2 ⟨rfl, b2'⟩
      have HE2 := Lib.hid b2'
      obtain ⟨z, hz⟩ : ∃ z, z = bz x := ⟨_, rfl⟩
      rw [← hz]
      have HZ := Lib.hid hz
      clear hz b2'
      cases z <;> (go_wp2_with fail; go_ret; exact ⟨by rw [HR.out, ← HZ.out]; rfl, ext_trans HE.out HE2.out⟩)
end Go.Proofs.Ytmceaocknlnmpaa.Pth
