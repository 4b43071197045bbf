/- Path: the document's Find where there is no way to be looked for; who is busy, by a map; both answers in one form. -/
import Derived.Test.YtmceaocknlnmpaaPthY
import Derived.Test.YtmceaocknlnmpaaPthZ
namespace Go.Proofs.Ytmceaocknlnmpaa.Pth
open Go.ChangeShapes Go.WideShapes Go.ChangeAt Go.RowKit
open Go.Proofs.Ytmceaocknlnmpaa.Rec Go.Proofs.Ytmceaocknlnmpaa.Grid
set_option linter.unusedVariables false
set_option maxHeartbeats 4000000 in
set_option maxRecDepth 100000 in
theorem rfind_no (W H P : Nat) (T : ByteArray) (vb : Value) (f tt nr : Int) (w : World) (hP : P = W * H) (hP2 : P ≤ 5000) (h : (f < 0 ∨ (P : Int) ≤ f) ∨ (tt < 0 ∨ (P : Int) ≤ tt) ∨ nr < 0) :
    Calls Try.prog 10 #[.agg #[.int .i64 (W : Int), .int .i64 (H : Int), .string T], vb, .int .i64 f, .int .i64 tt, .int .i64 nr] w (FNo w) := by
  by_cases hf : f < 0 ∨ (P : Int) ≤ f
  · have HON := Lib.hid (fun w' => ron_no W H P f T w' hP hP2 hf)
    clear h hf hP
    go_enter Try.func10, Try.ntmps10
    go_wp2_with fail
    refine (HON.out _).mono ?_
    rintro e w1 ⟨rfl, b1⟩
    have HE := Lib.hid (ext_trans (ext_alloc (Ext.rfl' w) _) b1)
    clear b1
    go_wp2_with fail
    go_ret2
    exact ⟨rfl, HE.out⟩
  · obtain ⟨fn, rfl⟩ : ∃ n : Nat, f = (n : Int) := ⟨f.toNat, by omega⟩
    have HON := Lib.hid (fun w' => ron_yes W H P fn T w' hP hP2 (by omega))
    by_cases ht : tt < 0 ∨ (P : Int) ≤ tt
    · have HOT := Lib.hid (fun w' => ron_no W H P tt T w' hP hP2 ht)
      clear h hf ht hP
      have K0 := Lib.hid (Blk.new w 36 #[.int .i64 (W : Int), .int .i64 (H : Int), .string T])
      go_enter Try.func10, Try.ntmps10
      go_wp2_with fail
      refine (HON.out _).mono ?_
      rintro e w1 ⟨rfl, b1⟩
      have HE := Lib.hid (ext_trans (ext_alloc (Ext.rfl' w) _) b1)
      have k1 := fun i => (K0.out.ext b1).cell i
      clear b1
      go_wp2_with fail
      refine (HOT.out _).mono ?_
      rintro e w2 ⟨rfl, b2⟩
      have HE2 := Lib.hid (ext_trans HE.out b2)
      clear b2
      go_wp2_with fail
      go_ret2
      exact ⟨rfl, HE2.out⟩
    · obtain ⟨tn, rfl⟩ : ∃ n : Nat, tt = (n : Int) := ⟨tt.toNat, by omega⟩
      have HOT := Lib.hid (fun w' => ron_yes W H P tn T w' hP hP2 (by omega))
      have y1 : decide (nr < 0) = true := decide_eq_true (by omega)
      have y2 : nr < 0 := by omega
      clear h hf ht hP
      have K0 := Lib.hid (Blk.new w 36 #[.int .i64 (W : Int), .int .i64 (H : Int), .string T])
      go_enter Try.func10, Try.ntmps10
      go_wp2_with fail
      refine (HON.out _).mono ?_
      rintro e w1 ⟨rfl, b1⟩
      have HE := Lib.hid (ext_trans (ext_alloc (Ext.rfl' w) _) b1)
      have k1 := fun i => (K0.out.ext b1).cell i
      clear b1
      go_wp2_with fail
      refine (HOT.out _).mono ?_
      rintro e w2 ⟨rfl, b2⟩
      have HE2 := Lib.hid (ext_trans HE.out b2)
      clear b2
      go_wp2_with fail
      go_ret2
      exact ⟨rfl, HE2.out⟩
/-- An answer: whether there is a way, and which. -/
def Ans (ok : Bool) (l : List Nat) (w : World) (e : Ending) (w' : World) : Prop := ∃ v, e = .returned (.tuple #[v, .bool ok]) ∧ Rw w.heap.size w' v l ∧ Ext w w'
theorem FPost.ans {W H f tt nr : Nat} {free : Nat → Bool} {w w' : World} {e : Ending} (h : FPost W H free f tt nr w e w') : Ans (pway W H free f tt nr).isSome ((pway W H free f tt nr).getD []) w e w' := by
  obtain ⟨h1, h2⟩ := h
  cases hp : pway W H free f tt nr with
  | none => rw [hp] at h1; exact ⟨_, h1, OwnR.nil _ _ _ _ _, h2⟩
  | some l => rw [hp] at h1; obtain ⟨v, h1, h3⟩ := h1; exact ⟨v, h1, h3, h2⟩
theorem FNo.ans {w w' : World} {e : Ending} (h : FNo w e w') : Ans false [] w e w' := ⟨_, h.1, OwnR.nil _ _ _ _ _, h.2⟩
/-- What a map of those who are busy tells. -/
def zF (l : List Int) (k : Int) : Option Value := if k ∈ l then some (.bool true) else none
theorem zBool (w : World) : (zeroValue 4).run Try.prog w = .ok (.bool false) w := by kernel_rfl
theorem zF_put (l : List Int) (z : Int) : (fun k => if k = z then some (.bool true) else zF l k) = zF (l ++ [z]) := by
  funext k
  unfold zF
  by_cases e : k = z
  · rw [if_pos e, if_pos (by simp [e])]
  · rw [if_neg e]
    by_cases h : k ∈ l
    · rw [if_pos h, if_pos (by simp [h])]
    · rw [if_neg h, if_neg (by simp [h, e])]
theorem zF_at (l : List Int) (k : Int) : (zF l k).getD (.bool false) = .bool (decide (k ∈ l)) := by
  unfold zF
  by_cases h : k ∈ l
  · rw [if_pos h, decide_eq_true h]; rfl
  · rw [if_neg h, decide_eq_false h]; rfl
set_option maxHeartbeats 1000000 in
theorem is_st (IB MB t : Nat) (zs : List Int) (w : World) (hI : Blk w IB 32 #[.map (some MB)]) (hM : Map64.MapR w MB (zF zs)) : Calls Try.prog 9 #[.int .i64 (t : Int), .pointer (some ⟨IB, 0, none⟩)] w fun e w' => e = .returned (.bool (decide ((t : Int) ∈ zs))) ∧ Ext w w' := by
  have HM := Lib.hid hM
  have i0 : w.cell? ⟨IB, 0, none⟩ = some (.map (some MB)) := hI.cell 0
  obtain ⟨r, hr⟩ : ∃ r, r = decide ((t : Int) ∈ zs) := ⟨_, rfl⟩
  have HV : Hid ((zF zs (t : Int)).getD (.bool false) = .bool r) := Lib.hid (by rw [zF_at, hr])
  rw [← hr]
  clear hM hI hr
  go_enter Try.func9, Try.ntmps9
  go_wp2_with (refine Map64.wpList_look rfl (.tmp 4) (.tmp 5) rfl Try.underlying32 Try.underlying3 (zBool _) rfl HM.out t rfl (.bool r) HV.out ?_)
  go_ret
  exact ⟨rfl, Ext.rfl' _⟩
theorem busy_is (IB MB : Nat) (zs : List Int) (w : World) (hI : Blk w IB 32 #[.map (some MB)]) (hM : Map64.MapR w MB (zF zs)) : Busy (.func (.func 9) #[] #[.pointer (some ⟨IB, 0, none⟩)]) (fun t => decide ((t : Int) ∈ zs)) w :=
  .inr ⟨_, _, rfl, fun w args => by kernel_rfl, fun w' t e _ => is_st IB MB t zs w' (hI.ext e) (hM.ext e)⟩
end Go.Proofs.Ytmceaocknlnmpaa.Pth
