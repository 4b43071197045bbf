/- Contracts of package wire: a piece of the next bytes. -/
import Derived.Test.YtodmjkhfckokhaaWireC
namespace Go.Proofs.Ytodmjkhfckokhaa.Wire
open Go.ChangeShapes Go.WideShapes Go.ChangeAt Go.RowKit
set_option linter.unusedVariables false

/-- What is told of a reader's bytes. -/
def RB (w : World) (g : Nat) (A : Option Addr) (n c : Nat) (xs : List Nat) : Prop := Bs w A n xs ∧ n ≤ c ∧ c ≤ 9223372036854775807 ∧ (A = none → n = 0 ∧ c = 0) ∧ (0 < n → ∀ a, A = some a → a.block ≠ g)
theorem RB.eff {w w' : World} {g : Nat} {A : Option Addr} {n c : Nat} {xs : List Nat} (hB : RB w g A n c xs) (h : w.grownBy w' (some g)) : RB w' g A n c xs := by
  refine ⟨?_, hB.2⟩
  rcases Nat.eq_zero_or_pos n with h0 | hp
  · subst h0
    have : xs = [] := List.eq_nil_of_length_eq_zero hB.1.1
    subst this
    exact Bs.none _ _
  · exact hB.1.kept h (fun a ha => by have := hB.2.2.2.2 hp a ha; simpa using this)
theorem Bs.drop {w : World} {b o n : Nat} {xs : List Nat} (h : Bs w (some ⟨b, o, none⟩) n xs) (m : Nat) (hm : m ≤ n) : Bs w (some ⟨b, o + m, none⟩) (n - m) (xs.drop m) := by
  refine ⟨by rw [List.length_drop, h.1], fun j => ?_, fun hn => ?_⟩
  · rw [List.getD_eq_getElem?_getD, List.getElem?_drop, ← List.getD_eq_getElem?_getD]; exact h.2.1 _
  · obtain ⟨b', o', e, hl, hcell⟩ := h.2.2 (by omega)
    simp only [Option.some.injEq, Addr.mk.injEq, and_true] at e
    obtain ⟨rfl, rfl⟩ := e
    refine ⟨b, o + m, rfl, hl, fun j hj => ?_⟩
    rw [Nat.add_assoc, hcell (m + j) (by omega)]
    simp [List.getD_eq_getElem?_getD, List.getElem?_drop]
theorem Bs.zero {w : World} {A B : Option Addr} {n : Nat} {xs : List Nat} (h : Bs w A n xs) (hn : n = 0) : Bs w B 0 [] := Bs.none _ _
def PPost (w : World) (g : Nat) (s : Value) (at_ m : Nat) (ys : List Nat) (e : Ending) (w' : World) : Prop :=
  ∃ (A' : Option Addr) (c' : Nat), e = .returned (.slice A' m c') ∧ m ≤ c' ∧ c' ≤ 9223372036854775807 ∧ (A' = none → m = 0 ∧ c' = 0) ∧ Bs w' A' m ys ∧ Eff w w' g s (at_ + m) 0
set_option maxHeartbeats 4000000 in
set_option maxRecDepth 100000 in
theorem piece_nil (g : Nat) (F : Value) (w : World) (h : Rdr w g (.slice none 0 0) 0 0) :
    Calls Try.prog 46 #[.pointer (some ⟨g, 0, none⟩), .int .u64 0, F] w fun e w' => e = .returned (.slice none 0 0) ∧ Eff w w' g (.slice none 0 0) 0 0 := by
  obtain ⟨c0, c1', c2, f1, f2⟩ := h.cells
  have c1 : w.cell? ⟨g, 1, none⟩ = some (.int .i64 0) := c1'
  have H := Lib.hid h; clear h c1'
  go_enter Try.func46, Try.ntmps46
  go_wp2_with fail
  refine wp_still (by kernel_rfl) (by kernel_rfl) ?_
  repeat still_step
  refine wpStill_nil ?_
  go_wp2_with fail
  refine wp_still (by kernel_rfl) (by kernel_rfl) ?_
  repeat still_step
  refine wpStill_nil ?_
  go_wp2_with fail
  go_ret
  exact ⟨rfl, (H.out.setAt' 0 rfl).ext (ext_drew (ext_drew (Ext.rfl' _)))⟩
set_option maxHeartbeats 4000000 in
set_option maxRecDepth 100000 in
theorem piece_ok (g n c at_ m : Nat) (A : Option Addr) (F : Value) (xs : List Nat) (w : World) (h : Rdr w g (.slice A n c) at_ 0) (hB : RB w g A n c xs) (hat : at_ + m ≤ n) (hn : n ≤ 4000000000) :
    Calls Try.prog 46 #[.pointer (some ⟨g, 0, none⟩), .int .u64 (m : Int), F] w (PPost w g (.slice A n c) at_ m ((xs.drop at_).take m)) := by
  obtain ⟨c0, c1, c2, f1, f2⟩ := h.cells
  have H := Lib.hid h; have HB := Lib.hid hB; clear h hB
  obtain ⟨L, hL⟩ : ∃ L : Nat, L = n - at_ := ⟨_, rfl⟩
  have hLm : ¬ (L : Int) < (m : Int) := by omega
  have HW1 : Hid (IntKind.i64.wrap ((n : Int) - (at_ : Int)) = (L : Int)) := Lib.hid (by rw [IntWalk.i64_in _ (by omega)]; omega)
  have HW2 : Hid (IntKind.u64.wrap (L : Int) = (L : Int)) := Lib.hid (by rw [IntKind.wrap_u64]; omega)
  clear hL
  have b1 : (0 : Int) ≤ (at_ : Int) := by omega
  have b2 : (at_ : Int) ≤ (at_ : Int) + (m : Int) := by omega
  have hnc := HB.out.2.1
  have hcm := HB.out.2.2.1
  have b3 : (at_ : Int) + (m : Int) ≤ (c : Int) := by omega
  have HEF := Lib.hid (H.out.eff (ext_drew (Ext.rfl' _)))
  rcases A with _ | a
  · obtain ⟨rfl, rfl⟩ := HB.out.2.2.2.1 rfl
    obtain rfl : at_ = 0 := by omega
    obtain rfl : m = 0 := by omega
    refine (piece_nil g F w H.out).mono ?_
    rintro e w' ⟨rfl, hE⟩
    exact ⟨none, 0, rfl, Nat.le_refl _, by omega, fun _ => ⟨rfl, rfl⟩, by rw [List.take_zero]; exact Bs.none _ _, hE⟩
  · have hmn : ((at_ : Int) + (m : Int)).toNat = at_ + m := by omega
    have HXX : Hid (xs.length = n) := Lib.hid HB.out.1.1
    obtain ⟨A', hA'⟩ : ∃ A' : Option Addr, (if c = at_ then some a else some (a.add at_)) = A' := ⟨_, rfl⟩
    have HIF := Lib.hid hA'; clear hA'
    go_enter Try.func46, Try.ntmps46
    go_wp2_with fail
    have hw1 := HW1.out
    have hw2 := HW2.out
    refine wp_still (by kernel_rfl) (by kernel_rfl) ?_
    repeat still_step
    refine wpStill_nil ?_
    clear hw1 hw2
    go_wp2_with fail
    have hif := HIF.out
    refine wp_still (by kernel_rfl) (by kernel_rfl) ?_
    repeat still_step
    refine wpStill_nil ?_
    clear hif
    go_wp2_with fail
    go_ret
    have hif := HIF.out
    have hEE := (H.out.setAt' (at_ + m) (z := (at_ : Int) + (m : Int)) (by omega)).ext (ext_drew (ext_drew (Ext.rfl' _)))
    refine ⟨A', c - at_, rfl, by omega, by omega, (fun h => by rw [← hif] at h; split at h <;> cases h), ?_, hEE⟩
    have hb := (HB.out.eff hEE.2).1
    rcases Nat.eq_zero_or_pos m with h0 | hp
    · rw [h0, List.take_zero]; exact Bs.none _ _
    · rw [← hif, if_neg (by omega)]
      obtain ⟨b, o, e, _, _⟩ := hb.2.2 (by omega)
      obtain rfl : a = ⟨b, o, none⟩ := Option.some.inj e
      have hadd : (⟨b, o, none⟩ : Addr).add at_ = ⟨b, o + at_, none⟩ := by unfold Addr.add; split <;> simp_all
      rw [hadd]
      exact (Bs.drop hb at_ (by omega)).take (by omega)
/-- What a closure that reads comes to. -/
def CP (w : World) (g : Nat) (s : Value) (Φ : Value → Nat → Int → World → Prop) (e : Ending) (w' : World) : Prop :=
  ∃ (v : Value) (a' : Nat) (err : Int), e = .returned v ∧ Eff w w' g s a' err ∧ Φ v a' err w'
/-- What reading comes to: at a fault the place is the one from before. -/
def RP (w : World) (g : Nat) (s zero : Value) (at_ : Nat) (Φ : Value → Nat → Int → World → Prop) (e : Ending) (w' : World) : Prop :=
  (∃ (v : Value) (a' : Nat), e = .returned v ∧ Eff w w' g s a' 0 ∧ Φ v a' 0 w') ∨
  (∃ err : Int, err ≠ 0 ∧ e = .returned zero ∧ Eff w w' g s at_ err ∧ ∃ v0 a0 w0, Φ v0 a0 err w0)
end Go.Proofs.Ytodmjkhfckokhaa.Wire
