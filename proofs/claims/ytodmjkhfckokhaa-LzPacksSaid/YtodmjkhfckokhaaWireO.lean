/- Contracts of package wire: readers made; the place, what is left, the error. -/
import Derived.Test.YtodmjkhfckokhaaWireP
import Derived.Test.YtodmjkhfckokhaaWireR67
import Derived.WalkSpells
namespace Go.Proofs.Ytodmjkhfckokhaa.Wire
open Go.ChangeShapes Go.WideShapes Go.ChangeAt Go.RowKit
set_option linter.unusedVariables false

theorem at_any (g : Nat) (s : Value) (i : Nat) (e0 : Int) (w : World) (h : Rdr w g s i e0) : Calls Try.prog 25 #[.pointer (some ⟨g, 0, none⟩)] w fun e w' => e = .returned (.int .i64 (i : Int)) ∧ w = w' := by
  obtain ⟨c0, c1, c2, f1, f2⟩ := h.cells
  clear h
  go_enter Try.func25, Try.ntmps25
  go_wp2_with fail
  go_ret
  exact ⟨rfl, rfl⟩
theorem err_any (g : Nat) (s : Value) (i : Nat) (e0 : Int) (w : World) (h : Rdr w g s i e0) : Calls Try.prog 27 #[.pointer (some ⟨g, 0, none⟩)] w fun e w' => e = .returned (.int .i64 e0) ∧ w = w' := by
  obtain ⟨c0, c1, c2, f1, f2⟩ := h.cells
  clear h
  go_enter Try.func27, Try.ntmps27
  go_wp2_with fail
  go_ret
  exact ⟨rfl, rfl⟩
set_option maxRecDepth 100000 in
theorem left_any (g n c : Nat) (A : Option Addr) (i : Nat) (e0 : Int) (w : World) (h : Rdr w g (.slice A n c) i e0) (hi : i ≤ n) (hn : n ≤ 4000000000) : Calls Try.prog 26 #[.pointer (some ⟨g, 0, none⟩)] w fun e w' => e = .returned (.int .i64 ((n - i : Nat) : Int)) ∧ Ext w w' := by
  obtain ⟨c0, c1, c2, f1, f2⟩ := h.cells
  clear h
  have HW1 : Hid (IntKind.i64.wrap ((n : Int) - (i : Int)) = ((n - i : Nat) : Int)) := Lib.hid (by rw [IntWalk.i64_in _ (by omega)]; omega)
  generalize n - i = L at *
  go_enter Try.func26, Try.ntmps26
  go_wp2_with fail
  have hw1 := HW1.out
  refine wp_still (by kernel_rfl) (by kernel_rfl) ?_
  repeat still_step
  refine wpStill_nil ?_
  clear hw1
  go_wp2_with fail
  go_ret
  exact ⟨rfl, ext_drew (Ext.rfl' _)⟩
theorem end_bad (g : Nat) (s : Value) (i : Nat) (e0 : Int) (w : World) (h : Rdr w g s i e0) (he : (e0 == 0) = false) : Calls Try.prog 28 #[.pointer (some ⟨g, 0, none⟩)] w fun e w' => e = .returned (.int .i64 e0) ∧ Ext w w' := by
  have HC := Lib.hid (err_any g s i e0 w h)
  clear h
  go_enter Try.func28, Try.ntmps28
  go_wp2_with fail
  refine (HC.out).mono ?_
  rintro e w1 ⟨rfl, rfl⟩
  go_wp2_with fail
  go_ret
  exact ⟨rfl, Ext.rfl' _⟩
theorem end_ok (g n c : Nat) (A : Option Addr) (i : Nat) (w : World) (h : Rdr w g (.slice A n c) i 0) (hi : i ≤ n) (hn : n ≤ 4000000000) : Calls Try.prog 28 #[.pointer (some ⟨g, 0, none⟩)] w fun e w' => e = .returned (.int .i64 (if i = n then 0 else 4)) ∧ Ext w w' := by
  have HC := Lib.hid (err_any g _ i 0 w h)
  have HL := Lib.hid (left_any g n c A i 0 w h hi hn)
  clear h
  by_cases hin : i = n
  · subst hin
    rw [if_pos rfl]
    have e0 : i - i = 0 := by omega
    rw [e0] at HL
    clear e0
    go_enter Try.func28, Try.ntmps28
    go_wp2_with fail
    refine (HC.out).mono ?_
    rintro e w1 ⟨rfl, rfl⟩
    go_wp2_with fail
    refine (HL.out).mono ?_
    rintro e w1 ⟨rfl, b1⟩
    go_wp2_with fail
    go_ret
    exact ⟨rfl, b1⟩
  · rw [if_neg hin]
    have hL : 0 < n - i := by omega
    generalize n - i = L at *
    go_enter Try.func28, Try.ntmps28
    go_wp2_with fail
    refine (HC.out).mono ?_
    rintro e w1 ⟨rfl, rfl⟩
    go_wp2_with fail
    refine (HL.out).mono ?_
    rintro e w1 ⟨rfl, b1⟩
    go_wp2_with fail
    go_ret
    exact ⟨rfl, b1⟩
/-- What a copy comes to. -/
def KPost (w : World) (n : Nat) (xs : List Nat) (e : Ending) (w' : World) : Prop :=
  ∃ (A' : Option Addr) (c' : Nat), e = .returned (.slice A' n c') ∧ n ≤ c' ∧ c' ≤ 9223372036854775807 ∧ (A' = none → n = 0 ∧ c' = 0) ∧ (0 < n → ∀ a, A' = some a → w.heap.size ≤ a.block) ∧ Bs w' A' n xs ∧ Ext w w'
set_option maxHeartbeats 1000000 in
theorem clone (A : Option Addr) (n c : Nat) (xs : List Nat) (w : World) (hB : Bs w A n xs) (hnil : A = none → n = 0 ∧ c = 0) (hn : n ≤ 4000000000) :
    Calls Try.prog 51 #[.slice A n c] w (KPost w n xs) := by
  have hnl := @Lib.run_eql_slice_nil Try.prog
  rcases A with _ | a
  · obtain ⟨rfl, rfl⟩ := hnil rfl
    have hx : xs = [] := List.eq_nil_of_length_eq_zero hB.1
    subst hx
    clear hnil hB
    go_enter Try.func51, Try.ntmps51
    go_wp2_with fail
    go_ret
    exact ⟨none, 0, rfl, Nat.le_refl _, by omega, fun _ => ⟨rfl, rfl⟩, fun h => absurd h (by omega), Bs.none _ _, Ext.rfl' _⟩
  · clear hnil
    have hxl := hB.1
    subst hxl
    have HE := Lib.hid (ext_alloc (Ext.rfl' w) (.cells #[] 5))
    have HSM := Lib.hid hB.2.1
    have HSR : Hid (Src Try.prog 1 22 (.slice (some a) xs.length c) xs.length (c8 xs) (w.alloc (.cells #[] 5))) := Lib.hid (Bs.src (hB.ext HE.out) Try.underlying22 c)
    have HOW : Hid (Own w (w.alloc (.cells #[] 5)) (.slice (some ⟨w.heap.size, 0, none⟩) 0 0) []) := Lib.hid (World.ownsRow_made w #[] 0 (Nat.le_refl _) (by unfold maxLen; omega) rfl)
    have HQ : Hid (([] : List Nat).length + xs.length ≤ 140737488355328) := Lib.hid (by simp; omega)
    clear hB
    go_enter Try.func51, Try.ntmps51
    go_wp2_with (first | (at_builtin; refine wpList_own (W := w) rfl (.tmp 5) (.tmp 6) 22 rfl (.slice (some ⟨w.heap.size, 0, none⟩) 0 0) (.slice (some a) xs.length c) [] xs rfl rfl HOW.out HE.out HSR.out HQ.out ?_; intro v2 w2 hown2 hE2))
    have HO2 : Hid (Own w w2 v2 xs) := Lib.hid hown2
    have HE2 := Lib.hid hE2
    clear hown2 hE2
    go_ret
    obtain ⟨A2, c2, rfl, h1, h2, h3⟩ := own_shape HO2.out
    refine ⟨A2, c2, rfl, h1, by unfold maxLen at h2; omega, fun h => ?_, fun hp a2 ha2 => ?_, Own.bs HO2.out HSM.out, HE2.out⟩
    · subst h
      rcases HO2.out.2 with ⟨hq, hz⟩ | ⟨g, cap, cur, hq, _⟩
      · obtain ⟨_, _, rfl⟩ := Value.slice.inj hq; exact ⟨hz, rfl⟩
      · simp at hq
    · obtain ⟨g, rfl, hg⟩ := h3 hp
      obtain rfl := Option.some.inj ha2
      exact hg
/-- What Of comes to. -/
def OPost (w : World) (n : Nat) (xs : List Nat) (e : Ending) (w' : World) : Prop :=
  ∃ (g : Nat) (A' : Option Addr) (c' : Nat), e = .returned (.pointer (some ⟨g, 0, none⟩)) ∧ w.heap.size ≤ g ∧ Rdr w' g (.slice A' n c') 0 0 ∧ RB w' g A' n c' xs ∧ Ext w w'
set_option maxHeartbeats 1000000 in
theorem of (A : Option Addr) (n c : Nat) (xs : List Nat) (w : World) (hB : Bs w A n xs) (hnil : A = none → n = 0 ∧ c = 0) (hn : n ≤ 4000000000) :
    Calls Try.prog 29 #[.slice A n c] w (OPost w n xs) := by
  have HC := Lib.hid (clone A n c xs w hB hnil hn)
  clear hB hnil
  go_enter Try.func29, Try.ntmps29
  go_wp2_with fail
  refine (HC.out).mono ?_
  rintro e w1 ⟨A', c', rfl, h1, h2, h3, h4, hB, hE⟩
  have HB := Lib.hid hB; have HE := Lib.hid hE; have H3 := Lib.hid h3; have H4 := Lib.hid h4; clear hB hE h3 h4
  go_wp2_with fail
  go_ret
  refine ⟨w1.heap.size, A', c', rfl, HE.out.size, Blk.new _ _ _, ⟨HB.out.ext (ext_alloc (Ext.rfl' _) _), h1, h2, H3.out, fun hp a ha => ?_⟩, ext_alloc HE.out _⟩
  obtain ⟨b, o, e, hl, _⟩ := HB.out.2.2 hp
  obtain rfl := Option.some.inj (ha.symm.trans e)
  exact Nat.ne_of_lt hl
theorem and64 (a b : Nat) : bits .and .u64 (a : Int) (b : Int) = ((BitVec.ofNat 64 a &&& BitVec.ofNat 64 b).toNat : Int) := by
  show IntKind.u64.wrap ((BitVec.ofInt 64 (a : Int) &&& BitVec.ofInt 64 (b : Int)).toNat : Int) = _
  rw [BitVec.ofInt_natCast, BitVec.ofInt_natCast]
  have := (BitVec.ofNat 64 a &&& BitVec.ofNat 64 b).isLt
  rw [IntKind.wrap_u64]
  omega
theorem and1 (z : Nat) (hz : z < 18446744073709551616) : bits .and .u64 (z : Int) 1 = ((z % 2 : Nat) : Int) := by
  have h := and64 z 1
  rw [BitVec.toNat_and, BitVec.toNat_ofNat, BitVec.toNat_ofNat, Nat.mod_eq_of_lt (show z < 2 ^ 64 from hz), Nat.mod_eq_of_lt (show 1 < 2 ^ 64 by decide), Nat.and_one_is_mod] at h
  exact h
theorem uz_eq (z : Nat) (hz : z < 18446744073709551616) : bits BinOp.xor IntKind.i64 ((z : Int) / 2) (wrap64 (-wrap64 (bits BinOp.and IntKind.u64 (z : Int) 1))) = uz z := by
  have hx : ∀ a b : Int, bits .xor .i64 a b = IntKind.i64.wrap ((BitVec.ofInt 64 a ^^^ BitVec.ofInt 64 b).toNat : Int) := fun _ _ => rfl
  rw [and1 z hz]
  have e0 : (z : Int) / 2 = ((z / 2 : Nat) : Int) := by omega
  have e1 : wrap64 ((z % 2 : Nat) : Int) = ((z % 2 : Nat) : Int) := IntWalk.wrap64_in _ (by omega)
  rw [e1, e0, hx]
  unfold uz
  by_cases h : z % 2 = 0
  · have e2 : wrap64 (-((z % 2 : Nat) : Int)) = ((0 : Nat) : Int) := (IntWalk.wrap64_in _ (by omega)).trans (by omega)
    rw [e2, if_pos h, BitVec.ofInt_natCast, BitVec.ofInt_natCast, show BitVec.ofNat 64 0 = 0#64 from rfl, BitVec.xor_zero, BitVec.toNat_ofNat, Nat.mod_eq_of_lt (by omega)]
    exact IntWalk.i64_in _ (by omega)
  · have e2 : wrap64 (-((z % 2 : Nat) : Int)) = -1 := (IntWalk.wrap64_in _ (by omega)).trans (by omega)
    rw [e2, if_neg h, BitVec.ofInt_natCast, show BitVec.ofInt 64 (-1) = BitVec.allOnes 64 from by decide, BitVec.xor_allOnes, BitVec.toNat_not, BitVec.toNat_ofNat, Nat.mod_eq_of_lt (by omega)]
    rw [IntKind.wrap_i64]
    omega
set_option maxHeartbeats 1000000 in
theorem signed (g n c at_ : Nat) (A : Option Addr) (xs : List Nat) (w : World) (h : Rdr w g (.slice A n c) at_ 0) (hB : Bs w A n xs) (hat : at_ ≤ n) (hn : n ≤ 4000000000) (v k : Nat) (hv : vr 0 0 (xs.drop at_) = .ok v k) :
    Calls Try.prog 21 #[.pointer (some ⟨g, 0, none⟩)] w fun e w' => e = .returned (.int .i64 (uz v)) ∧ Eff w w' g (.slice A n c) (at_ + k) 0 := by
  have HC := Lib.hid (num g n c at_ A xs w h hB hat hn)
  rw [hv] at HC
  clear h hB hv
  go_enter Try.func21, Try.ntmps21
  go_wp2_with fail
  refine (HC.out).mono ?_
  rintro e w3 ⟨z, j, err, rfl, hz, hE3, rfl, rfl, rfl⟩
  have HE3 := Lib.hid hE3; clear hE3
  have HU := Lib.hid (uz_eq z hz)
  go_wp2_with fail
  go_ret
  exact ⟨ret_int HU.out, HE3.out⟩
end Go.Proofs.Ytodmjkhfckokhaa.Wire
