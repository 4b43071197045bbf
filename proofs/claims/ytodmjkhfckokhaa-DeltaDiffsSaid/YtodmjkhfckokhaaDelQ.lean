/- The document's mix of two texts, walked. -/
import Derived.Test.YtodmjkhfckokhaaDelN
import Derived.Test.YtodmjkhfckokhaaWireRef
namespace Go.Proofs.Ytodmjkhfckokhaa.Delta
open Go.ChangeShapes Go.WideShapes Go.ChangeAt Go.RowKit
open Go.Proofs.Ytodmjkhfckokhaa.Wire
set_option linter.unusedVariables false

theorem natsOf_get (s : ByteArray) (k : Nat) (h : k < s.size) : (natsOf s).getD k 0 = s[k].toNat := by
  unfold natsOf
  rw [List.getD_eq_getElem?_getD, List.getElem?_map, List.getElem?_eq_getElem (by rw [Array.length_toList]; exact h)]
  rfl
def MRel (w : World) (zs : List Nat) (sv iv : Value) (wr : World) : Prop := ∃ k : Nat, k ≤ zs.length ∧ sv = .string (strOf (zs.take k)) ∧ iv = .int .i64 (k : Int) ∧ Ext w wr
theorem take_succ_nat {zs : List Nat} {k : Nat} (h : k < zs.length) : strOf (zs.take (k + 1)) = strOf (zs.take k) ++ strOf [zs.getD k 0] := by
  rw [← strOf_app, List.take_succ_eq_append_getElem h, List.getD_eq_getElem?_getD, List.getElem?_eq_getElem h]; rfl
set_option maxHeartbeats 4000000 in
set_option maxRecDepth 100000 in
theorem refMix (s t : ByteArray) (w : World) (hs : s.size ≤ 1000000) (ht : t.size ≤ 1000000) :
    Calls Try.prog 54 #[.string s, .string t] w fun e w' => e = .returned (.string (strOf (mix (natsOf s) (natsOf t)))) ∧ Ext w w' := by
  have HZL : Hid ((mix (natsOf s) (natsOf t)).length = t.size) := Lib.hid (by rw [mix_len, natsOf_len])
  have HZS := Lib.hid (mix_small (natsOf_small s) (natsOf_small t))
  have HAT := Lib.hid (fun j hj => mix_at (natsOf s) (natsOf t) j hj)
  generalize hz : mix (natsOf s) (natsOf t) = zs at *
  go_enter Try.func54, Try.ntmps54
  go_wp2_with fail
  go_loopw [5, 6] (fun sv iv wr => MRel w zs sv iv wr) (fun _ iv _ => t.size - (intOf iv).toNat)
  case atStart => exact ⟨0, Nat.zero_le _, rfl, rfl, Ext.rfl' _⟩
  case round =>
    obtain ⟨k, hk, rfl, rfl, hE⟩ := hrel
    have HE := Lib.hid hE; clear hE
    have hkt : k ≤ t.size := by have := HZL.out; omega
    by_cases hlt : k < t.size
    · have hsn := take_succ_nat (zs := zs) (k := k) (by rw [HZL.out]; exact hlt)
      have hv := HAT.out k (by rw [natsOf_len]; exact hlt)
      rw [natsOf_get t k hlt, natsOf_len] at hv
      have hzb := HZS.out k
      have hcv := one_conv wr.heap.size (wr.alloc (.cells #[.int .u8 (zs.getD k 0 : Nat)] 5)) (zs.getD k 0) hzb (by simp)
      have hsz : ¬ (9223372036854775807 < (strOf (zs.take k)).size + (strOf [zs.getD k 0]).size) := by
        rw [strOf_size, strOf_size, List.length_take]; simp; omega
      generalize zs.getD k 0 = zk at *
      generalize strOf (zs.take k) = S at *
      generalize strOf [zk] = S1 at *
      have HSN := Lib.hid hsn; clear hsn
      have ht8 := t[k].toNat_lt
      by_cases hks : k < s.size
      · rw [if_pos hks, natsOf_get s k hks] at hv
        have hs8 := s[k].toNat_lt
        have HX : Hid (bits .xor .u8 (t[k].toNat : Int) (s[k].toNat : Int) = (zk : Int)) := Lib.hid (by rw [hv]; exact xor8 _ _ ht8 hs8)
        clear hv
        have hx := HX.out
        go_wp2_with fail
        go_roundw
        case rel => exact ⟨k + 1, by have := HZL.out; omega, by rw [HSN.out], by go_num, ext_alloc HE.out _⟩
        case measure => simp [intOf]; omega
      · rw [if_neg hks] at hv
        have HX : Hid ((t[k].toNat : Int) = (zk : Int)) := Lib.hid (by rw [hv])
        clear hv
        have hx := HX.out
        go_wp2_with fail
        go_roundw
        case rel => exact ⟨k + 1, by have := HZL.out; omega, by rw [HSN.out], by go_num, ext_alloc HE.out _⟩
        case measure => simp [intOf]; omega
    · have HT : Hid (zs.take k = zs) := Lib.hid (List.take_of_length_le (by rw [HZL.out]; omega))
      rw [HT.out]
      generalize hS : strOf zs = S
      go_wp2_with fail
      go_ret
      exact ⟨by rw [hS]; rfl, HE.out⟩
end Go.Proofs.Ytodmjkhfckokhaa.Delta
