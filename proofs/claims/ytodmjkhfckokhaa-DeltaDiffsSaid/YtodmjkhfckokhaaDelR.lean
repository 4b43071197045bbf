/- The document's test for zeros, walked. -/
import Derived.Test.YtodmjkhfckokhaaDelQ
namespace Go.Proofs.Ytodmjkhfckokhaa.Delta
open Go.ChangeShapes Go.WideShapes Go.ChangeAt Go.RowKit
open Go.Proofs.Ytodmjkhfckokhaa.Wire
set_option linter.unusedVariables false

def NRel (l : List Nat) (from_ n : Nat) (iv : Value) : Prop := ∃ k : Nat, from_ ≤ k ∧ k ≤ from_ + n ∧ k ≤ l.length ∧ iv = .int .i64 (k : Int) ∧ k - from_ ≤ zr (l.drop from_)
theorem zr_step {l : List Nat} {from_ k : Nat} (h1 : from_ ≤ k) (h2 : k - from_ ≤ zr (l.drop from_)) : zr (l.drop k) = zr (l.drop from_) - (k - from_) := by
  have := zr_drop (l.drop from_) (k - from_) h2
  rwa [List.drop_drop, show from_ + (k - from_) = k from by omega] at this
set_option maxHeartbeats 4000000 in
set_option maxRecDepth 100000 in
theorem refZero (s : ByteArray) (from_ n : Nat) (w : World) (hs : s.size ≤ 1000000) (hf : from_ ≤ s.size) (hn : n ≤ 1000000) :
    Calls Try.prog 55 #[.string s, .int .i64 (from_ : Int), .int .i64 (n : Int)] w fun e w' => e = .returned (.bool (decide (min n (s.size - from_) ≤ zr ((natsOf s).drop from_)))) ∧ w = w' := by
  have HL := Lib.hid (natsOf_len s)
  have HST := Lib.hid (fun k (a : from_ ≤ k) (b : k - from_ ≤ zr ((natsOf s).drop from_)) => zr_step (l := natsOf s) a b)
  have HAT := Lib.hid (fun k (hk : k < (natsOf s).length) => zr_at (xs := natsOf s) hk)
  have HG := Lib.hid (fun k hk => natsOf_get s k hk)
  generalize hb : decide (min n (s.size - from_) ≤ zr ((natsOf s).drop from_)) = b
  have HB := Lib.hid hb; clear hb
  go_enter Try.func55, Try.ntmps55
  go_wp2_with fail
  go_loop [7] (fun iv => NRel (natsOf s) from_ n iv) (fun iv => from_ + n - (intOf iv).toNat)
  case atStart => exact ⟨from_, Nat.le_refl _, by omega, by rw [HL.out]; exact hf, rfl, by omega⟩
  case round =>
    obtain ⟨k, h1, h2, h3, rfl, h4⟩ := hrel
    have H4 := Lib.hid h4; clear h4
    rw [HL.out] at h3
    have k0 : (0 : Int) ≤ (k : Int) := by omega
    by_cases hk : k < from_ + n
    · have hk2 : (k : Int) < (from_ : Int) + (n : Int) := by omega
      by_cases hlt : k < s.size
      · have HA := Lib.hid (HAT.out k (by rw [HL.out]; exact hlt))
        have HGK := Lib.hid (HG.out k hlt)
        by_cases h0 : s[k].toNat = 0
        · have hx : ((s[k].toNat : Int) != 0) = false := by rw [h0]; rfl
          have HN : Hid (k + 1 - from_ ≤ zr ((natsOf s).drop from_)) := Lib.hid (by
            have e1 := HST.out k h1 H4.out
            have e2 := HA.out
            rw [HGK.out, if_pos h0] at e2
            have := H4.out
            omega)
          clear h0
          go_wp2_with fail
          go_round
          case rel => exact ⟨k + 1, by omega, by omega, by rw [HL.out]; omega, by go_num, HN.out⟩
          case measure => simp [intOf]; omega
        · have hx : ((s[k].toNat : Int) != 0) = true := by rw [bne_iff_ne]; omega
          have HF : Hid (b = false) := Lib.hid (by
            have e1 := HST.out k h1 H4.out
            have e2 := HA.out
            rw [HGK.out, if_neg h0] at e2
            have := H4.out
            rw [← HB.out]
            exact decide_eq_false (by omega))
          clear h0
          go_wp2_with fail
          go_ret
          exact ⟨by rw [HF.out]; rfl, rfl⟩
      · have HF : Hid (b = true) := Lib.hid (by
          have := H4.out
          rw [← HB.out]
          exact decide_eq_true (by omega))
        go_wp2_with fail
        go_ret
        exact ⟨by rw [HF.out]; rfl, rfl⟩
    · have hk2 : ¬ (k : Int) < (from_ : Int) + (n : Int) := by omega
      have HF : Hid (b = true) := Lib.hid (by
        have := H4.out
        rw [← HB.out]
        exact decide_eq_true (by omega))
      go_wp2_with fail
      go_ret
      exact ⟨by rw [HF.out]; rfl, rfl⟩
end Go.Proofs.Ytodmjkhfckokhaa.Delta
