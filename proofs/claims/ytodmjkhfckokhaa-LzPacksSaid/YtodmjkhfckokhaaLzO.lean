/- The document's match, walked. -/
import Derived.Test.YtodmjkhfckokhaaLzN
import Derived.BigQuiet
namespace Go.Proofs.Ytodmjkhfckokhaa.Lz
open Go.ChangeShapes Go.WideShapes Go.ChangeAt Go.RowKit
open Go.Proofs.Ytodmjkhfckokhaa.Wire Go.Proofs.Ytodmjkhfckokhaa.Map32
open Go.Proofs.Ytodmjkhfckokhaa.Com (natsOf_get str_ext)
set_option linter.unusedVariables false

def MRel (w : World) (xs : List Nat) (f a : Nat) (nv : Value) (wr : World) : Prop :=
  ∃ n : Nat, n ≤ 66 ∧ a + n ≤ xs.length ∧ nv = .int .i64 (n : Int) ∧ (∀ j, j < n → xs.getD (f + j) 0 = xs.getD (a + j) 0) ∧ Ext w wr
set_option maxHeartbeats 4000000 in
set_option maxRecDepth 100000 in
theorem refMatch (s : ByteArray) (f a : Nat) (w : World) (hs : s.size ≤ 1000000) (hf : f < a) (ha : a ≤ s.size) :
    Calls Try.prog 74 #[.string s, .int .i64 (f : Int), .int .i64 (a : Int)] w fun e w' => e = .returned (.int .i64 (mt (natsOf s) f a : Nat)) ∧ Ext w w' := by
  have hl : (natsOf s).length = s.size := natsOf_len s
  have HL := Lib.hid hl; clear hl
  have HG := Lib.hid (fun k hk => natsOf_get s k hk)
  go_enter Try.func74, Try.ntmps74
  go_wp2_with fail
  go_loopw [7] (fun nv wr => MRel w (natsOf s) f a nv wr) (fun nv wr => 66 - (intOf nv).toNat)
  case atStart => exact ⟨0, by omega, by rw [HL.out]; exact ha, rfl, fun j hj => by omega, Ext.rfl' _⟩
  case round =>
    obtain ⟨n, hn, hna, rfl, hj, hE⟩ := hrel
    rw [HL.out] at hna
    have HJ := Lib.hid hj; have HE := Lib.hid hE; clear hj hE
    have HX : Hid (∀ m, Ext w (wr.drewN m)) := Lib.hid (fun m => ext_drewN HE.out m)
    go_wp2_with fail
    by_cases h66 : n < 66
    · have z0 : (n : Int) < 66 := by omega
      by_cases hin : a + n < s.size
      · have z1 : (a : Int) + (n : Int) < (s.size : Int) := by omega
        have HST := Lib.hid (fun h => mt_stop (xs := natsOf s) (f := f) (a := a) (n := n) (by rw [HL.out]; omega) HJ.out h)
        have g1 := HG.out (f + n) (by omega)
        have g2 := HG.out (a + n) hin
        rw [g1, g2] at HST
        have s1 : (0 : Int) ≤ (f : Int) + (n : Int) := by omega
        have s2 : (f : Int) + (n : Int) < (s.size : Int) := by omega
        have s3 : ((f : Int) + (n : Int)).toNat = f + n := by omega
        have s4 : (0 : Int) ≤ (a : Int) + (n : Int) := by omega
        have s6 : ((a : Int) + (n : Int)).toNat = a + n := by omega
        by_cases heq : s[f + n].toNat = s[a + n].toNat
        · have HJ2 : Hid (∀ j, j < n + 1 → (natsOf s).getD (f + j) 0 = (natsOf s).getD (a + j) 0) := Lib.hid (fun j hj => by
            by_cases h : j = n
            · rw [h, g1, g2]; exact heq
            · exact HJ.out j (by omega))
          have z5 : (((s[f + n].toNat : Nat) : Int) == ((s[a + n].toNat : Nat) : Int)) = true := beq_iff_eq.2 (by omega)
          clear g1 g2 HST
          go_quiet (fail)
          go_wp2_with fail
          exact ⟨⟨n + 1, by omega, by rw [HL.out]; omega, by go_num, HJ2.out, HX.out _⟩, by simp only [intOf]; omega⟩
        · have hnm := HST.out heq
          have z5 : (((s[f + n].toNat : Nat) : Int) == ((s[a + n].toNat : Nat) : Int)) = false := beq_eq_false_iff_ne.2 (by omega)
          clear g1 g2 HST
          have HNM := Lib.hid hnm; clear hnm
          go_quiet (fail)
          go_wp2_with fail
          refine bodyPost_ret (results_tmp rfl _ _ _) rfl ?_
          exact ⟨by rw [HNM.out]; rfl, HX.out _⟩
      · have z1 : decide ((a : Int) + (n : Int) < (s.size : Int)) = false := decide_eq_false (by omega)
        have HNM := Lib.hid (mt_most (xs := natsOf s) (f := f) (a := a) (n := n) (by rw [HL.out]; omega) HJ.out)
        go_quiet (fail)
        go_wp2_with fail
        refine bodyPost_ret (results_tmp rfl _ _ _) rfl ?_
        exact ⟨by rw [HNM.out]; rfl, HX.out _⟩
    · have z0 : decide ((n : Int) < 66) = false := decide_eq_false (by omega)
      have HNM := Lib.hid (mt_most (xs := natsOf s) (f := f) (a := a) (n := n) (by rw [HL.out]; omega) HJ.out)
      go_quiet (fail)
      go_wp2_with fail
      refine bodyPost_ret (results_tmp rfl _ _ _) rfl ?_
      exact ⟨by rw [HNM.out]; rfl, HX.out _⟩
end Go.Proofs.Ytodmjkhfckokhaa.Lz
