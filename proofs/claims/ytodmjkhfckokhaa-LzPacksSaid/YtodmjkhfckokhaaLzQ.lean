/- The document's best match, walked. -/
import Derived.Test.YtodmjkhfckokhaaLzP
namespace Go.Proofs.Ytodmjkhfckokhaa.Lz
open Go.ChangeShapes Go.WideShapes Go.ChangeAt Go.RowKit
open Go.Proofs.Ytodmjkhfckokhaa.Wire Go.Proofs.Ytodmjkhfckokhaa.Map32
set_option linter.unusedVariables false

/-- The places looked at so far, from the latest. -/
def lkd (xs : List Nat) (a m : Nat) : List Nat := if a + 3 ≤ xs.length then (pls xs m a (key xs a)).reverse else []
def stR (xs : List Nat) (a m : Nat) : Nat × Nat := (lkd xs a m).foldl (pickR xs a) (0, 0)
def plc (a : Nat) (s : Nat × Nat) : Nat := if s.2 = 0 then 0 else a - s.1
theorem lkd_step {xs : List Nat} (hx : ∀ j, xs.getD j 0 < 256) {a m : Nat} (hm : m < a) (ha : a ≤ xs.length) : lkd xs a m = if 3 ≤ mt xs m a then lkd xs a (m + 1) ++ [m] else lkd xs a (m + 1) := by
  unfold lkd
  by_cases h : a + 3 ≤ xs.length
  · rw [if_pos h, if_pos h, filter_lo a hm]
    by_cases hk : key xs m = key xs a
    · rw [if_pos ⟨by omega, hk⟩, if_pos ((mt_three hx hm).2 ⟨h, hk⟩), List.reverse_cons]
    · rw [if_neg (fun e => hk e.2), if_neg (fun e => hk ((mt_three hx hm).1 e).2)]
  · rw [if_neg h, if_neg h, if_neg (fun e => h ((mt_three hx hm).1 e).1)]
theorem stR_step {xs : List Nat} (hx : ∀ j, xs.getD j 0 < 256) {a m : Nat} (hm : m < a) (ha : a ≤ xs.length) : stR xs a m = if 3 ≤ mt xs m a then pickR xs a (stR xs a (m + 1)) m else stR xs a (m + 1) := by
  unfold stR
  rw [lkd_step hx hm ha]
  split
  · rw [List.foldl_append]; rfl
  · rfl
theorem stR_end {xs : List Nat} (hx : ∀ j, xs.getD j 0 < 256) {a m : Nat} (hm : m ≤ a) (hw : a - 4096 ≤ m) (hl : (lkd xs a m).length ≤ 16) (he : m = a - 4096 ∨ (lkd xs a m).length = 16) : stR xs a m = bst xs a := by
  unfold stR lkd at *
  by_cases h : a + 3 ≤ xs.length
  · rw [if_pos h] at hl he ⊢
    rw [List.length_reverse] at hl he
    rw [bst_ref hx h, seen_all hm hw hl he]
  · rw [if_neg h, bst_end (by omega)]; rfl
def QRel (w : World) (xs : List Nat) (a : Nat) (pv nv lv fv : Value) (wr : World) : Prop :=
  ∃ m : Nat, m ≤ a ∧ a - 4096 ≤ m ∧ (lkd xs a m).length ≤ 16 ∧ pv = .int .i64 (plc a (stR xs a m) : Nat) ∧ nv = .int .i64 ((stR xs a m).2 : Nat) ∧ lv = .int .i64 ((lkd xs a m).length : Nat) ∧ fv = .int .i64 ((m : Int) - 1) ∧ (stR xs a m).2 ≤ 66 ∧ Ext w wr
set_option maxHeartbeats 8000000 in
set_option maxRecDepth 100000 in
theorem refBest (s : ByteArray) (a : Nat) (w : World) (hs : s.size ≤ 1000000) (ha : a ≤ s.size) :
    Calls Try.prog 61 #[.string s, .int .i64 (a : Int)] w fun e w' => e = .returned (.tuple #[.int .i64 (plc a (bst (natsOf s) a) : Nat), .int .i64 ((bst (natsOf s) a).2 : Nat)]) ∧ Ext w w' := by
  have HX := Lib.hid (natsOf_small s)
  have HL := Lib.hid (natsOf_len s)
  have HM := Lib.hid (fun f W (h : f < a) => refMatch s f a W hs h ha)
  obtain ⟨xs, hxs⟩ : ∃ xs, xs = natsOf s := ⟨_, rfl⟩
  rw [← hxs] at HX HL HM ⊢
  clear hxs
  go_enter Try.func61, Try.ntmps61
  go_wp2_with fail
  go_loopw [6, 7, 8, 9] (fun pv nv lv fv wr => QRel w xs a pv nv lv fv wr) (fun _ _ _ fv wr => (intOf fv + 1).toNat)
  case atStart =>
    have e : lkd xs a a = [] := by unfold lkd; split; · rw [pls_empty]; rfl
                                   · rfl
    have e2 : stR xs a a = (0, 0) := by unfold stR; rw [e]; rfl
    exact ⟨a, Nat.le_refl _, by omega, by rw [e]; exact Nat.zero_le _, by rw [e2]; rfl, by rw [e2]; rfl, by rw [e]; rfl, rfl, by rw [e2]; exact Nat.zero_le _, Ext.rfl' _⟩
  case round =>
    obtain ⟨m, hm, hw, hl16, rfl, rfl, rfl, rfl, h66, hE⟩ := hrel
    have HE := Lib.hid hE; clear hE
    have HEND : Hid (m = a - 4096 ∨ (lkd xs a m).length = 16 → stR xs a m = bst xs a) := Lib.hid (fun h => stR_end HX.out hm hw hl16 h)
    by_cases hend : m = a - 4096 ∨ (lkd xs a m).length = 16
    · have HB := Lib.hid (HEND.out hend)
      obtain ⟨P1, hP1⟩ : ∃ P1, P1 = plc a (stR xs a m) := ⟨_, rfl⟩
      obtain ⟨N1, hN1⟩ : ∃ N1, N1 = (stR xs a m).2 := ⟨_, rfl⟩
      obtain ⟨K, hK⟩ : ∃ K, K = (lkd xs a m).length := ⟨_, rfl⟩
      rw [← hP1, ← hN1, ← hK]
      rw [← hK] at hend hl16
      have HP1 := Lib.hid hP1; have HN1 := Lib.hid hN1
      clear hP1 hN1 hK h66 HEND
      by_cases hm0 : m = 0
      · have z1 : ¬ (0 : Int) ≤ (m : Int) - 1 := by omega
        clear hend
        go_wp2_with fail
        go_ret2
        exact ⟨by rw [HP1.out, HN1.out, HB.out]; rfl, HE.out⟩
      · have z1 : (0 : Int) ≤ (m : Int) - 1 := by omega
        by_cases hfar : m = a - 4096
        · have z2 : ¬ (a : Int) - ((m : Int) - 1) ≤ 4096 := by omega
          clear hend hfar
          go_wp2_with fail
          go_ret2
          exact ⟨by rw [HP1.out, HN1.out, HB.out]; rfl, HE.out⟩
        · have z2 : (a : Int) - ((m : Int) - 1) ≤ 4096 := by omega
          have z3 : ¬ (K : Int) < 16 := by omega
          clear hend
          go_wp2_with fail
          go_ret2
          exact ⟨by rw [HP1.out, HN1.out, HB.out]; rfl, HE.out⟩
    · obtain ⟨f, rfl⟩ : ∃ f, m = f + 1 := ⟨m - 1, by omega⟩
      have HST := Lib.hid (stR_step HX.out (a := a) (m := f) (by omega) (by rw [HL.out]; exact ha))
      have HLK := Lib.hid (lkd_step HX.out (a := a) (m := f) (by omega) (by rw [HL.out]; exact ha))
      have hT66 := mt_le xs f a
      clear HEND
      generalize stR xs a (f + 1) = S at *
      generalize lkd xs a (f + 1) = ls at *
      obtain ⟨P1, hP1⟩ : ∃ P1, P1 = plc a S := ⟨_, rfl⟩
      rw [← hP1]
      have HP1 := Lib.hid hP1; clear hP1
      obtain ⟨S1, S2⟩ := S
      simp only at h66 ⊢
      have hK16 : ls.length < 16 := by omega
      have z1 : (0 : Int) ≤ (f : Int) := by omega
      have z2 : (a : Int) - (f : Int) ≤ 4096 := by omega
      have z3 : (ls.length : Int) < 16 := by omega
      clear hend
      go_wp2_with fail
      refine (HM.out f _ (by omega)).mono ?_
      rintro e w1 ⟨rfl, b1⟩
      have HE1 := Lib.hid (ext_trans HE.out b1); clear b1
      obtain ⟨T, hT⟩ : ∃ T, mt xs f a = T := ⟨_, rfl⟩
      rw [hT] at hT66 ⊢
      have HT := Lib.hid hT; clear hT
      by_cases h3 : 3 ≤ T
      · have z4 : ¬ (T : Int) < 3 := by omega
        have HL2 : Hid (lkd xs a f = ls ++ [f]) := Lib.hid (by rw [HLK.out, if_pos (by rw [HT.out]; exact h3)])
        have HS2 : Hid (stR xs a f = if S2 < T ∧ (3 < T ∨ a - f ≤ 128) then (a - f, T) else (S1, S2)) := Lib.hid (by rw [HST.out, if_pos (by rw [HT.out]; exact h3)]; unfold pickR; rw [HT.out])
        by_cases hc : S2 < T
        · have z5 : (S2 : Int) < (T : Int) := by omega
          by_cases h33 : 3 < T
          · have z6 : (3 : Int) < (T : Int) := by omega
            have HS3 : Hid (stR xs a f = (a - f, T)) := Lib.hid (by rw [HS2.out, if_pos ⟨hc, .inl h33⟩])
            have HP2 : Hid (plc a (a - f, T) = f) := Lib.hid (by unfold plc; rw [if_neg (by simp only; omega)]; simp only; omega)
            go_wp2_with fail
            go_roundw
            case rel => exact ⟨f, by omega, by omega, by rw [HL2.out, List.length_append]; simp; omega, by rw [HS3.out, HP2.out], by rw [HS3.out], by rw [HL2.out, List.length_append]; go_num, by go_num, by rw [HS3.out]; simp only; omega, HE1.out⟩
            case measure => simp only [intOf]; omega
          · have z6 : ¬ (3 : Int) < (T : Int) := by omega
            by_cases hnear : a - f ≤ 128
            · have z7 : (a : Int) - (f : Int) ≤ 128 := by omega
              have HS3 : Hid (stR xs a f = (a - f, T)) := Lib.hid (by rw [HS2.out, if_pos ⟨hc, .inr hnear⟩])
              have HP2 : Hid (plc a (a - f, T) = f) := Lib.hid (by unfold plc; rw [if_neg (by simp only; omega)]; simp only; omega)
              go_wp2_with fail
              go_roundw
              case rel => exact ⟨f, by omega, by omega, by rw [HL2.out, List.length_append]; simp; omega, by rw [HS3.out, HP2.out], by rw [HS3.out], by rw [HL2.out, List.length_append]; go_num, by go_num, by rw [HS3.out]; simp only; omega, HE1.out⟩
              case measure => simp only [intOf]; omega
            · have z7 : ¬ (a : Int) - (f : Int) ≤ 128 := by omega
              have HS3 : Hid (stR xs a f = (S1, S2)) := Lib.hid (by rw [HS2.out, if_neg (fun h => by rcases h.2 with h | h <;> omega)])
              go_wp2_with fail
              go_roundw
              case rel => exact ⟨f, by omega, by omega, by rw [HL2.out, List.length_append]; simp; omega, by rw [HS3.out, HP1.out], by rw [HS3.out], by rw [HL2.out, List.length_append]; go_num, by go_num, by rw [HS3.out]; exact h66, HE1.out⟩
              case measure => simp only [intOf]; omega
        · have z5 : ¬ (S2 : Int) < (T : Int) := by omega
          have HS3 : Hid (stR xs a f = (S1, S2)) := Lib.hid (by rw [HS2.out, if_neg (fun h => hc h.1)])
          go_wp2_with fail
          go_roundw
          case rel => exact ⟨f, by omega, by omega, by rw [HL2.out, List.length_append]; simp; omega, by rw [HS3.out, HP1.out], by rw [HS3.out], by rw [HL2.out, List.length_append]; go_num, by go_num, by rw [HS3.out]; exact h66, HE1.out⟩
          case measure => simp only [intOf]; omega
      · have z4 : (T : Int) < 3 := by omega
        have HL2 : Hid (lkd xs a f = ls) := Lib.hid (by rw [HLK.out, if_neg (by rw [HT.out]; exact h3)])
        have HS3 : Hid (stR xs a f = (S1, S2)) := Lib.hid (by rw [HST.out, if_neg (by rw [HT.out]; exact h3)])
        go_wp2_with fail
        go_roundw
        case rel => exact ⟨f, by omega, by omega, by rw [HL2.out]; exact hl16, by rw [HS3.out, HP1.out], by rw [HS3.out], by rw [HL2.out], by go_num, by rw [HS3.out]; exact h66, HE1.out⟩
        case measure => simp only [intOf]; omega
end Go.Proofs.Ytodmjkhfckokhaa.Lz
