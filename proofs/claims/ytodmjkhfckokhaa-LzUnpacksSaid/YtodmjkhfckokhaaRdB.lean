/- The document's reader: a varint. -/
import Derived.Test.YtodmjkhfckokhaaRdA
import Derived.Deep.DeepCutAuto
namespace Go.Proofs.Ytodmjkhfckokhaa.Ref
open Go.ChangeShapes Go.WideShapes Go.ChangeAt Go.RowKit
open Go.Proofs.Ytodmjkhfckokhaa.Wire
open Go.Proofs.Ytodmjkhfckokhaa.Com (natsOf_get)
set_option linter.unusedVariables false

/-- What the first bytes come to. -/
def vsum (L : List Nat) : Nat → Nat
  | 0 => 0
  | n + 1 => vsum L n + (L.getD n 0 % 128) * 128 ^ n
theorem vsum_lt (L : List Nat) (n : Nat) : vsum L n < 128 ^ n := by
  induction n with
  | zero => simp [vsum]
  | succ n ih =>
    rw [vsum, Nat.pow_succ]
    have : L.getD n 0 % 128 ≤ 127 := by omega
    have := Nat.mul_le_mul_right (128 ^ n) this
    omega
theorem vsum_ten {L : List Nat} (h : L.getD 9 0 ≤ 1) : vsum L 10 < 128 ^ 9 + 128 ^ 9 := by
  have h1 := vsum_lt L 9
  have h3 : vsum L 10 = vsum L 9 + (L.getD 9 0 % 128) * 128 ^ 9 := rfl
  generalize 128 ^ 9 = P at *
  have h4 : L.getD 9 0 % 128 ≤ 1 := by omega
  have h5 := Nat.mul_le_mul_right P h4
  omega
theorem two63 : (128 : Nat) ^ 9 + 128 ^ 9 = 18446744073709551616 := by decide
theorem vsum_nine {L : List Nat} {n : Nat} (h : n ≤ 9) : vsum L n < 128 ^ 9 + 128 ^ 9 := by
  have h1 := vsum_lt L n
  have h2 : (128 : Nat) ^ n ≤ 128 ^ 9 := Nat.pow_le_pow_right (by omega) h
  generalize 128 ^ 9 = P at *
  omega
theorem vsum_fits {L : List Nat} {q : Nat} (hq : q ≤ 9) (h : ¬ (q = 9 ∧ 1 < L.getD q 0)) : vsum L (q + 1) < 18446744073709551616 := by
  rw [← two63]
  by_cases h9 : q = 9
  · subst h9; exact vsum_ten (by omega)
  · exact vsum_nine (by omega)
theorem pow_one_le (p : Nat) : 1 ≤ 128 ^ p := by
  induction p with
  | zero => simp
  | succ p ih => rw [Nat.pow_succ]; omega
theorem fits_mul {p v x T S : Nat} (h : T = S + 128 ^ p * (v * 128 + x)) (hT : T < 18446744073709551616) : v * 128 + x < 18446744073709551616 := by
  have hpp := pow_one_le p
  have := Nat.mul_le_mul_right (v * 128 + x) hpp
  omega
/-- One byte more. -/
theorem vr_next {L : List Nat} {q : Nat} (hq : q < L.length) (hb : L.getD q 0 < 256) : vr q (vsum L q) (L.drop q) =
    if (q = 9 ∧ 1 < L.getD q 0) ∨ (0 < q ∧ L.getD q 0 = 0) then .form else if L.getD q 0 < 128 then .ok (vsum L (q + 1)) (q + 1) else vr (q + 1) (vsum L (q + 1)) (L.drop (q + 1)) := by
  have e : L.drop q = L.getD q 0 :: L.drop (q + 1) := by
    rw [List.drop_eq_getElem_cons hq, List.getD_eq_getElem?_getD, List.getElem?_eq_getElem hq]; rfl
  have e2 : (if L.getD q 0 < 128 then VR.ok (vsum L q + L.getD q 0 * 128 ^ q) (q + 1) else vr (q + 1) (vsum L q + (L.getD q 0 - 128) * 128 ^ q) (L.drop (q + 1))) =
      if L.getD q 0 < 128 then VR.ok (vsum L (q + 1)) (q + 1) else vr (q + 1) (vsum L (q + 1)) (L.drop (q + 1)) := by
    by_cases h : L.getD q 0 < 128
    · rw [if_pos h, if_pos h, vsum, Nat.mod_eq_of_lt h]
    · have h1 : L.getD q 0 - 128 = L.getD q 0 % 128 := by omega
      rw [if_neg h, if_neg h, vsum, h1]
  rw [e, vr, e2]
theorem pow_step (p v x : Nat) : 128 ^ (p + 1) * v + x * 128 ^ p = 128 ^ p * (v * 128 + x) := by
  rw [Nat.pow_succ, Nat.mul_add, Nat.mul_comm x, Nat.mul_assoc, Nat.mul_comm 128 v]
def VOut (w : World) (R : VR) (e : Ending) (w' : World) : Prop :=
  w = w' ∧ match R with
  | .short => e = .returned (.tuple #[.int .u64 0, .int .i64 0, .int .i64 3])
  | .form => e = .returned (.tuple #[.int .u64 0, .int .i64 0, .int .i64 4])
  | .ok v k => e = .returned (.tuple #[.int .u64 (v : Int), .int .i64 (k : Int), .int .i64 0])
def NRel (L : List Nat) (R : VR) (nv : Value) : Prop := ∃ q : Nat, q ≤ 9 ∧ q ≤ L.length ∧ nv = .int .i64 ((q : Int) + 1) ∧ vr q (vsum L q) (L.drop q) = R
def HRel (L : List Nat) (T n : Nat) (vv iv : Value) : Prop := ∃ p v : Nat, p ≤ n ∧ iv = .int .i64 ((p : Int) - 1) ∧ vv = .int .u64 (v : Int) ∧ T = vsum L p + 128 ^ p * v
set_option maxHeartbeats 8000000 in
set_option maxRecDepth 100000 in
theorem varint (s : ByteArray) (w : World) (hs : s.size ≤ 4000000000) : Calls Try.prog 77 #[.string s] w (VOut w (vr 0 0 (natsOf s))) := by
  have HL := Lib.hid (natsOf_len s)
  have HG := Lib.hid (fun k hk => natsOf_get s k hk)
  have HS := Lib.hid (natsOf_small s)
  have HNX := Lib.hid (fun q (hq : q < (natsOf s).length) hb => vr_next (L := natsOf s) hq hb)
  obtain ⟨R, hR⟩ : ∃ R, R = vr 0 0 (natsOf s) := ⟨_, rfl⟩
  rw [← hR]
  have HR := Lib.hid hR; clear hR
  go_enter Try.func77, Try.ntmps77
  go_wp2_with fail
  go_loop [5] (fun nv => NRel (natsOf s) R nv) (fun nv => 11 - (intOf nv).toNat)
  case atStart => exact ⟨0, by omega, by omega, rfl, by rw [List.drop_zero, HR.out]; rfl⟩
  case round =>
    obtain ⟨q, hq9, hql, rfl, hv⟩ := hrel
    have HV := Lib.hid hv; clear hv
    rw [HL.out] at hql
    have k0 : (q : Int) + 1 ≤ 10 := by omega
    by_cases hsh : q = s.size
    · have k1 : (s.size : Int) < (q : Int) + 1 := by omega
      have HRR : Hid (R = .short) := Lib.hid (by rw [← HV.out, List.drop_of_length_le (by rw [HL.out]; omega)]; rfl)
      clear hsh
      go_wp2_with fail
      go_ret3
      exact ⟨rfl, by rw [HRR.out]; rfl⟩
    · have k1 : ¬ (s.size : Int) < (q : Int) + 1 := by omega
      have hlt : q < s.size := by omega
      have hgq := HG.out q hlt
      have hx := HNX.out q (by rw [HL.out]; exact hlt) (HS.out q)
      rw [HV.out, hgq] at hx
      have HX := Lib.hid hx; clear hx hgq hsh
      have hb8 := s[q].toNat_lt
      have k2 : (0 : Int) ≤ (q : Int) + 1 - 1 := by omega
      have k3 : (q : Int) + 1 - 1 < (s.size : Int) := by omega
      obtain ⟨F, hF⟩ : ∃ F : Bool, F = decide ((q = 9 ∧ 1 < s[q].toNat) ∨ (0 < q ∧ s[q].toNat = 0)) := ⟨_, rfl⟩
      have HF := Lib.hid hF; clear hF
      have HBG : Hid (F = false → ¬ (q = 9 ∧ 1 < (natsOf s).getD q 0)) := Lib.hid (fun h => by rw [HG.out q hlt]; have := HF.out; rw [h] at this; have := of_decide_eq_false this.symm; omega)
      go_upto_region 6 with fail
      go_cut [33] (fun bv wx => bv = .bool F ∧ w = wx)
      case first =>
        by_cases h9 : q = 9
        · subst h9
          by_cases hbig : 1 < s[9].toNat
          · have k4 : (1 : Int) < (s[9].toNat : Int) := by omega
            have HFT : Hid (F = true) := Lib.hid (by rw [HF.out]; exact decide_eq_true (.inl ⟨rfl, hbig⟩))
            go_wp2_with fail
            go_meet
            exact ⟨by rw [HFT.out], rfl⟩
          · have k4 : ¬ (1 : Int) < (s[9].toNat : Int) := by omega
            by_cases hz : s[9].toNat = 0
            · have k5 : ((s[9].toNat : Int) == 0) = true := beq_iff_eq.2 (by omega)
              have HFT : Hid (F = true) := Lib.hid (by rw [HF.out]; exact decide_eq_true (.inr ⟨by omega, hz⟩))
              go_wp2_with fail
              go_meet
              exact ⟨by rw [HFT.out], rfl⟩
            · have k5 : ((s[9].toNat : Int) == 0) = false := beq_eq_false_iff_ne.2 (by omega)
              have HFT : Hid (F = false) := Lib.hid (by rw [HF.out]; exact decide_eq_false (by omega))
              go_wp2_with fail
              go_meet
              exact ⟨by rw [HFT.out]; exact congrArg Value.bool (decide_eq_false (by omega)), rfl⟩
        · have k4 : (((q : Int) + 1) == 10) = false := beq_eq_false_iff_ne.2 (by omega)
          by_cases hq0 : q = 0
          · subst hq0
            have HFT : Hid (F = false) := Lib.hid (by rw [HF.out]; exact decide_eq_false (by omega))
            go_wp2_with fail
            go_meet
            exact ⟨by rw [HFT.out], rfl⟩
          · have k6 : (1 : Int) < (q : Int) + 1 := by omega
            by_cases hz : s[q].toNat = 0
            · have k5 : ((s[q].toNat : Int) == 0) = true := beq_iff_eq.2 (by omega)
              have HFT : Hid (F = true) := Lib.hid (by rw [HF.out]; exact decide_eq_true (.inr ⟨by omega, hz⟩))
              go_wp2_with fail
              go_meet
              exact ⟨by rw [HFT.out], rfl⟩
            · have k5 : ((s[q].toNat : Int) == 0) = false := beq_eq_false_iff_ne.2 (by omega)
              have HFT : Hid (F = false) := Lib.hid (by rw [HF.out]; exact decide_eq_false (by omega))
              go_wp2_with fail
              go_meet
              exact ⟨by rw [HFT.out], rfl⟩
      case rest =>
        obtain ⟨rfl, rfl⟩ := hcut
        cases F with
        | true =>
          have HRR : Hid (R = .form) := Lib.hid (by rw [HX.out, if_pos (of_decide_eq_true HF.out.symm)])
          go_wp2_with fail
          go_ret3
          exact ⟨rfl, by rw [HRR.out]; rfl⟩
        | false =>
          have HCN : Hid (¬ (q = 9 ∧ 1 < s[q].toNat ∨ 0 < q ∧ s[q].toNat = 0)) := Lib.hid (of_decide_eq_false HF.out.symm)
          by_cases hlo : s[q].toNat < 128
          · have k7 : ¬ (128 : Int) ≤ (s[q].toNat : Int) := by omega
            have HRR : Hid (R = .ok (vsum (natsOf s) (q + 1)) (q + 1)) := Lib.hid (by rw [HX.out, if_neg HCN.out, if_pos hlo])
            have HT : Hid (vsum (natsOf s) (q + 1) < 18446744073709551616) := Lib.hid (vsum_fits hq9 (HBG.out rfl))
            clear HX
            generalize hT : vsum (natsOf s) (q + 1) = T at *
            have HTE := Lib.hid hT; clear hT
            go_wp2_with fail
            go_loop [6, 7] (fun vv iv => HRel (natsOf s) T (q + 1) vv iv) (fun _ iv => (intOf iv + 1).toNat)
            case atStart => exact ⟨q + 1, 0, Nat.le_refl _, int_eq (by omega), rfl, by rw [HTE.out, Nat.mul_zero]; rfl⟩
            case round =>
              obtain ⟨p, v, hp, rfl, rfl, hTv⟩ := hrel
              have HTV := Lib.hid hTv; clear hTv
              cases p with
              | zero =>
                have k5 : ¬ (0 : Int) ≤ ((0 : Nat) : Int) - 1 := by omega
                have HV2 : Hid (T = v) := Lib.hid (by rw [HTV.out]; simp [vsum])
                go_wp2_with fail
                go_ret3
                exact ⟨rfl, by rw [HRR.out, HV2.out]; rfl⟩
              | succ p =>
                have hps : p < s.size := by omega
                have e1 : (((p + 1 : Nat) : Int) - 1) = (p : Int) := by omega
                rw [e1]
                have hgp := HG.out p hps
                have hst : T = vsum (natsOf s) p + 128 ^ p * (v * 128 + s[p].toNat % 128) := by
                  rw [HTV.out, vsum, ← pow_step, hgp]; omega
                have hvl := fits_mul hst HT.out
                have HST := Lib.hid hst; clear hst hgp e1
                have k5 : (0 : Int) ≤ (p : Int) := by omega
                have k6 : (p : Int) < (s.size : Int) := by omega
                have hpb := s[p].toNat_lt
                have hw1 : IntKind.u64.wrap ((v : Int) * 128) = (v : Int) * 128 := by rw [IntKind.wrap_u64]; omega
                have hw2 : IntKind.u64.wrap ((s[p].toNat : Int) % 128) = (s[p].toNat : Int) % 128 := by rw [IntKind.wrap_u64]; omega
                have hw3 : IntKind.u64.wrap ((v : Int) * 128 + (s[p].toNat : Int) % 128) = ((v * 128 + s[p].toNat % 128 : Nat) : Int) := by rw [IntKind.wrap_u64]; omega
                go_wp2_with fail
                go_round
                case rel => exact ⟨p, v * 128 + s[p].toNat % 128, by omega, int_eq (by omega), rfl, HST.out⟩
                case measure => simp [intOf]
          · have k7 : (128 : Int) ≤ (s[q].toNat : Int) := by omega
            have HRR : Hid (vr (q + 1) (vsum (natsOf s) (q + 1)) ((natsOf s).drop (q + 1)) = R) := Lib.hid (by rw [HX.out, if_neg HCN.out, if_neg hlo])
            have hq8 : q < 9 := by
              have := HCN.out
              omega
            go_wp2_with fail
            go_round
            case rel => exact ⟨q + 1, by omega, by rw [HL.out]; omega, int_eq (by omega), HRR.out⟩
            case measure => simp [intOf]; omega
end Go.Proofs.Ytodmjkhfckokhaa.Ref
