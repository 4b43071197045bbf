/- The document's reader: what fails, what is skipped. -/
import Derived.Test.YtckjmabacibojaaDoorGF
import Derived.Test.YtckjmabacibojaaDoorGD
import Derived.Deep.DeepCutAuto
import Derived.Test.YtckjmabacibojaaDoorGH
namespace Go.Proofs.YtckjmabacibojaaDoor.Ref
open Go.ChangeShapes Go.WideShapes Go.ChangeAt Go.RowKit
open Go.Proofs.YtckjmabacibojaaDoor.Wire
set_option linter.unusedVariables false

theorem ext_set3 {a w : World} {B : Nat} (h : Ext a w) (hb : a.heap.size ≤ B) (x y z : Value) : Ext a (((w.setCell ⟨B, 0, none⟩ x).setCell ⟨B, 1, none⟩ y).setCell ⟨B, 2, none⟩ z) := ext_set (ext_set (ext_set h hb x) hb y) hb z
/-- A reader, as a value. -/
abbrev RV (s : ByteArray) (i : Nat) (e : Int) : Value := .agg #[.string s, .int .i64 (i : Int), .int .i64 e]
set_option maxHeartbeats 1000000 in
theorem fails (s : ByteArray) (i : Nat) (e0 f : Int) (w : World) : Calls Tryd.prog 42 #[RV s i e0, .int .i64 f] w fun e w' => e = .returned (RV s i f) ∧ Ext w w' := by
  go_enter Tryd.func42, Tryd.ntmps42
  go_wp2_with fail
  exact bodyPost_ret (v := RV s i f) (by simp [results, Tryd.results42, go_sem]) rfl ⟨rfl, ext_alloc (ext_alloc (Ext.rfl' w) _) _⟩
set_option maxHeartbeats 4000000 in
set_option maxRecDepth 100000 in
theorem skip (s : ByteArray) (i n : Nat) (e0 : Int) (w : World) (hn : n ≤ s.size) (hs : s.size ≤ 4000000000) (hi : i ≤ 4000000000) :
    Calls Tryd.prog 43 #[RV s i e0, .int .i64 (n : Int)] w fun e w' => e = .returned (RV (s.extract n s.size) (i + n) e0) ∧ Ext w w' := by
  have h0 : (0 : Int) ≤ (n : Int) := by omega
  have h1 : (n : Int) ≤ (s.size : Int) := by omega
  have hw : IntKind.i64.wrap ((i : Int) + (n : Int)) = (i : Int) + (n : Int) := IntWalk.i64_in _ (by omega)
  go_enter Tryd.func43, Tryd.ntmps43
  go_wp2_with fail
  refine wp_still_tail 11 (by kernel_rfl) (by kernel_rfl) ?_
  simp only [List.take_succ_cons, List.take_zero, List.drop_succ_cons, List.drop_zero]
  repeat still_step
  refine wpStill_nil ?_
  go_wp2_with fail
  exact bodyPost_ret (v := RV (s.extract n s.size) (i + n) e0) (by simp [results, Tryd.results43, go_sem]) rfl ⟨rfl, ext_drew (ext_alloc (ext_alloc (Ext.rfl' w) _) _)⟩
set_option maxHeartbeats 4000000 in
set_option maxRecDepth 100000 in
theorem bytes_low (s : ByteArray) (i : Nat) (n : Int) (w : World) (hn : n < 0) :
    Calls Tryd.prog 23 #[RV s i 0, .int .i64 n] w fun e w' => e = .returned (.tuple #[.string ⟨#[]⟩, RV s i 4]) ∧ Ext w w' := by
  go_enter Tryd.func23, Tryd.ntmps23
  go_wp2_with fail
  refine (fails s i 0 4 _).mono ?_
  rintro e w1 ⟨rfl, b1⟩
  obtain ⟨hc, hf⟩ := ecell b1
  have hz := b1.size
  simp at hz
  have h1 : w.heap.size + 1 < w1.heap.size := by omega
  go_wp2_with fail
  exact bodyPost_ret (v := .tuple #[.string ⟨#[]⟩, RV s i 4]) (by simp [results, Tryd.results23, go_sem, hc]) rfl ⟨rfl, ext_set3 (ext_trans (ext_alloc (ext_alloc (Ext.rfl' w) _) _) b1) (by omega) _ _ _⟩
set_option maxHeartbeats 4000000 in
set_option maxRecDepth 100000 in
theorem bytes_short (s : ByteArray) (i n : Nat) (w : World) (hn : s.size < n) :
    Calls Tryd.prog 23 #[RV s i 0, .int .i64 (n : Int)] w fun e w' => e = .returned (.tuple #[.string ⟨#[]⟩, RV s i 3]) ∧ Ext w w' := by
  have h0 : ¬ (n : Int) < 0 := by omega
  have h2 : (s.size : Int) < (n : Int) := by omega
  go_enter Tryd.func23, Tryd.ntmps23
  go_wp2_with fail
  refine (fails s i 0 3 _).mono ?_
  rintro e w1 ⟨rfl, b1⟩
  obtain ⟨hc, hf⟩ := ecell b1
  have hz := b1.size
  simp at hz
  have h1 : w.heap.size + 1 < w1.heap.size := by omega
  go_wp2_with fail
  exact bodyPost_ret (v := .tuple #[.string ⟨#[]⟩, RV s i 3]) (by simp [results, Tryd.results23, go_sem, hc]) rfl ⟨rfl, ext_set3 (ext_trans (ext_alloc (ext_alloc (Ext.rfl' w) _) _) b1) (by omega) _ _ _⟩
set_option maxHeartbeats 4000000 in
set_option maxRecDepth 100000 in
theorem bytes_ok (s : ByteArray) (i n : Nat) (w : World) (hn : n ≤ s.size) (hs : s.size ≤ 4000000000) (hi : i ≤ 4000000000) :
    Calls Tryd.prog 23 #[RV s i 0, .int .i64 (n : Int)] w fun e w' => e = .returned (.tuple #[.string (s.extract 0 n), RV (s.extract n s.size) (i + n) 0]) ∧ Ext w w' := by
  have h0 : ¬ (n : Int) < 0 := by omega
  have h2 : ¬ (s.size : Int) < (n : Int) := by omega
  have h3 : (0 : Int) ≤ (n : Int) := by omega
  have h4 : (n : Int) ≤ (s.size : Int) := by omega
  go_enter Tryd.func23, Tryd.ntmps23
  go_wp2_with fail
  go_region_with (go_at_call 43; refine (skip s i n 0 _ hn hs hi).mono ?_; rintro e w1 ⟨rfl, b1⟩; obtain ⟨hc, hf⟩ := ecell b1; have hz := b1.size; simp at hz; have h1 : w.heap.size + 1 < w1.heap.size := by omega)
  all_goals
    go_wp2_with fail
    exact bodyPost_ret (v := .tuple #[.string (s.extract 0 n), RV (s.extract n s.size) (i + n) 0]) (by simp [results, Tryd.results23, go_sem, hc]) rfl ⟨rfl, ext_set3 (ext_trans (ext_drew (ext_alloc (ext_alloc (Ext.rfl' w) _) _)) b1) (by omega) _ _ _⟩
end Go.Proofs.YtckjmabacibojaaDoor.Ref
namespace Go.Proofs.YtckjmabacibojaaDoor.Ref
open Go.ChangeShapes Go.WideShapes Go.ChangeAt Go.RowKit
open Go.Proofs.YtckjmabacibojaaDoor.Wire
open Go.Proofs.YtckjmabacibojaaDoor.Com (natsOf_get)
set_option linter.unusedVariables false

/-- What the first bytes come to. -/
def vsum (L : List Nat) : Nat → Nat
  | 0 => 0
  | n + 1 => vsum L n + (L.getD n 0 % 128) * 128 ^ n
theorem vsum_lt (L : List Nat) (n : Nat) : vsum L n < 128 ^ n := by
  induction n with
  | zero => simp [vsum]
  | succ n ih =>
    rw [vsum, Nat.pow_succ]
    have : L.getD n 0 % 128 ≤ 127 := by omega
    have := Nat.mul_le_mul_right (128 ^ n) this
    omega
theorem vsum_ten {L : List Nat} (h : L.getD 9 0 ≤ 1) : vsum L 10 < 128 ^ 9 + 128 ^ 9 := by
  have h1 := vsum_lt L 9
  have h3 : vsum L 10 = vsum L 9 + (L.getD 9 0 % 128) * 128 ^ 9 := rfl
  generalize 128 ^ 9 = P at *
  have h4 : L.getD 9 0 % 128 ≤ 1 := by omega
  have h5 := Nat.mul_le_mul_right P h4
  omega
theorem two63 : (128 : Nat) ^ 9 + 128 ^ 9 = 18446744073709551616 := by decide
theorem vsum_nine {L : List Nat} {n : Nat} (h : n ≤ 9) : vsum L n < 128 ^ 9 + 128 ^ 9 := by
  have h1 := vsum_lt L n
  have h2 : (128 : Nat) ^ n ≤ 128 ^ 9 := Nat.pow_le_pow_right (by omega) h
  generalize 128 ^ 9 = P at *
  omega
theorem vsum_fits {L : List Nat} {q : Nat} (hq : q ≤ 9) (h : ¬ (q = 9 ∧ 1 < L.getD q 0)) : vsum L (q + 1) < 18446744073709551616 := by
  rw [← two63]
  by_cases h9 : q = 9
  · subst h9; exact vsum_ten (by omega)
  · exact vsum_nine (by omega)
theorem pow_one_le (p : Nat) : 1 ≤ 128 ^ p := by
  induction p with
  | zero => simp
  | succ p ih => rw [Nat.pow_succ]; omega
theorem fits_mul {p v x T S : Nat} (h : T = S + 128 ^ p * (v * 128 + x)) (hT : T < 18446744073709551616) : v * 128 + x < 18446744073709551616 := by
  have hpp := pow_one_le p
  have := Nat.mul_le_mul_right (v * 128 + x) hpp
  omega
/-- One byte more. -/
theorem vr_next {L : List Nat} {q : Nat} (hq : q < L.length) (hb : L.getD q 0 < 256) : vr q (vsum L q) (L.drop q) =
    if (q = 9 ∧ 1 < L.getD q 0) ∨ (0 < q ∧ L.getD q 0 = 0) then .form else if L.getD q 0 < 128 then .ok (vsum L (q + 1)) (q + 1) else vr (q + 1) (vsum L (q + 1)) (L.drop (q + 1)) := by
  have e : L.drop q = L.getD q 0 :: L.drop (q + 1) := by
    rw [List.drop_eq_getElem_cons hq, List.getD_eq_getElem?_getD, List.getElem?_eq_getElem hq]; rfl
  have e2 : (if L.getD q 0 < 128 then VR.ok (vsum L q + L.getD q 0 * 128 ^ q) (q + 1) else vr (q + 1) (vsum L q + (L.getD q 0 - 128) * 128 ^ q) (L.drop (q + 1))) =
      if L.getD q 0 < 128 then VR.ok (vsum L (q + 1)) (q + 1) else vr (q + 1) (vsum L (q + 1)) (L.drop (q + 1)) := by
    by_cases h : L.getD q 0 < 128
    · rw [if_pos h, if_pos h, vsum, Nat.mod_eq_of_lt h]
    · have h1 : L.getD q 0 - 128 = L.getD q 0 % 128 := by omega
      rw [if_neg h, if_neg h, vsum, h1]
  rw [e, vr, e2]
theorem pow_step (p v x : Nat) : 128 ^ (p + 1) * v + x * 128 ^ p = 128 ^ p * (v * 128 + x) := by
  rw [Nat.pow_succ, Nat.mul_add, Nat.mul_comm x, Nat.mul_assoc, Nat.mul_comm 128 v]
def VOut (w : World) (R : VR) (e : Ending) (w' : World) : Prop :=
  w = w' ∧ match R with
  | .short => e = .returned (.tuple #[.int .u64 0, .int .i64 0, .int .i64 3])
  | .form => e = .returned (.tuple #[.int .u64 0, .int .i64 0, .int .i64 4])
  | .ok v k => e = .returned (.tuple #[.int .u64 (v : Int), .int .i64 (k : Int), .int .i64 0])
def NRel (L : List Nat) (R : VR) (nv : Value) : Prop := ∃ q : Nat, q ≤ 9 ∧ q ≤ L.length ∧ nv = .int .i64 ((q : Int) + 1) ∧ vr q (vsum L q) (L.drop q) = R
def HRel (L : List Nat) (T n : Nat) (vv iv : Value) : Prop := ∃ p v : Nat, p ≤ n ∧ iv = .int .i64 ((p : Int) - 1) ∧ vv = .int .u64 (v : Int) ∧ T = vsum L p + 128 ^ p * v
set_option maxHeartbeats 8000000 in
set_option maxRecDepth 100000 in
theorem varint (s : ByteArray) (w : World) (hs : s.size ≤ 4000000000) : Calls Tryd.prog 44 #[.string s] w (VOut w (vr 0 0 (natsOf s))) := by
  have HL := Lib.hid (natsOf_len s)
  have HG := Lib.hid (fun k hk => natsOf_get s k hk)
  have HS := Lib.hid (natsOf_small s)
  have HNX := Lib.hid (fun q (hq : q < (natsOf s).length) hb => vr_next (L := natsOf s) hq hb)
  obtain ⟨R, hR⟩ : ∃ R, R = vr 0 0 (natsOf s) := ⟨_, rfl⟩
  rw [← hR]
  have HR := Lib.hid hR; clear hR
  go_enter Tryd.func44, Tryd.ntmps44
  go_wp2_with fail
  go_loop [5] (fun nv => NRel (natsOf s) R nv) (fun nv => 11 - (intOf nv).toNat)
  case atStart => exact ⟨0, by omega, by omega, rfl, by rw [List.drop_zero, HR.out]; rfl⟩
  case round =>
    obtain ⟨q, hq9, hql, rfl, hv⟩ := hrel
    have HV := Lib.hid hv; clear hv
    rw [HL.out] at hql
    have k0 : (q : Int) + 1 ≤ 10 := by omega
    by_cases hsh : q = s.size
    · have k1 : (s.size : Int) < (q : Int) + 1 := by omega
      have HRR : Hid (R = .short) := Lib.hid (by rw [← HV.out, List.drop_of_length_le (by rw [HL.out]; omega)]; rfl)
      clear hsh
      go_wp2_with fail
      go_ret3
      exact ⟨rfl, by rw [HRR.out]; rfl⟩
    · have k1 : ¬ (s.size : Int) < (q : Int) + 1 := by omega
      have hlt : q < s.size := by omega
      have hgq := HG.out q hlt
      have hx := HNX.out q (by rw [HL.out]; exact hlt) (HS.out q)
      rw [HV.out, hgq] at hx
      have HX := Lib.hid hx; clear hx hgq hsh
      have hb8 := s[q].toNat_lt
      have k2 : (0 : Int) ≤ (q : Int) + 1 - 1 := by omega
      have k3 : (q : Int) + 1 - 1 < (s.size : Int) := by omega
      obtain ⟨F, hF⟩ : ∃ F : Bool, F = decide ((q = 9 ∧ 1 < s[q].toNat) ∨ (0 < q ∧ s[q].toNat = 0)) := ⟨_, rfl⟩
      have HF := Lib.hid hF; clear hF
      have HBG : Hid (F = false → ¬ (q = 9 ∧ 1 < (natsOf s).getD q 0)) := Lib.hid (fun h => by rw [HG.out q hlt]; have := HF.out; rw [h] at this; have := of_decide_eq_false this.symm; omega)
      go_upto_region 6 with fail
      go_cut [33] (fun bv wx => bv = .bool F ∧ w = wx)
      case first =>
        by_cases h9 : q = 9
        · subst h9
          by_cases hbig : 1 < s[9].toNat
          · have k4 : (1 : Int) < (s[9].toNat : Int) := by omega
            have HFT : Hid (F = true) := Lib.hid (by rw [HF.out]; exact decide_eq_true (.inl ⟨rfl, hbig⟩))
            go_wp2_with fail
            go_meet
            exact ⟨by rw [HFT.out], rfl⟩
          · have k4 : ¬ (1 : Int) < (s[9].toNat : Int) := by omega
            by_cases hz : s[9].toNat = 0
            · have k5 : ((s[9].toNat : Int) == 0) = true := beq_iff_eq.2 (by omega)
              have HFT : Hid (F = true) := Lib.hid (by rw [HF.out]; exact decide_eq_true (.inr ⟨by omega, hz⟩))
              go_wp2_with fail
              go_meet
              exact ⟨by rw [HFT.out], rfl⟩
            · have k5 : ((s[9].toNat : Int) == 0) = false := beq_eq_false_iff_ne.2 (by omega)
              have HFT : Hid (F = false) := Lib.hid (by rw [HF.out]; exact decide_eq_false (by omega))
              go_wp2_with fail
              go_meet
              exact ⟨by rw [HFT.out]; exact congrArg Value.bool (decide_eq_false (by omega)), rfl⟩
        · have k4 : (((q : Int) + 1) == 10) = false := beq_eq_false_iff_ne.2 (by omega)
          by_cases hq0 : q = 0
          · subst hq0
            have HFT : Hid (F = false) := Lib.hid (by rw [HF.out]; exact decide_eq_false (by omega))
            go_wp2_with fail
            go_meet
            exact ⟨by rw [HFT.out], rfl⟩
          · have k6 : (1 : Int) < (q : Int) + 1 := by omega
            by_cases hz : s[q].toNat = 0
            · have k5 : ((s[q].toNat : Int) == 0) = true := beq_iff_eq.2 (by omega)
              have HFT : Hid (F = true) := Lib.hid (by rw [HF.out]; exact decide_eq_true (.inr ⟨by omega, hz⟩))
              go_wp2_with fail
              go_meet
              exact ⟨by rw [HFT.out], rfl⟩
            · have k5 : ((s[q].toNat : Int) == 0) = false := beq_eq_false_iff_ne.2 (by omega)
              have HFT : Hid (F = false) := Lib.hid (by rw [HF.out]; exact decide_eq_false (by omega))
              go_wp2_with fail
              go_meet
              exact ⟨by rw [HFT.out], rfl⟩
      case rest =>
        obtain ⟨rfl, rfl⟩ := hcut
        cases F with
        | true =>
          have HRR : Hid (R = .form) := Lib.hid (by rw [HX.out, if_pos (of_decide_eq_true HF.out.symm)])
          go_wp2_with fail
          go_ret3
          exact ⟨rfl, by rw [HRR.out]; rfl⟩
        | false =>
          have HCN : Hid (¬ (q = 9 ∧ 1 < s[q].toNat ∨ 0 < q ∧ s[q].toNat = 0)) := Lib.hid (of_decide_eq_false HF.out.symm)
          by_cases hlo : s[q].toNat < 128
          · have k7 : ¬ (128 : Int) ≤ (s[q].toNat : Int) := by omega
            have HRR : Hid (R = .ok (vsum (natsOf s) (q + 1)) (q + 1)) := Lib.hid (by rw [HX.out, if_neg HCN.out, if_pos hlo])
            have HT : Hid (vsum (natsOf s) (q + 1) < 18446744073709551616) := Lib.hid (vsum_fits hq9 (HBG.out rfl))
            clear HX
            generalize hT : vsum (natsOf s) (q + 1) = T at *
            have HTE := Lib.hid hT; clear hT
            go_wp2_with fail
            go_loop [6, 7] (fun vv iv => HRel (natsOf s) T (q + 1) vv iv) (fun _ iv => (intOf iv + 1).toNat)
            case atStart => exact ⟨q + 1, 0, Nat.le_refl _, int_eq (by omega), rfl, by rw [HTE.out, Nat.mul_zero]; rfl⟩
            case round =>
              obtain ⟨p, v, hp, rfl, rfl, hTv⟩ := hrel
              have HTV := Lib.hid hTv; clear hTv
              cases p with
              | zero =>
                have k5 : ¬ (0 : Int) ≤ ((0 : Nat) : Int) - 1 := by omega
                have HV2 : Hid (T = v) := Lib.hid (by rw [HTV.out]; simp [vsum])
                go_wp2_with fail
                go_ret3
                exact ⟨rfl, by rw [HRR.out, HV2.out]; rfl⟩
              | succ p =>
                have hps : p < s.size := by omega
                have e1 : (((p + 1 : Nat) : Int) - 1) = (p : Int) := by omega
                rw [e1]
                have hgp := HG.out p hps
                have hst : T = vsum (natsOf s) p + 128 ^ p * (v * 128 + s[p].toNat % 128) := by
                  rw [HTV.out, vsum, ← pow_step, hgp]; omega
                have hvl := fits_mul hst HT.out
                have HST := Lib.hid hst; clear hst hgp e1
                have k5 : (0 : Int) ≤ (p : Int) := by omega
                have k6 : (p : Int) < (s.size : Int) := by omega
                have hpb := s[p].toNat_lt
                have hw1 : IntKind.u64.wrap ((v : Int) * 128) = (v : Int) * 128 := by rw [IntKind.wrap_u64]; omega
                have hw2 : IntKind.u64.wrap ((s[p].toNat : Int) % 128) = (s[p].toNat : Int) % 128 := by rw [IntKind.wrap_u64]; omega
                have hw3 : IntKind.u64.wrap ((v : Int) * 128 + (s[p].toNat : Int) % 128) = ((v * 128 + s[p].toNat % 128 : Nat) : Int) := by rw [IntKind.wrap_u64]; omega
                go_wp2_with fail
                go_round
                case rel => exact ⟨p, v * 128 + s[p].toNat % 128, by omega, int_eq (by omega), rfl, HST.out⟩
                case measure => simp [intOf]
          · have k7 : (128 : Int) ≤ (s[q].toNat : Int) := by omega
            have HRR : Hid (vr (q + 1) (vsum (natsOf s) (q + 1)) ((natsOf s).drop (q + 1)) = R) := Lib.hid (by rw [HX.out, if_neg HCN.out, if_neg hlo])
            have hq8 : q < 9 := by
              have := HCN.out
              omega
            go_wp2_with fail
            go_round
            case rel => exact ⟨q + 1, by omega, by rw [HL.out]; omega, int_eq (by omega), HRR.out⟩
            case measure => simp [intOf]; omega
end Go.Proofs.YtckjmabacibojaaDoor.Ref
namespace Go.Proofs.YtckjmabacibojaaDoor.Ref
open Go.ChangeShapes Go.WideShapes Go.ChangeAt Go.RowKit
open Go.Proofs.YtckjmabacibojaaDoor.Wire
set_option linter.unusedVariables false

def NOut (w : World) (s : ByteArray) (i most : Nat) (R : VR) (e : Ending) (w' : World) : Prop :=
  Ext w w' ∧ match R with
  | .short => e = .returned (.tuple #[.int .u64 0, RV s i 3])
  | .form => e = .returned (.tuple #[.int .u64 0, RV s i 4])
  | .ok v k => if v ≤ most then e = .returned (.tuple #[.int .u64 (v : Int), RV (s.extract k s.size) (i + k) 0]) else e = .returned (.tuple #[.int .u64 0, RV s i 4])
set_option maxHeartbeats 8000000 in
set_option maxRecDepth 100000 in
theorem rnum (s : ByteArray) (i most : Nat) (w : World) (hs : s.size ≤ 1000000) (hi : i ≤ 1000000) : Calls Tryd.prog 24 #[RV s i 0, .int .u64 (most : Int)] w (NOut w s i most (vr 0 0 (natsOf s))) := by
  have HC := Lib.hid (fun W => varint s W (by omega))
  have HK := Lib.hid (fun v k (h : vr 0 0 (natsOf s) = .ok v k) => (vr_ok (mem_small (natsOf_small s)) h))
  have HL := Lib.hid (natsOf_len s)
  generalize vr 0 0 (natsOf s) = R at *
  go_enter Tryd.func24, Tryd.ntmps24
  go_wp2_with fail
  refine (HC.out _).mono ?_
  rintro e w1 ⟨rfl, hR⟩
  cases R with
  | short =>
    obtain rfl := hR
    go_wp2_with fail
    refine (fails s i 0 3 _).mono ?_
    rintro e w1 ⟨rfl, b1⟩
    obtain ⟨hc, hf⟩ := ecell b1
    have hz := b1.size
    simp at hz
    have h1 : w.heap.size + 1 < w1.heap.size := by omega
    go_wp2_with fail
    exact bodyPost_ret (v := .tuple #[.int .u64 0, RV s i 3]) (by simp [results, Tryd.results24, go_sem, hc]) rfl ⟨ext_set3 (ext_trans (ext_alloc (ext_alloc (Ext.rfl' w) _) _) b1) (by omega) _ _ _, rfl⟩
  | form =>
    obtain rfl := hR
    go_wp2_with fail
    refine (fails s i 0 4 _).mono ?_
    rintro e w1 ⟨rfl, b1⟩
    obtain ⟨hc, hf⟩ := ecell b1
    have hz := b1.size
    simp at hz
    have h1 : w.heap.size + 1 < w1.heap.size := by omega
    go_wp2_with fail
    exact bodyPost_ret (v := .tuple #[.int .u64 0, RV s i 4]) (by simp [results, Tryd.results24, go_sem, hc]) rfl ⟨ext_set3 (ext_trans (ext_alloc (ext_alloc (Ext.rfl' w) _) _) b1) (by omega) _ _ _, rfl⟩
  | ok v k =>
    obtain rfl := hR
    obtain ⟨-, -, -, hk2⟩ := HK.out v k rfl
    rw [HL.out] at hk2
    by_cases hm : v ≤ most
    · have hm1 : ¬ (most : Int) < (v : Int) := by omega
      have HM := Lib.hid hm
      go_wp2_with fail
      refine (skip s i k 0 _ hk2 (by omega) (by omega)).mono ?_
      rintro e w1 ⟨rfl, b1⟩
      obtain ⟨hc, hf⟩ := ecell b1
      have hz := b1.size
      simp at hz
      have h1 : w.heap.size + 1 < w1.heap.size := by omega
      go_wp2_with fail
      exact bodyPost_ret (v := .tuple #[.int .u64 (v : Int), RV (s.extract k s.size) (i + k) 0]) (by simp [results, Tryd.results24, go_sem, hc]) rfl ⟨ext_set3 (ext_trans (ext_alloc (ext_alloc (Ext.rfl' w) _) _) b1) (by omega) _ _ _, by simp only [if_pos HM.out]⟩
    · have hm1 : (most : Int) < (v : Int) := by omega
      have HM := Lib.hid hm
      go_wp2_with fail
      refine (fails s i 0 4 _).mono ?_
      rintro e w1 ⟨rfl, b1⟩
      obtain ⟨hc, hf⟩ := ecell b1
      have hz := b1.size
      simp at hz
      have h1 : w.heap.size + 1 < w1.heap.size := by omega
      go_wp2_with fail
      exact bodyPost_ret (v := .tuple #[.int .u64 0, RV s i 4]) (by simp [results, Tryd.results24, go_sem, hc]) rfl ⟨ext_set3 (ext_trans (ext_alloc (ext_alloc (Ext.rfl' w) _) _) b1) (by omega) _ _ _, by simp only [if_neg HM.out]⟩
end Go.Proofs.YtckjmabacibojaaDoor.Ref
namespace Go.Proofs.YtckjmabacibojaaDoor.Ref
open Go.ChangeShapes Go.WideShapes Go.ChangeAt Go.RowKit
open Go.Proofs.YtckjmabacibojaaDoor.Wire
set_option linter.unusedVariables false

set_option maxHeartbeats 4000000 in
set_option maxRecDepth 100000 in
theorem bytes_had (s : ByteArray) (i : Nat) (n e0 : Int) (w : World) (he : (e0 == 0) = false) :
    Calls Tryd.prog 23 #[RV s i e0, .int .i64 n] w fun e w' => e = .returned (.tuple #[.string ⟨#[]⟩, RV s i e0]) ∧ Ext w w' := by
  go_enter Tryd.func23, Tryd.ntmps23
  go_wp2_with fail
  refine wp_still_tail 2 (by kernel_rfl) (by kernel_rfl) ?_
  simp only [List.take_succ_cons, List.take_zero, List.drop_succ_cons, List.drop_zero]
  repeat still_step
  refine wpStill_nil ?_
  go_wp2_with fail
  exact bodyPost_ret (v := .tuple #[.string ⟨#[]⟩, RV s i e0]) (by simp [results, Tryd.results23, go_sem]) rfl ⟨rfl, ext_drew (ext_alloc (ext_alloc (Ext.rfl' w) _) _)⟩
set_option maxHeartbeats 4000000 in
set_option maxRecDepth 100000 in
theorem num_had (s : ByteArray) (i most : Nat) (e0 : Int) (w : World) (he : (e0 == 0) = false) :
    Calls Tryd.prog 24 #[RV s i e0, .int .u64 (most : Int)] w fun e w' => e = .returned (.tuple #[.int .u64 0, RV s i e0]) ∧ Ext w w' := by
  go_enter Tryd.func24, Tryd.ntmps24
  go_wp2_with fail
  refine wp_still_tail 2 (by kernel_rfl) (by kernel_rfl) ?_
  simp only [List.take_succ_cons, List.take_zero, List.drop_succ_cons, List.drop_zero]
  repeat still_step
  refine wpStill_nil ?_
  go_wp2_with fail
  exact bodyPost_ret (v := .tuple #[.int .u64 0, RV s i e0]) (by simp [results, Tryd.results24, go_sem]) rfl ⟨rfl, ext_drew (ext_alloc (ext_alloc (Ext.rfl' w) _) _)⟩
/-- Bytes, and a number, of a reader that may have failed. -/
def bT (s : ByteArray) (i n : Nat) (e : Int) : ByteArray × ByteArray × Nat × Int :=
  if e ≠ 0 then (⟨#[]⟩, s, i, e) else if s.size < n then (⟨#[]⟩, s, i, 3) else (s.extract 0 n, s.extract n s.size, i + n, 0)
def nT (s : ByteArray) (i : Nat) (e : Int) : Nat × ByteArray × Nat × Int :=
  if e ≠ 0 then (0, s, i, e) else match lim (vr 0 0 (natsOf s)) with
    | .short => (0, s, i, 3)
    | .form => (0, s, i, 4)
    | .ok v k => (v, s.extract k s.size, i + k, 0)
theorem bytesT (s : ByteArray) (i n : Nat) (e : Int) (w : World) (hs : s.size ≤ 1000000) (hi : i ≤ 1000000) :
    Calls Tryd.prog 23 #[RV s i e, .int .i64 (n : Int)] w fun e' w' => e' = .returned (.tuple #[.string (bT s i n e).1, RV (bT s i n e).2.1 (bT s i n e).2.2.1 (bT s i n e).2.2.2]) ∧ Ext w w' := by
  by_cases he : e = 0
  · subst he
    by_cases hl : s.size < n
    · have h1 : bT s i n 0 = (⟨#[]⟩, s, i, 3) := by simp [bT, hl]
      rw [h1]
      exact bytes_short s i n w hl
    · have h1 : bT s i n 0 = (s.extract 0 n, s.extract n s.size, i + n, 0) := by simp [bT, hl]
      rw [h1]
      exact bytes_ok s i n w (by omega) (by omega) (by omega)
  · have h1 : bT s i n e = (⟨#[]⟩, s, i, e) := by simp [bT, he]
    rw [h1]
    exact bytes_had s i n e w (beq_eq_false_iff_ne.2 he)
theorem numT (s : ByteArray) (i : Nat) (e : Int) (w : World) (hs : s.size ≤ 1000000) (hi : i ≤ 1000000) :
    Calls Tryd.prog 24 #[RV s i e, .int .u64 2147483647] w fun e' w' => e' = .returned (.tuple #[.int .u64 ((nT s i e).1 : Int), RV (nT s i e).2.1 (nT s i e).2.2.1 (nT s i e).2.2.2]) ∧ Ext w w' := by
  by_cases he : e = 0
  · subst he
    refine (rnum s i 2147483647 w hs hi).mono ?_
    rintro e' w' ⟨hE, hm⟩
    refine ⟨?_, hE⟩
    cases hv : vr 0 0 (natsOf s) with
    | short => rw [hv] at hm; rw [hm]; simp [nT, hv, lim]
    | form => rw [hv] at hm; rw [hm]; simp [nT, hv, lim]
    | ok v k =>
      rw [hv] at hm
      by_cases hb : v ≤ 2147483647
      · simp only [if_pos hb] at hm
        rw [hm]; simp [nT, hv, lim, hb]
      · simp only [if_neg hb] at hm
        rw [hm]; simp [nT, hv, lim, hb]
  · have h1 : nT s i e = (0, s, i, e) := by simp [nT, he]
    rw [h1]
    exact num_had s i 2147483647 e w (beq_eq_false_iff_ne.2 he)
end Go.Proofs.YtckjmabacibojaaDoor.Ref
