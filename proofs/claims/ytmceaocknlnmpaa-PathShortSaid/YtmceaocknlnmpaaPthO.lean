/- Path: search.reach. -/
import Derived.Test.YtmceaocknlnmpaaPthN
import Derived.Deep.RegionHeld3
import Derived.Deep.Cut
namespace Go.Proofs.Ytmceaocknlnmpaa.Pth
open Go.ChangeShapes Go.WideShapes Go.ChangeAt Go.RowKit
open Go.Proofs.Ytmceaocknlnmpaa.Rec Go.Proofs.Ytmceaocknlnmpaa.Grid
set_option linter.unusedVariables false
theorem far_small {W a b : Nat} (hW : 0 < W) : far W a b ≤ 2 * W + a + b := by
  unfold far
  have e1 : a / W ≤ a := Nat.div_le_self _ _
  have e2 : b / W ≤ b := Nat.div_le_self _ _
  have e3 : a % W < W := Nat.mod_lt _ hW
  have e4 : b % W < W := Nat.mod_lt _ hW
  generalize a / W = p at *
  generalize b / W = q at *
  generalize a % W = r at *
  generalize b % W = s at *
  omega
theorem se_cells {B M W H : Nat} {T : ByteArray} {bu v : Value} {tv near : Int} {w : World} (h : Blk w B 48 (sM W H T bu (.map (some M)) v tv near)) :
    w.cell? ⟨B, 0, none⟩ = some (.int .i64 (W : Int)) ∧ w.cell? ⟨B, 1, none⟩ = some (.int .i64 (H : Int)) ∧ w.cell? ⟨B, 2, none⟩ = some (.string T) ∧ w.cell? ⟨B, 4, none⟩ = some (.int .i64 tv) ∧ w.cell? ⟨B, 5, none⟩ = some (.int .i64 near) :=
  ⟨h.cell 0, h.cell 1, h.cell 2, h.cell 4, h.cell 5⟩
theorem zCome (w : World) : (zeroValue 65).run Try.prog w = .ok (.agg #[.int .i64 0, .int .i64 0]) w := by kernel_rfl
theorem skip_known {C : Co} {free : Nat → Bool} {x g : Nat} {a : Nat × Nat} (h : C x = some a) (hg : a.2 ≤ g) : skip C free x g := .inl ⟨a, h, hg⟩
theorem co_cases (C : Co) (x : Nat) : ∃ (a g : Nat) (kn : Bool), (cF C (x : Int)).getD (.agg #[.int .i64 0, .int .i64 0]) = .agg #[.int .i64 (a : Int), .int .i64 (g : Int)] ∧ (cF C (x : Int)).isSome = kn ∧ (kn = true → C x = some (a, g)) ∧ (kn = false → C x = none) := by
  rw [cF_at]
  cases h : C x with
  | none => exact ⟨0, 0, false, rfl, rfl, fun h => (by cases h), fun _ => rfl⟩
  | some p => obtain ⟨a, g⟩ := p; exact ⟨a, g, true, rfl, rfl, fun _ => rfl, fun h => (by cases h)⟩
set_option maxHeartbeats 4000000 in
set_option maxRecDepth 100000 in
theorem reach_st (base B M W H x fr g tt nr : Nat) (T : ByteArray) (bu v : Value) (bz : Nat → Bool) (C : Co) (q : List Nd) (w0 w : World) (h : Se base B M W H T bu (tt : Int) (nr : Int) C q v w) (hbu : Busy bu bz w0) (he : Ext w0 w)
    (hW : 4 ≤ W) (hW2 : W ≤ 64) (hs : T.size ≤ 5000 - 1) (hx : x < T.size) (ht : tt < T.size) (hnr : (nr : Int) ≤ 9223372036854775807) (hg : g ≤ 1000) (hfr : fr ≤ 5000) (hn : q.length < 100000) (hS : Sm (q ++ [(x, g, hh W tt nr x)])) :
    Calls Try.prog 17 #[.pointer (some ⟨B, 0, none⟩), .int .i64 (x : Int), .int .i64 (fr : Int), .int .i64 (g : Int)] w fun e w' => e = .returned (.tuple #[]) ∧ ∃ C' q' v', Se base B M W H T bu (tt : Int) (nr : Int) C' q' v' w' ∧ SR w w' B M v v' ∧ Rch C q (sfree T bz) (hh W tt nr) x fr g C' q' := by
  have HS0 := Lib.hid h
  have HBU := Lib.hid hbu; have HE0 := Lib.hid he
  obtain ⟨a, gw, kn, hv, hk, hk1, hk0⟩ := co_cases C x
  have HV := Lib.hid hv; have HK := Lib.hid hk
  have hk1 := Lib.hid hk1; have hk0 := Lib.hid hk0
  have HMAP := Lib.hid h.map
  have b7 : w.cell? ⟨B, 7, none⟩ = some (.map (some M)) := h.blk.cell 7
  clear h hbu he hv hk
  go_enter Try.func17, Try.ntmps17
  go_upto_region 1 with (refine Map64.wpList_look2 rfl (.tmp 14) (.tmp 15) rfl Try.underlying44 Try.underlying3 (zCome _) rfl HMAP.out x rfl (.agg #[.int .i64 (a : Int), .int .i64 (gw : Int)]) kn HV.out HK.out ?_)
  go_cut [25] (fun s25 wx => s25 = .bool (kn && decide (gw ≤ g)) ∧ Ext w wx)
  case first =>
    have hgg : (gw : Int) ≤ (g : Int) ↔ gw ≤ g := Int.ofNat_le
    cases kn
    · go_wp2_with fail
      go_meet
      exact ⟨rfl, ext_alloc (Ext.rfl' _) _⟩
    · by_cases hc : gw ≤ g
      · have hc' := hgg.2 hc
        go_wp2_with fail
        go_meet
        exact ⟨by simp [hc], ext_alloc (Ext.rfl' _) _⟩
      · have hc' := fun h => hc (hgg.1 h)
        go_wp2_with fail
        go_meet
        exact ⟨by simp [hc], ext_alloc (Ext.rfl' _) _⟩
  case rest =>
    obtain ⟨rfl, ex⟩ := hcut
    have HS1 := Lib.hid (HS0.out.ext ex)
    have HE1 := Lib.hid ex
    have HEE := Lib.hid (ext_trans HE0.out ex)
    clear ex b7 HMAP
    obtain ⟨kz, hkz⟩ : ∃ kz, kz = (kn && decide (gw ≤ g)) := ⟨_, rfl⟩
    rw [← hkz]
    replace hkz := Lib.hid hkz
    cases kz with
    | true =>
      have HSK : Hid (skip C (sfree T bz) x g) := Lib.hid (by
        have := hkz.out.symm
        rw [Bool.and_eq_true, decide_eq_true_eq] at this
        exact skip_known (hk1.out this.1) this.2)
      go_wp2_with fail
      refine bodyPost_ret (results_none rfl _ _ _) rfl ?_
      exact ⟨rfl, C, q, v, HS1.out, SR.ext HE1.out B M v, .inl ⟨HSK.out, rfl, rfl⟩⟩
    | false =>
      have HSK : Hid (∀ a', C x = some a' → ¬ a'.2 ≤ g) := Lib.hid (fun a' ha hle => by
        cases kn with
        | false => rw [hk0.out rfl] at ha; cases ha
        | true =>
          have e := hk1.out rfl
          rw [e] at ha
          obtain rfl := Option.some.inj ha
          have := hkz.out
          simp at this
          omega)
      clear hk1 hk0 HV HK hkz
      go_upto_region 2 with fail
      have HFR := Lib.hid (free_st B W H x tt nr T bu _ v bz w0 wc HS1.out.blk HBU.out HEE.out hW hs hx)
      go_cut [33] (fun s33 wx => s33 = .bool (decide (0 < g) && !sfree T bz x) ∧ Ext w wx)
      case first =>
        obtain ⟨fz, hfz⟩ : ∃ fz, fz = sfree T bz x := ⟨_, rfl⟩
        rw [← hfz] at HFR
        replace hfz := Lib.hid hfz
        by_cases hg0 : 0 < g
        · have hg1 : (0 : Int) < (g : Int) := by omega
          go_wp2_with fail
          refine HFR.out.mono ?_
          rintro e w2 ⟨rfl, b2⟩
          have HE2 := Lib.hid (ext_trans HE1.out b2)
          clear b2
          cases fz <;> (go_wp2_with fail; go_meet; exact ⟨by rw [← hfz.out]; simp [hg0], HE2.out⟩)
        · have hg1 : ¬ (0 : Int) < (g : Int) := by omega
          go_wp2_with fail
          go_meet
          exact ⟨by simp [hg0], HE1.out⟩
      case rest =>
        obtain ⟨rfl, ex⟩ := hcut
        have HS2 := Lib.hid (HS0.out.ext ex)
        have HE2 := Lib.hid ex
        clear ex HFR HE1 HS1 HEE
        obtain ⟨nf, hnf⟩ : ∃ nf, nf = (decide (0 < g) && !sfree T bz x) := ⟨_, rfl⟩
        rw [← hnf]
        replace hnf := Lib.hid hnf
        cases nf with
        | true =>
          have HSK2 : Hid (skip C (sfree T bz) x g) := Lib.hid (by
            have := hnf.out.symm
            rw [Bool.and_eq_true, decide_eq_true_eq, Bool.not_eq_true'] at this
            exact .inr this)
          go_wp2_with fail
          refine bodyPost_ret (results_none rfl _ _ _) rfl ?_
          exact ⟨rfl, C, q, v, HS2.out, SR.ext HE2.out B M v, .inl ⟨HSK2.out, rfl, rfl⟩⟩
        | false =>
          have HNS : Hid (¬ skip C (sfree T bz) x g) := Lib.hid (by
            rintro (⟨a', h1, h2⟩ | ⟨h1, h2⟩)
            · exact HSK.out a' h1 h2
            · have := hnf.out
              rw [h2, decide_eq_true h1] at this
              cases this)
          clear HSK hnf
          have b7 : wc.cell? ⟨B, 7, none⟩ = some (.map (some M)) := HS2.out.blk.cell 7
          have HMAP := Lib.hid HS2.out.map
          go_upto_region 4 with (refine Map64.wpList_put rfl (.tmp 37) (.tmp 38) (.tmp 41) rfl Try.underlying44 Try.underlying3 rfl HMAP.out x (cV (fr, g)) rfl rfl ?_; intro we hM9 hg9; have HM9 := Lib.hid hM9; have HG9 := Lib.hid hg9; clear hM9 hg9)
          clear b7 HMAP
          have HS3 : Hid (Se base B M W H T bu (tt : Int) (nr : Int) (cput C x (fr, g)) q v we) := Lib.hid (HS2.out.put (by have := HM9.out; rw [cF_put] at this; exact this) HG9.out)
          have HR3 : Hid (SR w we B M v v) := Lib.hid ((SR.ext HE2.out B M v).trans (SR.put HG9.out B v))
          clear HS2 HM9 HG9 HE2
          have HFAR : Hid (∀ W', Calls Try.prog 13 #[.agg #[.int .i64 (W : Int), .int .i64 (H : Int), .string T], .int .i64 (x : Int), .int .i64 (tt : Int)] W' fun e w' => e = .returned (.int .i64 (far W x tt : Nat)) ∧ Ext W' w') := Lib.hid fun W' => far_yes W H x tt T W' hW hW2 (by omega) hx ht
          obtain ⟨fv, hfv⟩ : ∃ fv, fv = far W x tt := ⟨_, rfl⟩
          rw [← hfv] at HFAR
          have HHV : Hid (hh W tt nr x = fv - nr) := Lib.hid (by rw [hfv]; rfl)
          have hfl : fv ≤ 20000 := by
            rw [hfv]; exact Nat.le_trans (far_small (by omega)) (by omega)
          clear hfv
          obtain ⟨hv, hhv⟩ : ∃ hv, hv = fv - nr := ⟨_, rfl⟩
          rw [HHV.out, ← hhv] at hS
          have HHV2 : Hid (hh W tt nr x = hv) := Lib.hid (by rw [HHV.out, hhv])
          have y1 : IntKind.i64.wrap ((fv : Int) - (nr : Int)) = (fv : Int) - (nr : Int) := IntWalk.i64_in _ (by omega)
          have y2 : (if nr < fv then (fv : Int) - (nr : Int) else 0) = (hv : Int) := by split <;> omega
          have b0 : we.cell? ⟨B, 0, none⟩ = some (.int .i64 (W : Int)) := HS3.out.blk.cell 0
          have b1 : we.cell? ⟨B, 1, none⟩ = some (.int .i64 (H : Int)) := HS3.out.blk.cell 1
          have b2 : we.cell? ⟨B, 2, none⟩ = some (.string T) := HS3.out.blk.cell 2
          have b4 : we.cell? ⟨B, 4, none⟩ = some (.int .i64 (tt : Int)) := HS3.out.blk.cell 4
          have b5 : we.cell? ⟨B, 5, none⟩ = some (.int .i64 (nr : Int)) := HS3.out.blk.cell 5
          clear HHV
          replace hhv := Lib.hid hhv
          go_region_held3 (fun w' => w'.cell? ⟨B, 0, none⟩ = some (.int .i64 (W : Int)) ∧ w'.cell? ⟨B, 1, none⟩ = some (.int .i64 (H : Int)) ∧ w'.cell? ⟨B, 2, none⟩ = some (.string T) ∧ w'.cell? ⟨B, 4, none⟩ = some (.int .i64 (tt : Int)) ∧ w'.cell? ⟨B, 5, none⟩ = some (.int .i64 (nr : Int)))
            (first | assumption | exact ⟨b0, b1, b2, b4, b5⟩ | exact se_cells HS4.out.blk | exact se_cells hq5.1)
            (first | (go_at_call 13; ((with_reducible refine (HFAR.out _).mono ?_); rintro e w4 ⟨rfl, b4'⟩; go_split_ands; have HE4 := Lib.hid b4'; have HS4 := Lib.hid (HS3.out.ext (by first | exact b4' | exact ext_trans (ext_drew (Ext.rfl' we)) b4')); have HPU := Lib.hid (hpush_st base B _ _ _ _ _ _ _ v q x g hv _ HS4.out.hq HS4.out.base hn hS HS4.out.heap))) | (go_at_call 29; ((with_reducible refine HPU.out.mono ?_); rintro e w5 ⟨rfl, v5, q5, hq5, hp5, hh5, hs5⟩)))
          have HFIN : Hid (∃ C' q' v', Se base B M W H T bu (tt : Int) (nr : Int) C' q' v' w5 ∧ SR w w5 B M v v' ∧ Rch C q (sfree T bz) (hh W tt nr) x fr g C' q') :=
            Lib.hid ⟨_, q5, v5, HS4.out.turn hq5 hh5 hs5, (HR3.out.trans (SR.ext (ext_trans (ext_drew (Ext.rfl' we)) HE4.out) B M v)).trans (SR.hs hs5 M), .inr ⟨HNS.out, rfl, by rw [HHV2.out]; exact hp5⟩⟩
          clear hq5 hp5 hh5 hs5
          go_end0
          exact ⟨rfl, HFIN.out⟩
end Go.Proofs.Ytmceaocknlnmpaa.Pth
