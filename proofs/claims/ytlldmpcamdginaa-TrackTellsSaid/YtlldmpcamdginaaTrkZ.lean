/- Tracks: the document's May, walked. -/
import Derived.Test.YtlldmpcamdginaaTrkS
import Derived.OrdersHeld
import Derived.Deep.RegionHeld
import Derived.Deep.DeepCutAuto
namespace Go.Proofs.Ytlldmpcamdginaa.Trk
open Go.ChangeShapes Go.WideShapes Go.ChangeAt Go.RowKit
open Go.Proofs.Ytlldmpcamdginaa.Rec
open Go.Proofs.Ytlldmpcamdginaa.Log (hmxL)
set_option linter.unusedVariables false
theorem cams_drop (x : Tk) (p : Nat) (hp : p < 4) : x.cams.drop p = x.cam p :: x.cams.drop (p + 1) := by
  rcases lt5 (show p < 5 by omega) with rfl | rfl | rfl | rfl | rfl <;> first | (exfalso; omega) | rfl
set_option maxHeartbeats 16000000 in
set_option maxRecDepth 100000 in
theorem rmay_tr (t : Tv) (x : Tk) (n : Int) (w : World) (hB : RfV w t x) (hn1 : -9223372036854775808 ≤ n) (hn2 : n ≤ 9223372036854775807) :
    Calls Try.prog 18 #[.agg t.cells, .int .i64 n] w fun e w' => e = .returned (.bool (mayT n x)) ∧ Ext w w' := by
  generalize hR : mayT n x = R
  replace hR := Lib.hid hR
  have HE0 := Lib.hid (ext_alloc (Ext.rfl' w) (.cells t.cells 47))
  have HH0 := Lib.hid (Blk.new w 47 t.cells)
  have HB := Lib.hid (hB.ext HE0.out)
  have HSL := Lib.hid (sl_get t)
  have HLM := Lib.hid hB.2.2.2.2.1.1
  have hcm := hB.2.2.2.2.2.2.1
  have hnc := hB.2.2.2.2.2.1
  clear hB
  obtain ⟨tc, htc⟩ : ∃ q, q = t.cells := ⟨_, rfl⟩
  rw [← htc] at HE0 HH0 HSL HB ⊢
  clear htc
  obtain ⟨nm, hnm⟩ : ∃ q, q = t.sm.n := ⟨_, rfl⟩
  rw [← hnm] at HLM hnc
  have HNM := Lib.hid hnm
  have hm9 : nm ≤ 9223372036854775807 := by omega
  clear hnm hnc hcm
  go_enter Try.func18, Try.ntmps18
  go_upto_region 1 with fail
  obtain ⟨w0, hw0⟩ : ∃ q, q = w.alloc (.cells tc 47) := ⟨_, rfl⟩
  obtain ⟨hb, hhb⟩ : ∃ q, q = w.heap.size := ⟨_, rfl⟩
  rw [← hw0] at HE0 HH0 HB ⊢
  rw [← hhb] at HH0 ⊢
  clear hw0 hhb
  have HM4 : Hid (∀ W, Ext w0 W → W.cell? ⟨hb, 4, none⟩ = some (.slice t.sm.A nm t.sm.c)) := Lib.hid (fun W e => kc e ((HH0.out.cell 4).trans (by rw [HSL.out 4 (by omega), HNM.out]; rfl)))
  have h4 := HM4.out w0 (Ext.rfl' _)
  by_cases hn : 0 ≤ n ∧ n ≤ 4096
  rotate_left
  · have HRF : Hid (R = false) := Lib.hid (by rw [← hR.out, mayT, decide_eq_false hn, Bool.false_and])
    by_cases h0 : n < 0
    · go_wp2_with fail
      go_ret
      exact ⟨by rw [HRF.out]; rfl, HE0.out⟩
    · have h0' : (4096 : Int) < n := by omega
      go_wp2_with fail
      go_ret
      exact ⟨by rw [HRF.out]; rfl, HE0.out⟩
  by_cases hm : nm ≤ 32
  rotate_left
  · have HRF : Hid (R = false) := Lib.hid (by rw [← hR.out, mayT, HLM.out, decide_eq_false hm, Bool.false_and, Bool.and_false])
    have hm' : (32 : Int) < (nm : Int) := by omega
    obtain ⟨q1, q2⟩ := hn
    go_wp2_with fail
    go_ret
    exact ⟨by rw [HRF.out]; rfl, HE0.out⟩
  have hm' : (nm : Int) ≤ 32 := by omega
  have HRR : Hid (R = ((x.cams.drop 0).all (mayCam n) && mayM n 0 x.marks)) := Lib.hid (by
    rw [← hR.out, mayT, decide_eq_true hn, HLM.out, decide_eq_true hm]; rfl)
  obtain ⟨q1, q2⟩ := hn
  go_wp2_with fail
  clear h4
  go_loopg [5] 4 (fun gh iv wr => ∃ (p : Nat), p + gh = 4 ∧ iv = .int .i64 (p : Int) ∧ Ext w0 wr ∧ R = ((x.cams.drop p).all (mayCam n) && mayM n 0 x.marks))
  case atStart => exact ⟨0, rfl, rfl, Ext.rfl' _, HRR.out⟩
  case round =>
    obtain ⟨p, hp, rfl, hE, hRp⟩ := hrel
    obtain ⟨wi, rfl⟩ : ∃ wi : World, wi = wr := ⟨_, rfl⟩
    obtain ⟨gh, rfl⟩ : ∃ gh : Nat, gh = gk := ⟨_, rfl⟩
    have HE := Lib.hid hE; have HRP := Lib.hid hRp
    clear hE hRp HRR hR
    have y1 : (0 : Int) ≤ (p : Int) := by omega
    by_cases hlt : p < 4
    · have y2 : (p : Int) < 4 := by omega
      have HPT := Lib.hid (HB.out.cam p hlt)
      have hsp := ((HH0.out.ext HE.out).cell p).trans (HSL.out p (by omega))
      obtain ⟨⟨Ad, nl, cd⟩, hsl⟩ : ∃ q, q = t.sl p := ⟨_, rfl⟩
      rw [← hsl] at HPT hsp
      simp only at HPT hsp
      clear hsl
      have HLEN := Lib.hid HPT.out.1.1
      have hl9 : nl ≤ 9223372036854775807 := Nat.le_trans HPT.out.2.1 HPT.out.2.2.1
      by_cases h64 : nl ≤ 64
      rotate_left
      · have h64' : (64 : Int) < (nl : Int) := by omega
        have HRF : Hid (R = false) := Lib.hid (by
          rw [HRP.out, cams_drop x p hlt, List.all_cons, mayCam, HLEN.out, decide_eq_false h64, Bool.and_false, Bool.false_and, Bool.false_and])
        go_wp2_with fail
        go_ret
        exact ⟨by rw [HRF.out]; rfl, ext_trans HE0.out HE.out⟩
      have h64' : (nl : Int) ≤ 64 := by omega
      have HRQ : Hid (R = (mayC n (-1) ((x.cam p).drop 0) && ((x.cams.drop (p + 1)).all (mayCam n) && mayM n 0 x.marks))) := Lib.hid (by
        rw [HRP.out, cams_drop x p hlt, List.all_cons, mayCam, HLEN.out, decide_eq_true h64, Bool.and_true, Bool.and_assoc, List.drop_zero])
      go_wp2_with fail
      clear hsp
      go_loopg [7] nl (fun gi iv wr => ∃ (k : Nat) (last : Int), k + gi = nl ∧ iv = .int .i64 (k : Int) ∧ Ext w0 wr ∧ -1 ≤ last ∧ (k = 0 → last = -1) ∧ (∀ j, k = j + 1 → ∀ hj : j < (x.cam p).length, (x.cam p)[j].tick = last) ∧ R = (mayC n last ((x.cam p).drop k) && ((x.cams.drop (p + 1)).all (mayCam n) && mayM n 0 x.marks)))
      case atStart => exact ⟨0, -1, by omega, rfl, HE.out, by omega, fun _ => rfl, fun j h => by omega, HRQ.out⟩
      case round =>
        clear HE HRQ HRP
        obtain ⟨k, last, hk, rfl, hE, hlg, hl0, hlp, hRk⟩ := hrel
        obtain ⟨wk, rfl⟩ : ∃ wi : World, wi = wr := ⟨_, rfl⟩
        obtain ⟨gi, rfl⟩ : ∃ gh : Nat, gh = gk := ⟨_, rfl⟩
        have HE := Lib.hid hE; have HRK := Lib.hid hRk; have HLG := Lib.hid hlg; have HL0 := Lib.hid hl0; have HLP := Lib.hid hlp
        clear hE hRk hlg hl0 hlp
        have y3 : (0 : Int) ≤ (k : Int) := by omega
        by_cases hki : k < nl
        · have y4 : (k : Int) < (nl : Int) := by omega
          have hke : k < (x.cam p).length := by rw [HLEN.out]; exact hki
          obtain ⟨b, o, rfl, hbw, hc⟩ := HPT.out.1.2 (by omega)
          have HCE : Hid (∀ j (hj : j < (x.cam p).length) i, i < 3 → wk.cell? ⟨b, o + j * 3 + i, none⟩ = (cR (x.cam p)[j])[i]?) := Lib.hid (fun j hj i hi => (HE.out.cell (p := ⟨b, o + j * 3 + i, none⟩) hbw).trans (hc j hj i hi))
          have q := HCE.out k hke
          have HDR : Hid ((x.cam p).drop k = (x.cam p)[k] :: (x.cam p).drop (k + 1)) := Lib.hid (List.drop_eq_getElem_cons hke)
          have HNX : Hid (∀ j, k + 1 = j + 1 → ∀ hj : j < (x.cam p).length, (x.cam p)[j].tick = (x.cam p)[k].tick) := Lib.hid (fun j h hj => by simp only [show j = k by omega])
          obtain ⟨u, hu⟩ : ∃ q, q = (x.cam p)[k] := ⟨_, rfl⟩
          rw [← hu] at q HDR HNX
          clear hu
          obtain ⟨tk, px, py⟩ := u
          have a0 := q 0 (by omega); have a1 := q 1 (by omega); have a2 := q 2 (by omega)
          simp only [cR, Nat.add_zero, List.getElem?_cons_zero, List.getElem?_cons_succ] at a0 a1 a2
          simp only at HNX
          obtain ⟨bb, hbb⟩ : ∃ b, b = decide (okP n last ⟨tk, px, py⟩) := ⟨_, rfl⟩
          have HT : Hid (okP n last ⟨tk, px, py⟩ → bb = true) := Lib.hid (fun h => by rw [hbb]; exact decide_eq_true h)
          have HF : Hid (¬ okP n last ⟨tk, px, py⟩ → bb = false) := Lib.hid (fun h => by rw [hbb]; exact decide_eq_false h)
          have HRN : Hid (R = (bb && (mayC n tk ((x.cam p).drop (k + 1)) && ((x.cams.drop (p + 1)).all (mayCam n) && mayM n 0 x.marks)))) := Lib.hid (by
            rw [HRK.out, HDR.out, mayC, ← hbb, Bool.and_assoc])
          have HTL : Hid (bb = true → -1 ≤ tk) := Lib.hid (fun h => by rw [hbb] at h; have := of_decide_eq_true h; unfold okP at this; simp only at this; have := HLG.out; omega)
          have hl0' := HL0.out; have hlg' := HLG.out
          obtain ⟨b1, hb1⟩ : ∃ c, decide (tk < 0) = c := ⟨_, rfl⟩
          obtain ⟨b2, hb2⟩ : ∃ c, decide (n < tk) = c := ⟨_, rfl⟩
          obtain ⟨c2, hc2⟩ : ∃ c, (b1 || b2) = c := ⟨_, rfl⟩
          obtain ⟨b3, hb3⟩ : ∃ c, decide (px < 0) = c := ⟨_, rfl⟩
          obtain ⟨c3, hc3⟩ : ∃ c, (c2 || b3) = c := ⟨_, rfl⟩
          obtain ⟨b4, hb4⟩ : ∃ c, decide ((16384 : Int) < px) = c := ⟨_, rfl⟩
          obtain ⟨c4, hc4⟩ : ∃ c, (c3 || b4) = c := ⟨_, rfl⟩
          obtain ⟨b5, hb5⟩ : ∃ c, decide (py < 0) = c := ⟨_, rfl⟩
          obtain ⟨c5, hc5⟩ : ∃ c, (c4 || b5) = c := ⟨_, rfl⟩
          obtain ⟨b6, hb6⟩ : ∃ c, decide ((16384 : Int) < py) = c := ⟨_, rfl⟩
          obtain ⟨c6, hc6⟩ : ∃ c, (c5 || b6) = c := ⟨_, rfl⟩
          obtain ⟨bk, hbk⟩ : ∃ c, decide ((0 : Int) < (k : Int)) = c := ⟨_, rfl⟩
          obtain ⟨b7, hb7⟩ : ∃ c, decide (tk ≤ last) = c := ⟨_, rfl⟩
          obtain ⟨d7, hd7⟩ : ∃ c, (bk && b7) = c := ⟨_, rfl⟩
          have hbad : (c6 || d7) = !bb := by
            rw [hbb, ← hd7, ← hc6, ← hc5, ← hc4, ← hc3, ← hc2, ← hb1, ← hb2, ← hb3, ← hb4, ← hb5, ← hb6, ← hbk, ← hb7, Bool.eq_iff_iff]
            simp only [Bool.or_eq_true, Bool.and_eq_true, decide_eq_true_iff, Bool.not_eq_true', decide_eq_false_iff_not]
            unfold okP
            simp only
            clear hb1 hb2 hb3 hb4 hb5 hb6 hb7 hbk hc2 hc3 hc4 hc5 hc6 hd7 hbb
            omega
          clear hl0' hlg'
          have HCW : Hid (∀ W, Ext w0 W → W.cell? ⟨b, o + k * 3, none⟩ = some (.int .i64 tk) ∧ W.cell? ⟨b, o + k * 3 + 1, none⟩ = some (.int .i64 px) ∧ W.cell? ⟨b, o + k * 3 + 2, none⟩ = some (.int .i64 py)) := Lib.hid (fun W e => by
            have r := fun i hi => (e.cell (p := ⟨b, o + k * 3 + i, none⟩) hbw).trans ((HE.out.cell (p := ⟨b, o + k * 3 + i, none⟩) hbw).symm.trans (q i hi))
            have r0 := r 0 (by omega); have r1 := r 1 (by omega); have r2 := r 2 (by omega)
            simp only [cR, Nat.add_zero, List.getElem?_cons_zero, List.getElem?_cons_succ] at r0 r1 r2
            exact ⟨r0, r1, r2⟩)
          have HZW : Hid (∀ W, Ext w0 W → 0 < k → W.cell? ⟨b, o + (k - 1) * 3, none⟩ = some (.int .i64 last)) := Lib.hid (fun W e h => by
            have hk1 : k - 1 < (x.cam p).length := by omega
            have r0 := (e.cell (p := ⟨b, o + (k - 1) * 3 + 0, none⟩) hbw).trans (hc (k - 1) hk1 0 (by omega))
            simp only [cR, Nat.add_zero, List.getElem?_cons_zero, HLP.out (k - 1) (by omega) hk1] at r0
            exact r0)
          clear hc q hbb HRK HDR a0 a1 a2 HT HF HCE
          go_upto_region 12 with fail
          go_cut [103] (fun c wx => c = .bool (!bb) ∧ Ext w0 wx)
          case first =>
            have HX := Lib.hid (ext_drew HE.out)
            refine wp_region_held_drew (S := fun W => Ext w0 W) hmxL HX.out (fun _ => ?_)
            generalize wk.drew = WA at *
            (refine wpAnyH_take (i := 0) (oi := { dst := some 39, op := Go.Op.move (Go.Operand.tmp 6), type := 43, pos := "ref.go:36", after := #[], guard := none }) (v := (Go.Value.slice (some ⟨b, o, none⟩) nl cd)) rfl (by kernel_rfl) (by kernel_rfl) (by kernel_rfl) (fun _ _ _ h => h) ?_ HX.out ?_)
            · unfold YieldsIf
              refine Or.inl ⟨by rfl, ?_⟩
              intro w' hSw
              obtain ⟨a0, a1, a2⟩ := HCW.out w' hSw
              go_simp
              try with_reducible rfl
            (try simp only [Act.put, List.setIfInBounds_toArray, List.set_cons_zero, List.set_cons_succ])
            (refine wpAnyH_take (i := 1) (oi := { dst := some 40, op := Go.Op.move (Go.Operand.tmp 7), type := 3, pos := "ref.go:36", after := #[], guard := none }) (v := (Go.Value.int .i64 (k : Int))) rfl (by kernel_rfl) (by kernel_rfl) (by kernel_rfl) (fun _ _ _ h => h) ?_ HX.out ?_)
            · unfold YieldsIf
              refine Or.inl ⟨by rfl, ?_⟩
              intro w' hSw
              obtain ⟨a0, a1, a2⟩ := HCW.out w' hSw
              go_simp
              try with_reducible rfl
            (try simp only [Act.put, List.setIfInBounds_toArray, List.set_cons_zero, List.set_cons_succ])
            (refine wpAnyH_take (i := 2) (oi := { dst := some 41, op := Go.Op.indexAddr 43 (Go.Operand.tmp 39) (Go.Operand.tmp 40), type := 0, pos := "ref.go:36", after := #[{ on := 0, ground := Go.Ground.data }, { on := 1, ground := Go.Ground.data }], guard := none }) (v := (Go.Value.pointer (some ⟨b, o + k * 3, none⟩))) rfl (by kernel_rfl) (by kernel_rfl) (by kernel_rfl) (fun _ _ _ h => h) ?_ HX.out ?_)
            · unfold YieldsIf
              refine Or.inl ⟨by rfl, ?_⟩
              intro w' hSw
              obtain ⟨a0, a1, a2⟩ := HCW.out w' hSw
              go_simp
              try with_reducible rfl
            (try simp only [Act.put, List.setIfInBounds_toArray, List.set_cons_zero, List.set_cons_succ])
            (refine wpAnyH_take (i := 3) (oi := { dst := some 42, op := Go.Op.fieldAddr 113 (Go.Operand.tmp 41) 0, type := 0, pos := "ref.go:36", after := #[{ on := 2, ground := Go.Ground.data }], guard := none }) (v := (Go.Value.pointer (some ⟨b, o + k * 3, none⟩))) rfl (by kernel_rfl) (by kernel_rfl) (by kernel_rfl) (fun _ _ _ h => h) ?_ HX.out ?_)
            · unfold YieldsIf
              refine Or.inl ⟨by rfl, ?_⟩
              intro w' hSw
              obtain ⟨a0, a1, a2⟩ := HCW.out w' hSw
              go_simp
              try with_reducible rfl
            (try simp only [Act.put, List.setIfInBounds_toArray, List.set_cons_zero, List.set_cons_succ])
            (refine wpAnyH_take (i := 4) (oi := { dst := some 43, op := Go.Op.load 3 (Go.Operand.tmp 42), type := 3, pos := "ref.go:36", after := #[{ on := 3, ground := Go.Ground.data }], guard := none }) (v := (Go.Value.int .i64 tk)) rfl (by kernel_rfl) (by kernel_rfl) (by kernel_rfl) (fun _ _ _ h => h) ?_ HX.out ?_)
            · unfold YieldsIf
              refine Or.inl ⟨by rfl, ?_⟩
              intro w' hSw
              obtain ⟨a0, a1, a2⟩ := HCW.out w' hSw
              go_simp
              try with_reducible rfl
            (try simp only [Act.put, List.setIfInBounds_toArray, List.set_cons_zero, List.set_cons_succ])
            (refine wpAnyH_take (i := 5) (oi := { dst := some 44, op := Go.Op.binOp Go.BinOp.lss 3 (Go.Operand.tmp 43) (Go.Operand.const (Go.Value.int Go.IntKind.i64 0)) 3, type := 4, pos := "ref.go:36", after := #[{ on := 4, ground := Go.Ground.data }], guard := none }) (v := (Go.Value.bool b1)) rfl (by kernel_rfl) (by kernel_rfl) (by kernel_rfl) (fun _ _ _ h => h) ?_ HX.out ?_)
            · unfold YieldsIf
              refine Or.inl ⟨by rfl, ?_⟩
              subst hb1
              intro w' hSw
              obtain ⟨a0, a1, a2⟩ := HCW.out w' hSw
              go_simp
              try with_reducible rfl
            (try simp only [Act.put, List.setIfInBounds_toArray, List.set_cons_zero, List.set_cons_succ])
            (refine wpAnyH_take (i := 6) (oi := { dst := some 45, op := Go.Op.move (Go.Operand.tmp 44), type := 4, pos := "ref.go:36", after := #[{ on := 5, ground := Go.Ground.data }], guard := none }) (v := (Go.Value.bool b1)) rfl (by kernel_rfl) (by kernel_rfl) (by kernel_rfl) (fun _ _ _ h => h) ?_ HX.out ?_)
            · unfold YieldsIf
              refine Or.inl ⟨by rfl, ?_⟩
              intro w' hSw
              obtain ⟨a0, a1, a2⟩ := HCW.out w' hSw
              go_simp
              try with_reducible rfl
            (try simp only [Act.put, List.setIfInBounds_toArray, List.set_cons_zero, List.set_cons_succ])
            (refine wpAnyH_take (i := 7) (oi := { dst := some 46, op := Go.Op.move (Go.Operand.tmp 6), type := 43, pos := "ref.go:36", after := #[{ on := 6, ground := Go.Ground.guard }], guard := some (6, false) }) (v := (bif b1 then Go.undef else (Go.Value.slice (some ⟨b, o, none⟩) nl cd))) rfl (by kernel_rfl) (by kernel_rfl) (by kernel_rfl) (fun _ _ _ h => h) ?_ HX.out ?_)
            · unfold YieldsIf
              cases b1
              rotate_left
              · exact Or.inr ⟨by rfl, by rfl⟩
              · skip
                refine Or.inl ⟨by rfl, ?_⟩
                intro w' hSw
                obtain ⟨a0, a1, a2⟩ := HCW.out w' hSw
                go_simp
                try with_reducible rfl
            (try simp only [Act.put, List.setIfInBounds_toArray, List.set_cons_zero, List.set_cons_succ])
            (refine wpAnyH_take (i := 8) (oi := { dst := some 47, op := Go.Op.move (Go.Operand.tmp 7), type := 3, pos := "ref.go:36", after := #[{ on := 6, ground := Go.Ground.guard }], guard := some (6, false) }) (v := (bif b1 then Go.undef else (Go.Value.int .i64 (k : Int)))) rfl (by kernel_rfl) (by kernel_rfl) (by kernel_rfl) (fun _ _ _ h => h) ?_ HX.out ?_)
            · unfold YieldsIf
              cases b1
              rotate_left
              · exact Or.inr ⟨by rfl, by rfl⟩
              · skip
                refine Or.inl ⟨by rfl, ?_⟩
                intro w' hSw
                obtain ⟨a0, a1, a2⟩ := HCW.out w' hSw
                go_simp
                try with_reducible rfl
            (try simp only [Act.put, List.setIfInBounds_toArray, List.set_cons_zero, List.set_cons_succ])
            (refine wpAnyH_take (i := 9) (oi := { dst := some 48, op := Go.Op.indexAddr 43 (Go.Operand.tmp 46) (Go.Operand.tmp 47), type := 0, pos := "ref.go:36", after := #[{ on := 7, ground := Go.Ground.data }, { on := 8, ground := Go.Ground.data }, { on := 6, ground := Go.Ground.guard }], guard := some (6, false) }) (v := (bif b1 then Go.undef else (Go.Value.pointer (some ⟨b, o + k * 3, none⟩)))) rfl (by kernel_rfl) (by kernel_rfl) (by kernel_rfl) (fun _ _ _ h => h) ?_ HX.out ?_)
            · unfold YieldsIf
              cases b1
              rotate_left
              · exact Or.inr ⟨by rfl, by rfl⟩
              · skip
                refine Or.inl ⟨by rfl, ?_⟩
                intro w' hSw
                obtain ⟨a0, a1, a2⟩ := HCW.out w' hSw
                go_simp
                try with_reducible rfl
            (try simp only [Act.put, List.setIfInBounds_toArray, List.set_cons_zero, List.set_cons_succ])
            (refine wpAnyH_take (i := 10) (oi := { dst := some 49, op := Go.Op.fieldAddr 113 (Go.Operand.tmp 48) 0, type := 0, pos := "ref.go:36", after := #[{ on := 9, ground := Go.Ground.data }, { on := 6, ground := Go.Ground.guard }], guard := some (6, false) }) (v := (bif b1 then Go.undef else (Go.Value.pointer (some ⟨b, o + k * 3, none⟩)))) rfl (by kernel_rfl) (by kernel_rfl) (by kernel_rfl) (fun _ _ _ h => h) ?_ HX.out ?_)
            · unfold YieldsIf
              cases b1
              rotate_left
              · exact Or.inr ⟨by rfl, by rfl⟩
              · skip
                refine Or.inl ⟨by rfl, ?_⟩
                intro w' hSw
                obtain ⟨a0, a1, a2⟩ := HCW.out w' hSw
                go_simp
                try with_reducible rfl
            (try simp only [Act.put, List.setIfInBounds_toArray, List.set_cons_zero, List.set_cons_succ])
            (refine wpAnyH_take (i := 11) (oi := { dst := some 50, op := Go.Op.load 3 (Go.Operand.tmp 49), type := 3, pos := "ref.go:36", after := #[{ on := 10, ground := Go.Ground.data }, { on := 6, ground := Go.Ground.guard }], guard := some (6, false) }) (v := (bif b1 then Go.undef else (Go.Value.int .i64 tk))) rfl (by kernel_rfl) (by kernel_rfl) (by kernel_rfl) (fun _ _ _ h => h) ?_ HX.out ?_)
            · unfold YieldsIf
              cases b1
              rotate_left
              · exact Or.inr ⟨by rfl, by rfl⟩
              · skip
                refine Or.inl ⟨by rfl, ?_⟩
                intro w' hSw
                obtain ⟨a0, a1, a2⟩ := HCW.out w' hSw
                go_simp
                try with_reducible rfl
            (try simp only [Act.put, List.setIfInBounds_toArray, List.set_cons_zero, List.set_cons_succ])
            (refine wpAnyH_take (i := 12) (oi := { dst := some 51, op := Go.Op.move (Go.Operand.tmp 1), type := 3, pos := "ref.go:36", after := #[{ on := 6, ground := Go.Ground.guard }], guard := some (6, false) }) (v := (bif b1 then Go.undef else (Go.Value.int .i64 n))) rfl (by kernel_rfl) (by kernel_rfl) (by kernel_rfl) (fun _ _ _ h => h) ?_ HX.out ?_)
            · unfold YieldsIf
              cases b1
              rotate_left
              · exact Or.inr ⟨by rfl, by rfl⟩
              · skip
                refine Or.inl ⟨by rfl, ?_⟩
                intro w' hSw
                obtain ⟨a0, a1, a2⟩ := HCW.out w' hSw
                go_simp
                try with_reducible rfl
            (try simp only [Act.put, List.setIfInBounds_toArray, List.set_cons_zero, List.set_cons_succ])
            (refine wpAnyH_take (i := 13) (oi := { dst := some 52, op := Go.Op.binOp Go.BinOp.gtr 3 (Go.Operand.tmp 50) (Go.Operand.tmp 51) 3, type := 4, pos := "ref.go:36", after := #[{ on := 11, ground := Go.Ground.data }, { on := 12, ground := Go.Ground.data }, { on := 6, ground := Go.Ground.guard }], guard := some (6, false) }) (v := (bif b1 then Go.undef else (Go.Value.bool b2))) rfl (by kernel_rfl) (by kernel_rfl) (by kernel_rfl) (fun _ _ _ h => h) ?_ HX.out ?_)
            · unfold YieldsIf
              cases b1
              rotate_left
              · exact Or.inr ⟨by rfl, by rfl⟩
              · skip
                refine Or.inl ⟨by rfl, ?_⟩
                subst hb2
                intro w' hSw
                obtain ⟨a0, a1, a2⟩ := HCW.out w' hSw
                go_simp
                try with_reducible rfl
            (try simp only [Act.put, List.setIfInBounds_toArray, List.set_cons_zero, List.set_cons_succ])
            (refine wpAnyH_take (i := 14) (oi := { dst := some 53, op := Go.Op.pick (Go.Operand.tmp 45) (Go.Operand.const (Go.Value.bool true)) (Go.Operand.tmp 52), type := 4, pos := "ref.go:36", after := #[{ on := 6, ground := Go.Ground.data }, { on := 13, ground := Go.Ground.data }], guard := none }) (v := (Go.Value.bool c2)) rfl (by kernel_rfl) (by kernel_rfl) (by kernel_rfl) (fun _ _ _ h => h) ?_ HX.out ?_)
            · unfold YieldsIf
              subst hc2
              cases b1 <;>
                (refine Or.inl ⟨by rfl, ?_⟩; intro w' hSw; go_simp; try with_reducible rfl)
            (try simp only [Act.put, List.setIfInBounds_toArray, List.set_cons_zero, List.set_cons_succ])
            (refine wpAnyH_take (i := 15) (oi := { dst := some 54, op := Go.Op.move (Go.Operand.tmp 53), type := 4, pos := "ref.go:36", after := #[{ on := 14, ground := Go.Ground.data }, { on := 6, ground := Go.Ground.chain }], guard := none }) (v := (Go.Value.bool c2)) rfl (by kernel_rfl) (by kernel_rfl) (by kernel_rfl) (fun _ _ _ h => h) ?_ HX.out ?_)
            · unfold YieldsIf
              refine Or.inl ⟨by rfl, ?_⟩
              intro w' hSw
              obtain ⟨a0, a1, a2⟩ := HCW.out w' hSw
              go_simp
              try with_reducible rfl
            (try simp only [Act.put, List.setIfInBounds_toArray, List.set_cons_zero, List.set_cons_succ])
            (refine wpAnyH_take (i := 16) (oi := { dst := some 55, op := Go.Op.move (Go.Operand.tmp 6), type := 43, pos := "ref.go:36", after := #[{ on := 15, ground := Go.Ground.guard }], guard := some (15, false) }) (v := (bif c2 then Go.undef else (Go.Value.slice (some ⟨b, o, none⟩) nl cd))) rfl (by kernel_rfl) (by kernel_rfl) (by kernel_rfl) (fun _ _ _ h => h) ?_ HX.out ?_)
            · unfold YieldsIf
              cases c2
              rotate_left
              · exact Or.inr ⟨by rfl, by rfl⟩
              · skip
                refine Or.inl ⟨by rfl, ?_⟩
                intro w' hSw
                obtain ⟨a0, a1, a2⟩ := HCW.out w' hSw
                go_simp
                try with_reducible rfl
            (try simp only [Act.put, List.setIfInBounds_toArray, List.set_cons_zero, List.set_cons_succ])
            (refine wpAnyH_take (i := 17) (oi := { dst := some 56, op := Go.Op.move (Go.Operand.tmp 7), type := 3, pos := "ref.go:36", after := #[{ on := 15, ground := Go.Ground.guard }], guard := some (15, false) }) (v := (bif c2 then Go.undef else (Go.Value.int .i64 (k : Int)))) rfl (by kernel_rfl) (by kernel_rfl) (by kernel_rfl) (fun _ _ _ h => h) ?_ HX.out ?_)
            · unfold YieldsIf
              cases c2
              rotate_left
              · exact Or.inr ⟨by rfl, by rfl⟩
              · skip
                refine Or.inl ⟨by rfl, ?_⟩
                intro w' hSw
                obtain ⟨a0, a1, a2⟩ := HCW.out w' hSw
                go_simp
                try with_reducible rfl
            (try simp only [Act.put, List.setIfInBounds_toArray, List.set_cons_zero, List.set_cons_succ])
            (refine wpAnyH_take (i := 18) (oi := { dst := some 57, op := Go.Op.indexAddr 43 (Go.Operand.tmp 55) (Go.Operand.tmp 56), type := 0, pos := "ref.go:36", after := #[{ on := 16, ground := Go.Ground.data }, { on := 17, ground := Go.Ground.data }, { on := 15, ground := Go.Ground.guard }], guard := some (15, false) }) (v := (bif c2 then Go.undef else (Go.Value.pointer (some ⟨b, o + k * 3, none⟩)))) rfl (by kernel_rfl) (by kernel_rfl) (by kernel_rfl) (fun _ _ _ h => h) ?_ HX.out ?_)
            · unfold YieldsIf
              cases c2
              rotate_left
              · exact Or.inr ⟨by rfl, by rfl⟩
              · skip
                refine Or.inl ⟨by rfl, ?_⟩
                intro w' hSw
                obtain ⟨a0, a1, a2⟩ := HCW.out w' hSw
                go_simp
                try with_reducible rfl
            (try simp only [Act.put, List.setIfInBounds_toArray, List.set_cons_zero, List.set_cons_succ])
            (refine wpAnyH_take (i := 19) (oi := { dst := some 58, op := Go.Op.fieldAddr 113 (Go.Operand.tmp 57) 1, type := 0, pos := "ref.go:36", after := #[{ on := 18, ground := Go.Ground.data }, { on := 15, ground := Go.Ground.guard }], guard := some (15, false) }) (v := (bif c2 then Go.undef else (Go.Value.pointer (some ⟨b, o + k * 3 + 1, none⟩)))) rfl (by kernel_rfl) (by kernel_rfl) (by kernel_rfl) (fun _ _ _ h => h) ?_ HX.out ?_)
            · unfold YieldsIf
              cases c2
              rotate_left
              · exact Or.inr ⟨by rfl, by rfl⟩
              · skip
                refine Or.inl ⟨by rfl, ?_⟩
                intro w' hSw
                obtain ⟨a0, a1, a2⟩ := HCW.out w' hSw
                go_simp
                try with_reducible rfl
            (try simp only [Act.put, List.setIfInBounds_toArray, List.set_cons_zero, List.set_cons_succ])
            (refine wpAnyH_take (i := 20) (oi := { dst := some 59, op := Go.Op.load 3 (Go.Operand.tmp 58), type := 3, pos := "ref.go:36", after := #[{ on := 19, ground := Go.Ground.data }, { on := 15, ground := Go.Ground.guard }], guard := some (15, false) }) (v := (bif c2 then Go.undef else (Go.Value.int .i64 px))) rfl (by kernel_rfl) (by kernel_rfl) (by kernel_rfl) (fun _ _ _ h => h) ?_ HX.out ?_)
            · unfold YieldsIf
              cases c2
              rotate_left
              · exact Or.inr ⟨by rfl, by rfl⟩
              · skip
                refine Or.inl ⟨by rfl, ?_⟩
                intro w' hSw
                obtain ⟨a0, a1, a2⟩ := HCW.out w' hSw
                go_simp
                try with_reducible rfl
            (try simp only [Act.put, List.setIfInBounds_toArray, List.set_cons_zero, List.set_cons_succ])
            (refine wpAnyH_take (i := 21) (oi := { dst := some 60, op := Go.Op.binOp Go.BinOp.lss 3 (Go.Operand.tmp 59) (Go.Operand.const (Go.Value.int Go.IntKind.i64 0)) 3, type := 4, pos := "ref.go:36", after := #[{ on := 20, ground := Go.Ground.data }, { on := 15, ground := Go.Ground.guard }], guard := some (15, false) }) (v := (bif c2 then Go.undef else (Go.Value.bool b3))) rfl (by kernel_rfl) (by kernel_rfl) (by kernel_rfl) (fun _ _ _ h => h) ?_ HX.out ?_)
            · unfold YieldsIf
              cases c2
              rotate_left
              · exact Or.inr ⟨by rfl, by rfl⟩
              · skip
                refine Or.inl ⟨by rfl, ?_⟩
                subst hb3
                intro w' hSw
                obtain ⟨a0, a1, a2⟩ := HCW.out w' hSw
                go_simp
                try with_reducible rfl
            (try simp only [Act.put, List.setIfInBounds_toArray, List.set_cons_zero, List.set_cons_succ])
            (refine wpAnyH_take (i := 22) (oi := { dst := some 61, op := Go.Op.pick (Go.Operand.tmp 54) (Go.Operand.const (Go.Value.bool true)) (Go.Operand.tmp 60), type := 4, pos := "ref.go:36", after := #[{ on := 15, ground := Go.Ground.data }, { on := 21, ground := Go.Ground.data }], guard := none }) (v := (Go.Value.bool c3)) rfl (by kernel_rfl) (by kernel_rfl) (by kernel_rfl) (fun _ _ _ h => h) ?_ HX.out ?_)
            · unfold YieldsIf
              subst hc3
              cases c2 <;>
                (refine Or.inl ⟨by rfl, ?_⟩; intro w' hSw; go_simp; try with_reducible rfl)
            (try simp only [Act.put, List.setIfInBounds_toArray, List.set_cons_zero, List.set_cons_succ])
            (refine wpAnyH_take (i := 23) (oi := { dst := some 62, op := Go.Op.move (Go.Operand.tmp 61), type := 4, pos := "ref.go:36", after := #[{ on := 22, ground := Go.Ground.data }, { on := 15, ground := Go.Ground.chain }], guard := none }) (v := (Go.Value.bool c3)) rfl (by kernel_rfl) (by kernel_rfl) (by kernel_rfl) (fun _ _ _ h => h) ?_ HX.out ?_)
            · unfold YieldsIf
              refine Or.inl ⟨by rfl, ?_⟩
              intro w' hSw
              obtain ⟨a0, a1, a2⟩ := HCW.out w' hSw
              go_simp
              try with_reducible rfl
            (try simp only [Act.put, List.setIfInBounds_toArray, List.set_cons_zero, List.set_cons_succ])
            (refine wpAnyH_take (i := 24) (oi := { dst := some 63, op := Go.Op.move (Go.Operand.tmp 6), type := 43, pos := "ref.go:36", after := #[{ on := 23, ground := Go.Ground.guard }], guard := some (23, false) }) (v := (bif c3 then Go.undef else (Go.Value.slice (some ⟨b, o, none⟩) nl cd))) rfl (by kernel_rfl) (by kernel_rfl) (by kernel_rfl) (fun _ _ _ h => h) ?_ HX.out ?_)
            · unfold YieldsIf
              cases c3
              rotate_left
              · exact Or.inr ⟨by rfl, by rfl⟩
              · skip
                refine Or.inl ⟨by rfl, ?_⟩
                intro w' hSw
                obtain ⟨a0, a1, a2⟩ := HCW.out w' hSw
                go_simp
                try with_reducible rfl
            (try simp only [Act.put, List.setIfInBounds_toArray, List.set_cons_zero, List.set_cons_succ])
            (refine wpAnyH_take (i := 25) (oi := { dst := some 64, op := Go.Op.move (Go.Operand.tmp 7), type := 3, pos := "ref.go:36", after := #[{ on := 23, ground := Go.Ground.guard }], guard := some (23, false) }) (v := (bif c3 then Go.undef else (Go.Value.int .i64 (k : Int)))) rfl (by kernel_rfl) (by kernel_rfl) (by kernel_rfl) (fun _ _ _ h => h) ?_ HX.out ?_)
            · unfold YieldsIf
              cases c3
              rotate_left
              · exact Or.inr ⟨by rfl, by rfl⟩
              · skip
                refine Or.inl ⟨by rfl, ?_⟩
                intro w' hSw
                obtain ⟨a0, a1, a2⟩ := HCW.out w' hSw
                go_simp
                try with_reducible rfl
            (try simp only [Act.put, List.setIfInBounds_toArray, List.set_cons_zero, List.set_cons_succ])
            (refine wpAnyH_take (i := 26) (oi := { dst := some 65, op := Go.Op.indexAddr 43 (Go.Operand.tmp 63) (Go.Operand.tmp 64), type := 0, pos := "ref.go:36", after := #[{ on := 24, ground := Go.Ground.data }, { on := 25, ground := Go.Ground.data }, { on := 23, ground := Go.Ground.guard }], guard := some (23, false) }) (v := (bif c3 then Go.undef else (Go.Value.pointer (some ⟨b, o + k * 3, none⟩)))) rfl (by kernel_rfl) (by kernel_rfl) (by kernel_rfl) (fun _ _ _ h => h) ?_ HX.out ?_)
            · unfold YieldsIf
              cases c3
              rotate_left
              · exact Or.inr ⟨by rfl, by rfl⟩
              · skip
                refine Or.inl ⟨by rfl, ?_⟩
                intro w' hSw
                obtain ⟨a0, a1, a2⟩ := HCW.out w' hSw
                go_simp
                try with_reducible rfl
            (try simp only [Act.put, List.setIfInBounds_toArray, List.set_cons_zero, List.set_cons_succ])
            (refine wpAnyH_take (i := 27) (oi := { dst := some 66, op := Go.Op.fieldAddr 113 (Go.Operand.tmp 65) 1, type := 0, pos := "ref.go:36", after := #[{ on := 26, ground := Go.Ground.data }, { on := 23, ground := Go.Ground.guard }], guard := some (23, false) }) (v := (bif c3 then Go.undef else (Go.Value.pointer (some ⟨b, o + k * 3 + 1, none⟩)))) rfl (by kernel_rfl) (by kernel_rfl) (by kernel_rfl) (fun _ _ _ h => h) ?_ HX.out ?_)
            · unfold YieldsIf
              cases c3
              rotate_left
              · exact Or.inr ⟨by rfl, by rfl⟩
              · skip
                refine Or.inl ⟨by rfl, ?_⟩
                intro w' hSw
                obtain ⟨a0, a1, a2⟩ := HCW.out w' hSw
                go_simp
                try with_reducible rfl
            (try simp only [Act.put, List.setIfInBounds_toArray, List.set_cons_zero, List.set_cons_succ])
            (refine wpAnyH_take (i := 28) (oi := { dst := some 67, op := Go.Op.load 3 (Go.Operand.tmp 66), type := 3, pos := "ref.go:36", after := #[{ on := 27, ground := Go.Ground.data }, { on := 23, ground := Go.Ground.guard }], guard := some (23, false) }) (v := (bif c3 then Go.undef else (Go.Value.int .i64 px))) rfl (by kernel_rfl) (by kernel_rfl) (by kernel_rfl) (fun _ _ _ h => h) ?_ HX.out ?_)
            · unfold YieldsIf
              cases c3
              rotate_left
              · exact Or.inr ⟨by rfl, by rfl⟩
              · skip
                refine Or.inl ⟨by rfl, ?_⟩
                intro w' hSw
                obtain ⟨a0, a1, a2⟩ := HCW.out w' hSw
                go_simp
                try with_reducible rfl
            (try simp only [Act.put, List.setIfInBounds_toArray, List.set_cons_zero, List.set_cons_succ])
            (refine wpAnyH_take (i := 29) (oi := { dst := some 68, op := Go.Op.binOp Go.BinOp.gtr 3 (Go.Operand.tmp 67) (Go.Operand.const (Go.Value.int Go.IntKind.i64 16384)) 3, type := 4, pos := "ref.go:36", after := #[{ on := 28, ground := Go.Ground.data }, { on := 23, ground := Go.Ground.guard }], guard := some (23, false) }) (v := (bif c3 then Go.undef else (Go.Value.bool b4))) rfl (by kernel_rfl) (by kernel_rfl) (by kernel_rfl) (fun _ _ _ h => h) ?_ HX.out ?_)
            · unfold YieldsIf
              cases c3
              rotate_left
              · exact Or.inr ⟨by rfl, by rfl⟩
              · skip
                refine Or.inl ⟨by rfl, ?_⟩
                subst hb4
                intro w' hSw
                obtain ⟨a0, a1, a2⟩ := HCW.out w' hSw
                go_simp
                try with_reducible rfl
            (try simp only [Act.put, List.setIfInBounds_toArray, List.set_cons_zero, List.set_cons_succ])
            (refine wpAnyH_take (i := 30) (oi := { dst := some 69, op := Go.Op.pick (Go.Operand.tmp 62) (Go.Operand.const (Go.Value.bool true)) (Go.Operand.tmp 68), type := 4, pos := "ref.go:36", after := #[{ on := 23, ground := Go.Ground.data }, { on := 29, ground := Go.Ground.data }], guard := none }) (v := (Go.Value.bool c4)) rfl (by kernel_rfl) (by kernel_rfl) (by kernel_rfl) (fun _ _ _ h => h) ?_ HX.out ?_)
            · unfold YieldsIf
              subst hc4
              cases c3 <;>
                (refine Or.inl ⟨by rfl, ?_⟩; intro w' hSw; go_simp; try with_reducible rfl)
            (try simp only [Act.put, List.setIfInBounds_toArray, List.set_cons_zero, List.set_cons_succ])
            (refine wpAnyH_take (i := 31) (oi := { dst := some 70, op := Go.Op.move (Go.Operand.tmp 69), type := 4, pos := "ref.go:36", after := #[{ on := 30, ground := Go.Ground.data }, { on := 23, ground := Go.Ground.chain }], guard := none }) (v := (Go.Value.bool c4)) rfl (by kernel_rfl) (by kernel_rfl) (by kernel_rfl) (fun _ _ _ h => h) ?_ HX.out ?_)
            · unfold YieldsIf
              refine Or.inl ⟨by rfl, ?_⟩
              intro w' hSw
              obtain ⟨a0, a1, a2⟩ := HCW.out w' hSw
              go_simp
              try with_reducible rfl
            (try simp only [Act.put, List.setIfInBounds_toArray, List.set_cons_zero, List.set_cons_succ])
            (refine wpAnyH_take (i := 32) (oi := { dst := some 71, op := Go.Op.move (Go.Operand.tmp 6), type := 43, pos := "ref.go:36", after := #[{ on := 31, ground := Go.Ground.guard }], guard := some (31, false) }) (v := (bif c4 then Go.undef else (Go.Value.slice (some ⟨b, o, none⟩) nl cd))) rfl (by kernel_rfl) (by kernel_rfl) (by kernel_rfl) (fun _ _ _ h => h) ?_ HX.out ?_)
            · unfold YieldsIf
              cases c4
              rotate_left
              · exact Or.inr ⟨by rfl, by rfl⟩
              · skip
                refine Or.inl ⟨by rfl, ?_⟩
                intro w' hSw
                obtain ⟨a0, a1, a2⟩ := HCW.out w' hSw
                go_simp
                try with_reducible rfl
            (try simp only [Act.put, List.setIfInBounds_toArray, List.set_cons_zero, List.set_cons_succ])
            (refine wpAnyH_take (i := 33) (oi := { dst := some 72, op := Go.Op.move (Go.Operand.tmp 7), type := 3, pos := "ref.go:36", after := #[{ on := 31, ground := Go.Ground.guard }], guard := some (31, false) }) (v := (bif c4 then Go.undef else (Go.Value.int .i64 (k : Int)))) rfl (by kernel_rfl) (by kernel_rfl) (by kernel_rfl) (fun _ _ _ h => h) ?_ HX.out ?_)
            · unfold YieldsIf
              cases c4
              rotate_left
              · exact Or.inr ⟨by rfl, by rfl⟩
              · skip
                refine Or.inl ⟨by rfl, ?_⟩
                intro w' hSw
                obtain ⟨a0, a1, a2⟩ := HCW.out w' hSw
                go_simp
                try with_reducible rfl
            (try simp only [Act.put, List.setIfInBounds_toArray, List.set_cons_zero, List.set_cons_succ])
            (refine wpAnyH_take (i := 34) (oi := { dst := some 73, op := Go.Op.indexAddr 43 (Go.Operand.tmp 71) (Go.Operand.tmp 72), type := 0, pos := "ref.go:36", after := #[{ on := 32, ground := Go.Ground.data }, { on := 33, ground := Go.Ground.data }, { on := 31, ground := Go.Ground.guard }], guard := some (31, false) }) (v := (bif c4 then Go.undef else (Go.Value.pointer (some ⟨b, o + k * 3, none⟩)))) rfl (by kernel_rfl) (by kernel_rfl) (by kernel_rfl) (fun _ _ _ h => h) ?_ HX.out ?_)
            · unfold YieldsIf
              cases c4
              rotate_left
              · exact Or.inr ⟨by rfl, by rfl⟩
              · skip
                refine Or.inl ⟨by rfl, ?_⟩
                intro w' hSw
                obtain ⟨a0, a1, a2⟩ := HCW.out w' hSw
                go_simp
                try with_reducible rfl
            (try simp only [Act.put, List.setIfInBounds_toArray, List.set_cons_zero, List.set_cons_succ])
            (refine wpAnyH_take (i := 35) (oi := { dst := some 74, op := Go.Op.fieldAddr 113 (Go.Operand.tmp 73) 2, type := 0, pos := "ref.go:36", after := #[{ on := 34, ground := Go.Ground.data }, { on := 31, ground := Go.Ground.guard }], guard := some (31, false) }) (v := (bif c4 then Go.undef else (Go.Value.pointer (some ⟨b, o + k * 3 + 2, none⟩)))) rfl (by kernel_rfl) (by kernel_rfl) (by kernel_rfl) (fun _ _ _ h => h) ?_ HX.out ?_)
            · unfold YieldsIf
              cases c4
              rotate_left
              · exact Or.inr ⟨by rfl, by rfl⟩
              · skip
                refine Or.inl ⟨by rfl, ?_⟩
                intro w' hSw
                obtain ⟨a0, a1, a2⟩ := HCW.out w' hSw
                go_simp
                try with_reducible rfl
            (try simp only [Act.put, List.setIfInBounds_toArray, List.set_cons_zero, List.set_cons_succ])
            (refine wpAnyH_take (i := 36) (oi := { dst := some 75, op := Go.Op.load 3 (Go.Operand.tmp 74), type := 3, pos := "ref.go:36", after := #[{ on := 35, ground := Go.Ground.data }, { on := 31, ground := Go.Ground.guard }], guard := some (31, false) }) (v := (bif c4 then Go.undef else (Go.Value.int .i64 py))) rfl (by kernel_rfl) (by kernel_rfl) (by kernel_rfl) (fun _ _ _ h => h) ?_ HX.out ?_)
            · unfold YieldsIf
              cases c4
              rotate_left
              · exact Or.inr ⟨by rfl, by rfl⟩
              · skip
                refine Or.inl ⟨by rfl, ?_⟩
                intro w' hSw
                obtain ⟨a0, a1, a2⟩ := HCW.out w' hSw
                go_simp
                try with_reducible rfl
            (try simp only [Act.put, List.setIfInBounds_toArray, List.set_cons_zero, List.set_cons_succ])
            (refine wpAnyH_take (i := 37) (oi := { dst := some 76, op := Go.Op.binOp Go.BinOp.lss 3 (Go.Operand.tmp 75) (Go.Operand.const (Go.Value.int Go.IntKind.i64 0)) 3, type := 4, pos := "ref.go:36", after := #[{ on := 36, ground := Go.Ground.data }, { on := 31, ground := Go.Ground.guard }], guard := some (31, false) }) (v := (bif c4 then Go.undef else (Go.Value.bool b5))) rfl (by kernel_rfl) (by kernel_rfl) (by kernel_rfl) (fun _ _ _ h => h) ?_ HX.out ?_)
            · unfold YieldsIf
              cases c4
              rotate_left
              · exact Or.inr ⟨by rfl, by rfl⟩
              · skip
                refine Or.inl ⟨by rfl, ?_⟩
                subst hb5
                intro w' hSw
                obtain ⟨a0, a1, a2⟩ := HCW.out w' hSw
                go_simp
                try with_reducible rfl
            (try simp only [Act.put, List.setIfInBounds_toArray, List.set_cons_zero, List.set_cons_succ])
            (refine wpAnyH_take (i := 38) (oi := { dst := some 77, op := Go.Op.pick (Go.Operand.tmp 70) (Go.Operand.const (Go.Value.bool true)) (Go.Operand.tmp 76), type := 4, pos := "ref.go:36", after := #[{ on := 31, ground := Go.Ground.data }, { on := 37, ground := Go.Ground.data }], guard := none }) (v := (Go.Value.bool c5)) rfl (by kernel_rfl) (by kernel_rfl) (by kernel_rfl) (fun _ _ _ h => h) ?_ HX.out ?_)
            · unfold YieldsIf
              subst hc5
              cases c4 <;>
                (refine Or.inl ⟨by rfl, ?_⟩; intro w' hSw; go_simp; try with_reducible rfl)
            (try simp only [Act.put, List.setIfInBounds_toArray, List.set_cons_zero, List.set_cons_succ])
            (refine wpAnyH_take (i := 39) (oi := { dst := some 78, op := Go.Op.move (Go.Operand.tmp 77), type := 4, pos := "ref.go:36", after := #[{ on := 38, ground := Go.Ground.data }, { on := 31, ground := Go.Ground.chain }], guard := none }) (v := (Go.Value.bool c5)) rfl (by kernel_rfl) (by kernel_rfl) (by kernel_rfl) (fun _ _ _ h => h) ?_ HX.out ?_)
            · unfold YieldsIf
              refine Or.inl ⟨by rfl, ?_⟩
              intro w' hSw
              obtain ⟨a0, a1, a2⟩ := HCW.out w' hSw
              go_simp
              try with_reducible rfl
            (try simp only [Act.put, List.setIfInBounds_toArray, List.set_cons_zero, List.set_cons_succ])
            (refine wpAnyH_take (i := 40) (oi := { dst := some 79, op := Go.Op.move (Go.Operand.tmp 6), type := 43, pos := "ref.go:36", after := #[{ on := 39, ground := Go.Ground.guard }], guard := some (39, false) }) (v := (bif c5 then Go.undef else (Go.Value.slice (some ⟨b, o, none⟩) nl cd))) rfl (by kernel_rfl) (by kernel_rfl) (by kernel_rfl) (fun _ _ _ h => h) ?_ HX.out ?_)
            · unfold YieldsIf
              cases c5
              rotate_left
              · exact Or.inr ⟨by rfl, by rfl⟩
              · skip
                refine Or.inl ⟨by rfl, ?_⟩
                intro w' hSw
                obtain ⟨a0, a1, a2⟩ := HCW.out w' hSw
                go_simp
                try with_reducible rfl
            (try simp only [Act.put, List.setIfInBounds_toArray, List.set_cons_zero, List.set_cons_succ])
            (refine wpAnyH_take (i := 41) (oi := { dst := some 80, op := Go.Op.move (Go.Operand.tmp 7), type := 3, pos := "ref.go:36", after := #[{ on := 39, ground := Go.Ground.guard }], guard := some (39, false) }) (v := (bif c5 then Go.undef else (Go.Value.int .i64 (k : Int)))) rfl (by kernel_rfl) (by kernel_rfl) (by kernel_rfl) (fun _ _ _ h => h) ?_ HX.out ?_)
            · unfold YieldsIf
              cases c5
              rotate_left
              · exact Or.inr ⟨by rfl, by rfl⟩
              · skip
                refine Or.inl ⟨by rfl, ?_⟩
                intro w' hSw
                obtain ⟨a0, a1, a2⟩ := HCW.out w' hSw
                go_simp
                try with_reducible rfl
            (try simp only [Act.put, List.setIfInBounds_toArray, List.set_cons_zero, List.set_cons_succ])
            (refine wpAnyH_take (i := 42) (oi := { dst := some 81, op := Go.Op.indexAddr 43 (Go.Operand.tmp 79) (Go.Operand.tmp 80), type := 0, pos := "ref.go:36", after := #[{ on := 40, ground := Go.Ground.data }, { on := 41, ground := Go.Ground.data }, { on := 39, ground := Go.Ground.guard }], guard := some (39, false) }) (v := (bif c5 then Go.undef else (Go.Value.pointer (some ⟨b, o + k * 3, none⟩)))) rfl (by kernel_rfl) (by kernel_rfl) (by kernel_rfl) (fun _ _ _ h => h) ?_ HX.out ?_)
            · unfold YieldsIf
              cases c5
              rotate_left
              · exact Or.inr ⟨by rfl, by rfl⟩
              · skip
                refine Or.inl ⟨by rfl, ?_⟩
                intro w' hSw
                obtain ⟨a0, a1, a2⟩ := HCW.out w' hSw
                go_simp
                try with_reducible rfl
            (try simp only [Act.put, List.setIfInBounds_toArray, List.set_cons_zero, List.set_cons_succ])
            (refine wpAnyH_take (i := 43) (oi := { dst := some 82, op := Go.Op.fieldAddr 113 (Go.Operand.tmp 81) 2, type := 0, pos := "ref.go:36", after := #[{ on := 42, ground := Go.Ground.data }, { on := 39, ground := Go.Ground.guard }], guard := some (39, false) }) (v := (bif c5 then Go.undef else (Go.Value.pointer (some ⟨b, o + k * 3 + 2, none⟩)))) rfl (by kernel_rfl) (by kernel_rfl) (by kernel_rfl) (fun _ _ _ h => h) ?_ HX.out ?_)
            · unfold YieldsIf
              cases c5
              rotate_left
              · exact Or.inr ⟨by rfl, by rfl⟩
              · skip
                refine Or.inl ⟨by rfl, ?_⟩
                intro w' hSw
                obtain ⟨a0, a1, a2⟩ := HCW.out w' hSw
                go_simp
                try with_reducible rfl
            (try simp only [Act.put, List.setIfInBounds_toArray, List.set_cons_zero, List.set_cons_succ])
            (refine wpAnyH_take (i := 44) (oi := { dst := some 83, op := Go.Op.load 3 (Go.Operand.tmp 82), type := 3, pos := "ref.go:36", after := #[{ on := 43, ground := Go.Ground.data }, { on := 39, ground := Go.Ground.guard }], guard := some (39, false) }) (v := (bif c5 then Go.undef else (Go.Value.int .i64 py))) rfl (by kernel_rfl) (by kernel_rfl) (by kernel_rfl) (fun _ _ _ h => h) ?_ HX.out ?_)
            · unfold YieldsIf
              cases c5
              rotate_left
              · exact Or.inr ⟨by rfl, by rfl⟩
              · skip
                refine Or.inl ⟨by rfl, ?_⟩
                intro w' hSw
                obtain ⟨a0, a1, a2⟩ := HCW.out w' hSw
                go_simp
                try with_reducible rfl
            (try simp only [Act.put, List.setIfInBounds_toArray, List.set_cons_zero, List.set_cons_succ])
            (refine wpAnyH_take (i := 45) (oi := { dst := some 84, op := Go.Op.binOp Go.BinOp.gtr 3 (Go.Operand.tmp 83) (Go.Operand.const (Go.Value.int Go.IntKind.i64 16384)) 3, type := 4, pos := "ref.go:36", after := #[{ on := 44, ground := Go.Ground.data }, { on := 39, ground := Go.Ground.guard }], guard := some (39, false) }) (v := (bif c5 then Go.undef else (Go.Value.bool b6))) rfl (by kernel_rfl) (by kernel_rfl) (by kernel_rfl) (fun _ _ _ h => h) ?_ HX.out ?_)
            · unfold YieldsIf
              cases c5
              rotate_left
              · exact Or.inr ⟨by rfl, by rfl⟩
              · skip
                refine Or.inl ⟨by rfl, ?_⟩
                subst hb6
                intro w' hSw
                obtain ⟨a0, a1, a2⟩ := HCW.out w' hSw
                go_simp
                try with_reducible rfl
            (try simp only [Act.put, List.setIfInBounds_toArray, List.set_cons_zero, List.set_cons_succ])
            (refine wpAnyH_take (i := 46) (oi := { dst := some 85, op := Go.Op.pick (Go.Operand.tmp 78) (Go.Operand.const (Go.Value.bool true)) (Go.Operand.tmp 84), type := 4, pos := "ref.go:36", after := #[{ on := 39, ground := Go.Ground.data }, { on := 45, ground := Go.Ground.data }], guard := none }) (v := (Go.Value.bool c6)) rfl (by kernel_rfl) (by kernel_rfl) (by kernel_rfl) (fun _ _ _ h => h) ?_ HX.out ?_)
            · unfold YieldsIf
              subst hc6
              cases c5 <;>
                (refine Or.inl ⟨by rfl, ?_⟩; intro w' hSw; go_simp; try with_reducible rfl)
            (try simp only [Act.put, List.setIfInBounds_toArray, List.set_cons_zero, List.set_cons_succ])
            (refine wpAnyH_take (i := 47) (oi := { dst := some 86, op := Go.Op.move (Go.Operand.tmp 85), type := 4, pos := "ref.go:36", after := #[{ on := 46, ground := Go.Ground.data }, { on := 39, ground := Go.Ground.chain }], guard := none }) (v := (Go.Value.bool c6)) rfl (by kernel_rfl) (by kernel_rfl) (by kernel_rfl) (fun _ _ _ h => h) ?_ HX.out ?_)
            · unfold YieldsIf
              refine Or.inl ⟨by rfl, ?_⟩
              intro w' hSw
              obtain ⟨a0, a1, a2⟩ := HCW.out w' hSw
              go_simp
              try with_reducible rfl
            (try simp only [Act.put, List.setIfInBounds_toArray, List.set_cons_zero, List.set_cons_succ])
            (refine wpAnyH_take (i := 48) (oi := { dst := some 87, op := Go.Op.move (Go.Operand.tmp 7), type := 3, pos := "ref.go:36", after := #[{ on := 47, ground := Go.Ground.guard }], guard := some (47, false) }) (v := (bif c6 then Go.undef else (Go.Value.int .i64 (k : Int)))) rfl (by kernel_rfl) (by kernel_rfl) (by kernel_rfl) (fun _ _ _ h => h) ?_ HX.out ?_)
            · unfold YieldsIf
              cases c6
              rotate_left
              · exact Or.inr ⟨by rfl, by rfl⟩
              · skip
                refine Or.inl ⟨by rfl, ?_⟩
                intro w' hSw
                obtain ⟨a0, a1, a2⟩ := HCW.out w' hSw
                go_simp
                try with_reducible rfl
            (try simp only [Act.put, List.setIfInBounds_toArray, List.set_cons_zero, List.set_cons_succ])
            (refine wpAnyH_take (i := 49) (oi := { dst := some 88, op := Go.Op.binOp Go.BinOp.gtr 3 (Go.Operand.tmp 87) (Go.Operand.const (Go.Value.int Go.IntKind.i64 0)) 3, type := 4, pos := "ref.go:36", after := #[{ on := 48, ground := Go.Ground.data }, { on := 47, ground := Go.Ground.guard }], guard := some (47, false) }) (v := (bif c6 then Go.undef else (Go.Value.bool bk))) rfl (by kernel_rfl) (by kernel_rfl) (by kernel_rfl) (fun _ _ _ h => h) ?_ HX.out ?_)
            · unfold YieldsIf
              cases c6
              rotate_left
              · exact Or.inr ⟨by rfl, by rfl⟩
              · skip
                refine Or.inl ⟨by rfl, ?_⟩
                subst hbk
                intro w' hSw
                obtain ⟨a0, a1, a2⟩ := HCW.out w' hSw
                go_simp
                try with_reducible rfl
            (try simp only [Act.put, List.setIfInBounds_toArray, List.set_cons_zero, List.set_cons_succ])
            (refine wpAnyH_take (i := 50) (oi := { dst := some 89, op := Go.Op.move (Go.Operand.tmp 88), type := 4, pos := "ref.go:36", after := #[{ on := 49, ground := Go.Ground.data }, { on := 47, ground := Go.Ground.chain }, { on := 47, ground := Go.Ground.guard }], guard := some (47, false) }) (v := (bif c6 then Go.undef else (Go.Value.bool bk))) rfl (by kernel_rfl) (by kernel_rfl) (by kernel_rfl) (fun _ _ _ h => h) ?_ HX.out ?_)
            · unfold YieldsIf
              cases c6
              rotate_left
              · exact Or.inr ⟨by rfl, by rfl⟩
              · skip
                refine Or.inl ⟨by rfl, ?_⟩
                intro w' hSw
                obtain ⟨a0, a1, a2⟩ := HCW.out w' hSw
                go_simp
                try with_reducible rfl
            (try simp only [Act.put, List.setIfInBounds_toArray, List.set_cons_zero, List.set_cons_succ])
            (refine wpAnyH_take (i := 51) (oi := { dst := some 90, op := Go.Op.move (Go.Operand.tmp 6), type := 43, pos := "ref.go:36", after := #[{ on := 50, ground := Go.Ground.guard }], guard := some (50, true) }) (v := (bif c6 then Go.undef else (bif bk then (Go.Value.slice (some ⟨b, o, none⟩) nl cd) else Go.undef))) rfl (by kernel_rfl) (by kernel_rfl) (by kernel_rfl) (fun _ _ _ h => h) ?_ HX.out ?_)
            · unfold YieldsIf
              cases c6
              rotate_left
              · exact Or.inr ⟨by rfl, by rfl⟩
              · skip
                cases bk
                · exact Or.inr ⟨by rfl, by rfl⟩
                · skip
                  refine Or.inl ⟨by rfl, ?_⟩
                  intro w' hSw
                  obtain ⟨a0, a1, a2⟩ := HCW.out w' hSw
                  go_simp
                  try with_reducible rfl
            (try simp only [Act.put, List.setIfInBounds_toArray, List.set_cons_zero, List.set_cons_succ])
            (refine wpAnyH_take (i := 52) (oi := { dst := some 91, op := Go.Op.move (Go.Operand.tmp 7), type := 3, pos := "ref.go:36", after := #[{ on := 50, ground := Go.Ground.guard }], guard := some (50, true) }) (v := (bif c6 then Go.undef else (bif bk then (Go.Value.int .i64 (k : Int)) else Go.undef))) rfl (by kernel_rfl) (by kernel_rfl) (by kernel_rfl) (fun _ _ _ h => h) ?_ HX.out ?_)
            · unfold YieldsIf
              cases c6
              rotate_left
              · exact Or.inr ⟨by rfl, by rfl⟩
              · skip
                cases bk
                · exact Or.inr ⟨by rfl, by rfl⟩
                · skip
                  refine Or.inl ⟨by rfl, ?_⟩
                  intro w' hSw
                  obtain ⟨a0, a1, a2⟩ := HCW.out w' hSw
                  go_simp
                  try with_reducible rfl
            (try simp only [Act.put, List.setIfInBounds_toArray, List.set_cons_zero, List.set_cons_succ])
            (refine wpAnyH_take (i := 53) (oi := { dst := some 92, op := Go.Op.binOp Go.BinOp.sub 3 (Go.Operand.tmp 91) (Go.Operand.const (Go.Value.int Go.IntKind.i64 1)) 3, type := 3, pos := "ref.go:36", after := #[{ on := 52, ground := Go.Ground.data }, { on := 50, ground := Go.Ground.guard }], guard := some (50, true) }) (v := (bif c6 then Go.undef else (bif bk then (Go.Value.int .i64 ((k : Int) - 1)) else Go.undef))) rfl (by kernel_rfl) (by kernel_rfl) (by kernel_rfl) (fun _ _ _ h => h) ?_ HX.out ?_)
            · unfold YieldsIf
              cases c6
              rotate_left
              · exact Or.inr ⟨by rfl, by rfl⟩
              · skip
                cases bk
                · exact Or.inr ⟨by rfl, by rfl⟩
                · skip
                  refine Or.inl ⟨by rfl, ?_⟩
                  have gk : (0 : Int) < (k : Int) := of_decide_eq_true hbk
                  have v1 : (1 : Int) ≤ (k : Int) := by omega
                  have v2 : (0 : Int) ≤ (k : Int) - 1 := by omega
                  have v3 : (k : Int) - 1 < (nl : Int) := by omega
                  have v5 : ((k : Int) - 1).toNat = k - 1 := by omega
                  have v4 : IntKind.i64.wrap ((k : Int) - 1) = (k : Int) - 1 := IntWalk.i64_in _ (by omega)
                  intro w' hSw
                  obtain ⟨a0, a1, a2⟩ := HCW.out w' hSw
                  go_simp
                  try with_reducible rfl
            (try simp only [Act.put, List.setIfInBounds_toArray, List.set_cons_zero, List.set_cons_succ])
            (refine wpAnyH_take (i := 54) (oi := { dst := some 93, op := Go.Op.indexAddr 43 (Go.Operand.tmp 90) (Go.Operand.tmp 92), type := 0, pos := "ref.go:36", after := #[{ on := 51, ground := Go.Ground.data }, { on := 53, ground := Go.Ground.data }, { on := 50, ground := Go.Ground.guard }], guard := some (50, true) }) (v := (bif c6 then Go.undef else (bif bk then (Go.Value.pointer (some ⟨b, o + (k - 1) * 3, none⟩)) else Go.undef))) rfl (by kernel_rfl) (by kernel_rfl) (by kernel_rfl) (fun _ _ _ h => h) ?_ HX.out ?_)
            · unfold YieldsIf
              cases c6
              rotate_left
              · exact Or.inr ⟨by rfl, by rfl⟩
              · skip
                cases bk
                · exact Or.inr ⟨by rfl, by rfl⟩
                · skip
                  refine Or.inl ⟨by rfl, ?_⟩
                  have gk : (0 : Int) < (k : Int) := of_decide_eq_true hbk
                  have v1 : (1 : Int) ≤ (k : Int) := by omega
                  have v2 : (0 : Int) ≤ (k : Int) - 1 := by omega
                  have v3 : (k : Int) - 1 < (nl : Int) := by omega
                  have v5 : ((k : Int) - 1).toNat = k - 1 := by omega
                  have v4 : IntKind.i64.wrap ((k : Int) - 1) = (k : Int) - 1 := IntWalk.i64_in _ (by omega)
                  intro w' hSw
                  obtain ⟨a0, a1, a2⟩ := HCW.out w' hSw
                  go_simp
                  try with_reducible rfl
            (try simp only [Act.put, List.setIfInBounds_toArray, List.set_cons_zero, List.set_cons_succ])
            (refine wpAnyH_take (i := 55) (oi := { dst := some 94, op := Go.Op.fieldAddr 113 (Go.Operand.tmp 93) 0, type := 0, pos := "ref.go:36", after := #[{ on := 54, ground := Go.Ground.data }, { on := 50, ground := Go.Ground.guard }], guard := some (50, true) }) (v := (bif c6 then Go.undef else (bif bk then (Go.Value.pointer (some ⟨b, o + (k - 1) * 3, none⟩)) else Go.undef))) rfl (by kernel_rfl) (by kernel_rfl) (by kernel_rfl) (fun _ _ _ h => h) ?_ HX.out ?_)
            · unfold YieldsIf
              cases c6
              rotate_left
              · exact Or.inr ⟨by rfl, by rfl⟩
              · skip
                cases bk
                · exact Or.inr ⟨by rfl, by rfl⟩
                · skip
                  refine Or.inl ⟨by rfl, ?_⟩
                  have gk : (0 : Int) < (k : Int) := of_decide_eq_true hbk
                  have v1 : (1 : Int) ≤ (k : Int) := by omega
                  have v2 : (0 : Int) ≤ (k : Int) - 1 := by omega
                  have v3 : (k : Int) - 1 < (nl : Int) := by omega
                  have v5 : ((k : Int) - 1).toNat = k - 1 := by omega
                  have v4 : IntKind.i64.wrap ((k : Int) - 1) = (k : Int) - 1 := IntWalk.i64_in _ (by omega)
                  intro w' hSw
                  obtain ⟨a0, a1, a2⟩ := HCW.out w' hSw
                  go_simp
                  try with_reducible rfl
            (try simp only [Act.put, List.setIfInBounds_toArray, List.set_cons_zero, List.set_cons_succ])
            (refine wpAnyH_take (i := 56) (oi := { dst := some 95, op := Go.Op.load 3 (Go.Operand.tmp 94), type := 3, pos := "ref.go:36", after := #[{ on := 55, ground := Go.Ground.data }, { on := 50, ground := Go.Ground.guard }], guard := some (50, true) }) (v := (bif c6 then Go.undef else (bif bk then (Go.Value.int .i64 last) else Go.undef))) rfl (by kernel_rfl) (by kernel_rfl) (by kernel_rfl) (fun _ _ _ h => h) ?_ HX.out ?_)
            · unfold YieldsIf
              cases c6
              rotate_left
              · exact Or.inr ⟨by rfl, by rfl⟩
              · skip
                cases bk
                · exact Or.inr ⟨by rfl, by rfl⟩
                · skip
                  refine Or.inl ⟨by rfl, ?_⟩
                  have gk : (0 : Int) < (k : Int) := of_decide_eq_true hbk
                  have v1 : (1 : Int) ≤ (k : Int) := by omega
                  have v2 : (0 : Int) ≤ (k : Int) - 1 := by omega
                  have v3 : (k : Int) - 1 < (nl : Int) := by omega
                  have v5 : ((k : Int) - 1).toNat = k - 1 := by omega
                  have v4 : IntKind.i64.wrap ((k : Int) - 1) = (k : Int) - 1 := IntWalk.i64_in _ (by omega)
                  have HZ := fun W (e : Ext w0 W) => HZW.out W e (by omega)
                  intro w' hSw
                  obtain ⟨a0, a1, a2⟩ := HCW.out w' hSw
                  have z0 := HZ w' hSw
                  go_simp
                  try with_reducible rfl
            (try simp only [Act.put, List.setIfInBounds_toArray, List.set_cons_zero, List.set_cons_succ])
            (refine wpAnyH_take (i := 57) (oi := { dst := some 96, op := Go.Op.move (Go.Operand.tmp 6), type := 43, pos := "ref.go:36", after := #[{ on := 50, ground := Go.Ground.guard }], guard := some (50, true) }) (v := (bif c6 then Go.undef else (bif bk then (Go.Value.slice (some ⟨b, o, none⟩) nl cd) else Go.undef))) rfl (by kernel_rfl) (by kernel_rfl) (by kernel_rfl) (fun _ _ _ h => h) ?_ HX.out ?_)
            · unfold YieldsIf
              cases c6
              rotate_left
              · exact Or.inr ⟨by rfl, by rfl⟩
              · skip
                cases bk
                · exact Or.inr ⟨by rfl, by rfl⟩
                · skip
                  refine Or.inl ⟨by rfl, ?_⟩
                  intro w' hSw
                  obtain ⟨a0, a1, a2⟩ := HCW.out w' hSw
                  go_simp
                  try with_reducible rfl
            (try simp only [Act.put, List.setIfInBounds_toArray, List.set_cons_zero, List.set_cons_succ])
            (refine wpAnyH_take (i := 58) (oi := { dst := some 97, op := Go.Op.move (Go.Operand.tmp 7), type := 3, pos := "ref.go:36", after := #[{ on := 50, ground := Go.Ground.guard }], guard := some (50, true) }) (v := (bif c6 then Go.undef else (bif bk then (Go.Value.int .i64 (k : Int)) else Go.undef))) rfl (by kernel_rfl) (by kernel_rfl) (by kernel_rfl) (fun _ _ _ h => h) ?_ HX.out ?_)
            · unfold YieldsIf
              cases c6
              rotate_left
              · exact Or.inr ⟨by rfl, by rfl⟩
              · skip
                cases bk
                · exact Or.inr ⟨by rfl, by rfl⟩
                · skip
                  refine Or.inl ⟨by rfl, ?_⟩
                  intro w' hSw
                  obtain ⟨a0, a1, a2⟩ := HCW.out w' hSw
                  go_simp
                  try with_reducible rfl
            (try simp only [Act.put, List.setIfInBounds_toArray, List.set_cons_zero, List.set_cons_succ])
            (refine wpAnyH_take (i := 59) (oi := { dst := some 98, op := Go.Op.indexAddr 43 (Go.Operand.tmp 96) (Go.Operand.tmp 97), type := 0, pos := "ref.go:36", after := #[{ on := 57, ground := Go.Ground.data }, { on := 58, ground := Go.Ground.data }, { on := 50, ground := Go.Ground.guard }], guard := some (50, true) }) (v := (bif c6 then Go.undef else (bif bk then (Go.Value.pointer (some ⟨b, o + k * 3, none⟩)) else Go.undef))) rfl (by kernel_rfl) (by kernel_rfl) (by kernel_rfl) (fun _ _ _ h => h) ?_ HX.out ?_)
            · unfold YieldsIf
              cases c6
              rotate_left
              · exact Or.inr ⟨by rfl, by rfl⟩
              · skip
                cases bk
                · exact Or.inr ⟨by rfl, by rfl⟩
                · skip
                  refine Or.inl ⟨by rfl, ?_⟩
                  intro w' hSw
                  obtain ⟨a0, a1, a2⟩ := HCW.out w' hSw
                  go_simp
                  try with_reducible rfl
            (try simp only [Act.put, List.setIfInBounds_toArray, List.set_cons_zero, List.set_cons_succ])
            (refine wpAnyH_take (i := 60) (oi := { dst := some 99, op := Go.Op.fieldAddr 113 (Go.Operand.tmp 98) 0, type := 0, pos := "ref.go:36", after := #[{ on := 59, ground := Go.Ground.data }, { on := 50, ground := Go.Ground.guard }], guard := some (50, true) }) (v := (bif c6 then Go.undef else (bif bk then (Go.Value.pointer (some ⟨b, o + k * 3, none⟩)) else Go.undef))) rfl (by kernel_rfl) (by kernel_rfl) (by kernel_rfl) (fun _ _ _ h => h) ?_ HX.out ?_)
            · unfold YieldsIf
              cases c6
              rotate_left
              · exact Or.inr ⟨by rfl, by rfl⟩
              · skip
                cases bk
                · exact Or.inr ⟨by rfl, by rfl⟩
                · skip
                  refine Or.inl ⟨by rfl, ?_⟩
                  intro w' hSw
                  obtain ⟨a0, a1, a2⟩ := HCW.out w' hSw
                  go_simp
                  try with_reducible rfl
            (try simp only [Act.put, List.setIfInBounds_toArray, List.set_cons_zero, List.set_cons_succ])
            (refine wpAnyH_take (i := 61) (oi := { dst := some 100, op := Go.Op.load 3 (Go.Operand.tmp 99), type := 3, pos := "ref.go:36", after := #[{ on := 60, ground := Go.Ground.data }, { on := 50, ground := Go.Ground.guard }], guard := some (50, true) }) (v := (bif c6 then Go.undef else (bif bk then (Go.Value.int .i64 tk) else Go.undef))) rfl (by kernel_rfl) (by kernel_rfl) (by kernel_rfl) (fun _ _ _ h => h) ?_ HX.out ?_)
            · unfold YieldsIf
              cases c6
              rotate_left
              · exact Or.inr ⟨by rfl, by rfl⟩
              · skip
                cases bk
                · exact Or.inr ⟨by rfl, by rfl⟩
                · skip
                  refine Or.inl ⟨by rfl, ?_⟩
                  intro w' hSw
                  obtain ⟨a0, a1, a2⟩ := HCW.out w' hSw
                  go_simp
                  try with_reducible rfl
            (try simp only [Act.put, List.setIfInBounds_toArray, List.set_cons_zero, List.set_cons_succ])
            (refine wpAnyH_take (i := 62) (oi := { dst := some 101, op := Go.Op.binOp Go.BinOp.geq 3 (Go.Operand.tmp 95) (Go.Operand.tmp 100) 3, type := 4, pos := "ref.go:36", after := #[{ on := 56, ground := Go.Ground.data }, { on := 61, ground := Go.Ground.data }, { on := 50, ground := Go.Ground.guard }], guard := some (50, true) }) (v := (bif c6 then Go.undef else (bif bk then (Go.Value.bool b7) else Go.undef))) rfl (by kernel_rfl) (by kernel_rfl) (by kernel_rfl) (fun _ _ _ h => h) ?_ HX.out ?_)
            · unfold YieldsIf
              cases c6
              rotate_left
              · exact Or.inr ⟨by rfl, by rfl⟩
              · skip
                cases bk
                · exact Or.inr ⟨by rfl, by rfl⟩
                · skip
                  refine Or.inl ⟨by rfl, ?_⟩
                  subst hb7
                  intro w' hSw
                  obtain ⟨a0, a1, a2⟩ := HCW.out w' hSw
                  go_simp
                  try with_reducible rfl
            (try simp only [Act.put, List.setIfInBounds_toArray, List.set_cons_zero, List.set_cons_succ])
            (refine wpAnyH_take (i := 63) (oi := { dst := some 102, op := Go.Op.pick (Go.Operand.tmp 89) (Go.Operand.tmp 101) (Go.Operand.const (Go.Value.bool false)), type := 4, pos := "ref.go:36", after := #[{ on := 50, ground := Go.Ground.data }, { on := 62, ground := Go.Ground.data }, { on := 47, ground := Go.Ground.guard }], guard := some (47, false) }) (v := (bif c6 then Go.undef else (Go.Value.bool d7))) rfl (by kernel_rfl) (by kernel_rfl) (by kernel_rfl) (fun _ _ _ h => h) ?_ HX.out ?_)
            · unfold YieldsIf
              cases c6
              rotate_left
              · exact Or.inr ⟨by rfl, by rfl⟩
              · skip
                subst hd7
                cases bk <;>
                  (refine Or.inl ⟨by rfl, ?_⟩; intro w' hSw; go_simp; try with_reducible rfl)
            (try simp only [Act.put, List.setIfInBounds_toArray, List.set_cons_zero, List.set_cons_succ])
            (refine wpAnyH_take (i := 64) (oi := { dst := some 103, op := Go.Op.pick (Go.Operand.tmp 86) (Go.Operand.const (Go.Value.bool true)) (Go.Operand.tmp 102), type := 4, pos := "ref.go:36", after := #[{ on := 47, ground := Go.Ground.data }, { on := 63, ground := Go.Ground.data }], guard := none }) (v := (Go.Value.bool (!bb))) rfl (by kernel_rfl) (by kernel_rfl) (by kernel_rfl) (fun _ _ _ h => h) ?_ HX.out ?_)
            · unfold YieldsIf
              cases c6 <;> cases d7 <;> cases bb <;> first | (exfalso; revert hbad; decide) | (refine Or.inl ⟨by rfl, ?_⟩; intro w' hSw; go_simp; try with_reducible rfl)
            (try simp only [Act.put, List.setIfInBounds_toArray, List.set_cons_zero, List.set_cons_succ])
            refine wpAnyH_done (by kernel_rfl) ?_ _
            go_wp2_with fail
            go_meet
            exact ⟨rfl, HX.out⟩
          case rest =>
            obtain ⟨rfl, hE2⟩ := hcut
            obtain ⟨wf, rfl⟩ : ∃ wf : World, wf = wc := ⟨_, rfl⟩
            have HE2 := Lib.hid hE2
            clear hE2 hbad hd7 hb7 hbk hc6 hb6 hc5 hb5 hc4 hb4 hc3 hb3 hc2 hb2 hb1
            cases bb with
            | true =>
              have HRT := Lib.hid (HRN.out.trans (Bool.true_and _))
              go_wp2_with fail
              go_roundg (gi - 1)
              case measure => omega
              case rel => exact ⟨k + 1, tk, by omega, by go_num, HE2.out, HTL.out trivial, fun h => by omega, HNX.out, HRT.out⟩
            | false =>
              have HRF := Lib.hid (HRN.out.trans (Bool.false_and _))
              go_wp2_with fail
              go_ret
              exact ⟨by rw [HRF.out]; rfl, ext_trans HE0.out HE2.out⟩
        · obtain rfl : gi = 0 := by omega
          obtain rfl : k = nl := by omega
          have y4 : ¬ (k : Int) < (k : Int) := by omega
          have HRN : Hid (R = ((x.cams.drop (p + 1)).all (mayCam n) && mayM n 0 x.marks)) := Lib.hid (by
            rw [HRK.out, List.drop_eq_nil_of_le (by rw [HLEN.out]; omega), mayC, Bool.true_and])
          go_wp2_with fail
          go_roundg (gh - 1)
          case measure => omega
          case rel => exact ⟨p + 1, by omega, by go_num, HE.out, HRN.out⟩
    · obtain rfl : gh = 0 := by omega
      obtain rfl : p = 4 := by omega
      have HRM : Hid (R = mayM n 0 (x.marks.drop 0)) := Lib.hid (by rw [HRP.out]; simp [Tk.cams])
      have h4 := HM4.out wi HE.out
      go_wp2_with fail
      clear h4
      go_loopg [8] nm (fun gi iv wr => ∃ (k : Nat) (last : Int), k + gi = nm ∧ iv = .int .i64 (k : Int) ∧ Ext w0 wr ∧ 0 ≤ last ∧ (k = 0 → last = 0) ∧ (∀ j, k = j + 1 → ∀ hj : j < x.marks.length, x.marks[j].tick = last) ∧ R = mayM n last (x.marks.drop k))
      case atStart => exact ⟨0, 0, by omega, rfl, HE.out, by omega, fun _ => rfl, fun j h => by omega, HRM.out⟩
      case round =>
        clear HE HRM HRP
        obtain ⟨k, last, hk, rfl, hE, hlg, hl0, hlp, hRk⟩ := hrel
        obtain ⟨wk, rfl⟩ : ∃ wi : World, wi = wr := ⟨_, rfl⟩
        obtain ⟨gi, rfl⟩ : ∃ gh : Nat, gh = gk := ⟨_, rfl⟩
        have HE1 := Lib.hid hE; have HRK := Lib.hid hRk; have HLG := Lib.hid hlg; have HL0 := Lib.hid hl0; have HLP := Lib.hid hlp
        clear hE hRk hlg hl0 hlp
        have y3 : (0 : Int) ≤ (k : Int) := by omega
        have h4 := HM4.out wk HE1.out
        by_cases hki : k < nm
        · have y4 : (k : Int) < (nm : Int) := by omega
          have hke : k < x.marks.length := by rw [HLM.out]; exact hki
          have hmk := HB.out.2.2.2.2.1
          rw [← HNM.out] at hmk
          obtain ⟨b, o, hA, hbw, hc⟩ := hmk.2 (by omega)
          rw [hA] at h4
          have q := fun i hi => (HE1.out.cell (p := ⟨b, o + k * 2 + i, none⟩) hbw).trans (hc k hke i hi)
          have HDR : Hid (x.marks.drop k = x.marks[k] :: x.marks.drop (k + 1)) := Lib.hid (List.drop_eq_getElem_cons hke)
          have HNX : Hid (∀ j, k + 1 = j + 1 → ∀ hj : j < x.marks.length, x.marks[j].tick = x.marks[k].tick) := Lib.hid (fun j h hj => by simp only [show j = k by omega])
          have hsz := HB.out.2.2.2.2.2.2.2.2 _ (List.getElem_mem hke)
          obtain ⟨u, hu⟩ : ∃ q, q = x.marks[k] := ⟨_, rfl⟩
          rw [← hu] at q HDR HNX hsz
          clear hu
          obtain ⟨tk, s⟩ := u
          have a0 := q 0 (by omega); have a1 := q 1 (by omega)
          simp only [cM, Nat.add_zero, List.getElem?_cons_zero, List.getElem?_cons_succ] at a0 a1 hsz
          simp only at HNX
          obtain ⟨bb, hbb⟩ : ∃ b, b = (decide (last ≤ tk) && decide (okM n ⟨tk, s⟩)) := ⟨_, rfl⟩
          have HT : Hid (last ≤ tk ∧ okM n ⟨tk, s⟩ → bb = true) := Lib.hid (fun h => by rw [hbb, decide_eq_true h.1, decide_eq_true h.2]; rfl)
          have HF : Hid (¬ (last ≤ tk ∧ okM n ⟨tk, s⟩) → bb = false) := Lib.hid (fun h => by
            rw [hbb]
            by_cases h1 : last ≤ tk
            · rw [decide_eq_false (fun h2 => h ⟨h1, h2⟩), Bool.and_false]
            · rw [decide_eq_false h1, Bool.false_and])
          have HRN : Hid (R = (bb && mayM n tk (x.marks.drop (k + 1)))) := Lib.hid (by
            rw [HRK.out, HDR.out, mayM, hbb, Bool.and_assoc])
          have HTL : Hid (bb = true → 0 ≤ tk) := Lib.hid (fun h => by rw [hbb, Bool.and_eq_true] at h; have := of_decide_eq_true h.2; exact this.1)
          have hl0' := HL0.out; have hlg' := HLG.out
          obtain ⟨b1, hb1⟩ : ∃ c, decide (tk < 0) = c := ⟨_, rfl⟩
          obtain ⟨b2, hb2⟩ : ∃ c, decide (n < tk) = c := ⟨_, rfl⟩
          obtain ⟨c2, hc2⟩ : ∃ c, (b1 || b2) = c := ⟨_, rfl⟩
          obtain ⟨b3, hb3⟩ : ∃ c, decide ((40 : Int) < (s.size : Int)) = c := ⟨_, rfl⟩
          obtain ⟨c3, hc3⟩ : ∃ c, (c2 || b3) = c := ⟨_, rfl⟩
          obtain ⟨bk, hbk⟩ : ∃ c, decide ((0 : Int) < (k : Int)) = c := ⟨_, rfl⟩
          obtain ⟨b7, hb7⟩ : ∃ c, decide (tk < last) = c := ⟨_, rfl⟩
          obtain ⟨d7, hd7⟩ : ∃ c, (bk && b7) = c := ⟨_, rfl⟩
          have hbad : (c3 || d7) = !bb := by
            rw [hbb, ← hd7, ← hc3, ← hc2, ← hb1, ← hb2, ← hb3, ← hbk, ← hb7, Bool.eq_iff_iff]
            simp only [Bool.or_eq_true, Bool.and_eq_true, decide_eq_true_iff, Bool.not_eq_true', Bool.and_eq_false_iff, decide_eq_false_iff_not]
            unfold okM
            simp only
            clear hb1 hb2 hb3 hb7 hbk hc2 hc3 hd7 hbb
            omega
          clear hl0' hlg'
          have HXE := Lib.hid (ext_alloc (Ext.rfl' wk) (.cells #[.int .i64 tk, .string s] 49))
          have HXB := Lib.hid (Blk.new wk 49 #[.int .i64 tk, .string s])
          replace hb1 := Lib.hid hb1; replace hb2 := Lib.hid hb2; replace hb3 := Lib.hid hb3; replace hb7 := Lib.hid hb7; replace hbk := Lib.hid hbk; replace hc2 := Lib.hid hc2; replace hc3 := Lib.hid hc3; replace hd7 := Lib.hid hd7; replace hbad := Lib.hid hbad
          clear q
          go_upto_region 18 with fail
          clear h4 a0 a1
          obtain ⟨wx, hwx⟩ : ∃ q, q = wk.alloc (.cells #[.int .i64 tk, .string s] 49) := ⟨_, rfl⟩
          rw [← hwx] at HXE HXB ⊢
          clear hwx
          obtain ⟨xb, hxb⟩ : ∃ q, q = wk.heap.size := ⟨_, rfl⟩
          rw [← hxb] at HXB ⊢
          clear hxb
          have HE := Lib.hid (ext_trans HE1.out HXE.out)
          have HCW : Hid (∀ W, (Ext w0 W ∧ Blk W xb 49 #[.int .i64 tk, .string s]) → W.cell? ⟨xb, 0, none⟩ = some (.int .i64 tk) ∧ W.cell? ⟨xb, 1, none⟩ = some (.string s) ∧ W.cell? ⟨hb, 4, none⟩ = some (.slice (some ⟨b, o, none⟩) nm t.sm.c)) := Lib.hid (fun W e => by
            have x0 := e.2.cell 0; have x1 := e.2.cell 1
            simp only [List.getElem?_toArray, List.getElem?_cons_zero, List.getElem?_cons_succ] at x0 x1
            exact ⟨x0, x1, (HM4.out W e.1).trans (by rw [hA])⟩)
          have HZW : Hid (∀ W, Ext w0 W → 0 < k → W.cell? ⟨b, o + (k - 1) * 2, none⟩ = some (.int .i64 last)) := Lib.hid (fun W e h => by
            have hk1 : k - 1 < x.marks.length := by omega
            have r0 := (e.cell (p := ⟨b, o + (k - 1) * 2 + 0, none⟩) hbw).trans (hc (k - 1) hk1 0 (by omega))
            simp only [cM, Nat.add_zero, List.getElem?_cons_zero, HLP.out (k - 1) (by omega) hk1] at r0
            exact r0)
          clear hc hbb HRK HDR hmk hA HXE HT HF
          go_cut [146] (fun c wx => c = .bool (!bb) ∧ Ext w0 wx)
          case first =>
            replace hb1 := hb1.out; replace hb2 := hb2.out; replace hb3 := hb3.out; replace hb7 := hb7.out; replace hbk := hbk.out; replace hc2 := hc2.out; replace hc3 := hc3.out; replace hd7 := hd7.out; replace hbad := hbad.out
            have HX : Hid (Ext w0 wx.drew ∧ Blk wx.drew xb 49 #[.int .i64 tk, .string s]) := Lib.hid ⟨ext_drew HE.out, Blk.drew HXB.out⟩
            refine wp_region_held_drew (S := fun W => Ext w0 W ∧ Blk W xb 49 #[.int .i64 tk, .string s]) hmxL HX.out (fun _ => ?_)
            generalize wx.drew = WA at *
            (refine wpAnyH_take (i := 0) (oi := { dst := some 116, op := Go.Op.fieldAddr 49 (Go.Operand.tmp 9) 0, type := 0, pos := "ref.go:43", after := #[], guard := none }) (v := (Go.Value.pointer (some ⟨xb, 0, none⟩))) rfl (by kernel_rfl) (by kernel_rfl) (by kernel_rfl) (fun _ _ _ h => h) ?_ HX.out ?_)
            · unfold YieldsIf
              refine Or.inl ⟨by rfl, ?_⟩
              intro w' hSw
              obtain ⟨x0, x1, h4⟩ := HCW.out w' hSw
              go_simp
              try with_reducible rfl
            (try simp only [Act.put, List.setIfInBounds_toArray, List.set_cons_zero, List.set_cons_succ])
            (refine wpAnyH_take (i := 1) (oi := { dst := some 117, op := Go.Op.load 3 (Go.Operand.tmp 116), type := 3, pos := "ref.go:43", after := #[{ on := 0, ground := Go.Ground.data }], guard := none }) (v := (Go.Value.int .i64 tk)) rfl (by kernel_rfl) (by kernel_rfl) (by kernel_rfl) (fun _ _ _ h => h) ?_ HX.out ?_)
            · unfold YieldsIf
              refine Or.inl ⟨by rfl, ?_⟩
              intro w' hSw
              obtain ⟨x0, x1, h4⟩ := HCW.out w' hSw
              go_simp
              try with_reducible rfl
            (try simp only [Act.put, List.setIfInBounds_toArray, List.set_cons_zero, List.set_cons_succ])
            (refine wpAnyH_take (i := 2) (oi := { dst := some 118, op := Go.Op.binOp Go.BinOp.lss 3 (Go.Operand.tmp 117) (Go.Operand.const (Go.Value.int Go.IntKind.i64 0)) 3, type := 4, pos := "ref.go:43", after := #[{ on := 1, ground := Go.Ground.data }], guard := none }) (v := (Go.Value.bool b1)) rfl (by kernel_rfl) (by kernel_rfl) (by kernel_rfl) (fun _ _ _ h => h) ?_ HX.out ?_)
            · unfold YieldsIf
              refine Or.inl ⟨by rfl, ?_⟩
              subst hb1
              intro w' hSw
              obtain ⟨x0, x1, h4⟩ := HCW.out w' hSw
              go_simp
              try with_reducible rfl
            (try simp only [Act.put, List.setIfInBounds_toArray, List.set_cons_zero, List.set_cons_succ])
            (refine wpAnyH_take (i := 3) (oi := { dst := some 119, op := Go.Op.move (Go.Operand.tmp 118), type := 4, pos := "ref.go:43", after := #[{ on := 2, ground := Go.Ground.data }], guard := none }) (v := (Go.Value.bool b1)) rfl (by kernel_rfl) (by kernel_rfl) (by kernel_rfl) (fun _ _ _ h => h) ?_ HX.out ?_)
            · unfold YieldsIf
              refine Or.inl ⟨by rfl, ?_⟩
              intro w' hSw
              obtain ⟨x0, x1, h4⟩ := HCW.out w' hSw
              go_simp
              try with_reducible rfl
            (try simp only [Act.put, List.setIfInBounds_toArray, List.set_cons_zero, List.set_cons_succ])
            (refine wpAnyH_take (i := 4) (oi := { dst := some 120, op := Go.Op.fieldAddr 49 (Go.Operand.tmp 9) 0, type := 0, pos := "ref.go:43", after := #[{ on := 3, ground := Go.Ground.guard }], guard := some (3, false) }) (v := (bif b1 then Go.undef else (Go.Value.pointer (some ⟨xb, 0, none⟩)))) rfl (by kernel_rfl) (by kernel_rfl) (by kernel_rfl) (fun _ _ _ h => h) ?_ HX.out ?_)
            · unfold YieldsIf
              cases b1
              rotate_left
              · exact Or.inr ⟨by rfl, by rfl⟩
              · skip
                refine Or.inl ⟨by rfl, ?_⟩
                intro w' hSw
                obtain ⟨x0, x1, h4⟩ := HCW.out w' hSw
                go_simp
                try with_reducible rfl
            (try simp only [Act.put, List.setIfInBounds_toArray, List.set_cons_zero, List.set_cons_succ])
            (refine wpAnyH_take (i := 5) (oi := { dst := some 121, op := Go.Op.load 3 (Go.Operand.tmp 120), type := 3, pos := "ref.go:43", after := #[{ on := 4, ground := Go.Ground.data }, { on := 3, ground := Go.Ground.guard }], guard := some (3, false) }) (v := (bif b1 then Go.undef else (Go.Value.int .i64 tk))) rfl (by kernel_rfl) (by kernel_rfl) (by kernel_rfl) (fun _ _ _ h => h) ?_ HX.out ?_)
            · unfold YieldsIf
              cases b1
              rotate_left
              · exact Or.inr ⟨by rfl, by rfl⟩
              · skip
                refine Or.inl ⟨by rfl, ?_⟩
                intro w' hSw
                obtain ⟨x0, x1, h4⟩ := HCW.out w' hSw
                go_simp
                try with_reducible rfl
            (try simp only [Act.put, List.setIfInBounds_toArray, List.set_cons_zero, List.set_cons_succ])
            (refine wpAnyH_take (i := 6) (oi := { dst := some 122, op := Go.Op.move (Go.Operand.tmp 1), type := 3, pos := "ref.go:43", after := #[{ on := 3, ground := Go.Ground.guard }], guard := some (3, false) }) (v := (bif b1 then Go.undef else (Go.Value.int .i64 n))) rfl (by kernel_rfl) (by kernel_rfl) (by kernel_rfl) (fun _ _ _ h => h) ?_ HX.out ?_)
            · unfold YieldsIf
              cases b1
              rotate_left
              · exact Or.inr ⟨by rfl, by rfl⟩
              · skip
                refine Or.inl ⟨by rfl, ?_⟩
                intro w' hSw
                obtain ⟨x0, x1, h4⟩ := HCW.out w' hSw
                go_simp
                try with_reducible rfl
            (try simp only [Act.put, List.setIfInBounds_toArray, List.set_cons_zero, List.set_cons_succ])
            (refine wpAnyH_take (i := 7) (oi := { dst := some 123, op := Go.Op.binOp Go.BinOp.gtr 3 (Go.Operand.tmp 121) (Go.Operand.tmp 122) 3, type := 4, pos := "ref.go:43", after := #[{ on := 5, ground := Go.Ground.data }, { on := 6, ground := Go.Ground.data }, { on := 3, ground := Go.Ground.guard }], guard := some (3, false) }) (v := (bif b1 then Go.undef else (Go.Value.bool b2))) rfl (by kernel_rfl) (by kernel_rfl) (by kernel_rfl) (fun _ _ _ h => h) ?_ HX.out ?_)
            · unfold YieldsIf
              cases b1
              rotate_left
              · exact Or.inr ⟨by rfl, by rfl⟩
              · skip
                refine Or.inl ⟨by rfl, ?_⟩
                subst hb2
                intro w' hSw
                obtain ⟨x0, x1, h4⟩ := HCW.out w' hSw
                go_simp
                try with_reducible rfl
            (try simp only [Act.put, List.setIfInBounds_toArray, List.set_cons_zero, List.set_cons_succ])
            (refine wpAnyH_take (i := 8) (oi := { dst := some 124, op := Go.Op.pick (Go.Operand.tmp 119) (Go.Operand.const (Go.Value.bool true)) (Go.Operand.tmp 123), type := 4, pos := "ref.go:43", after := #[{ on := 3, ground := Go.Ground.data }, { on := 7, ground := Go.Ground.data }], guard := none }) (v := (Go.Value.bool c2)) rfl (by kernel_rfl) (by kernel_rfl) (by kernel_rfl) (fun _ _ _ h => h) ?_ HX.out ?_)
            · unfold YieldsIf
              subst hc2
              cases b1 <;>
                (refine Or.inl ⟨by rfl, ?_⟩; intro w' hSw; go_simp; try with_reducible rfl)
            (try simp only [Act.put, List.setIfInBounds_toArray, List.set_cons_zero, List.set_cons_succ])
            (refine wpAnyH_take (i := 9) (oi := { dst := some 125, op := Go.Op.move (Go.Operand.tmp 124), type := 4, pos := "ref.go:43", after := #[{ on := 8, ground := Go.Ground.data }, { on := 3, ground := Go.Ground.chain }], guard := none }) (v := (Go.Value.bool c2)) rfl (by kernel_rfl) (by kernel_rfl) (by kernel_rfl) (fun _ _ _ h => h) ?_ HX.out ?_)
            · unfold YieldsIf
              refine Or.inl ⟨by rfl, ?_⟩
              intro w' hSw
              obtain ⟨x0, x1, h4⟩ := HCW.out w' hSw
              go_simp
              try with_reducible rfl
            (try simp only [Act.put, List.setIfInBounds_toArray, List.set_cons_zero, List.set_cons_succ])
            (refine wpAnyH_take (i := 10) (oi := { dst := some 126, op := Go.Op.fieldAddr 49 (Go.Operand.tmp 9) 1, type := 0, pos := "ref.go:43", after := #[{ on := 9, ground := Go.Ground.guard }], guard := some (9, false) }) (v := (bif c2 then Go.undef else (Go.Value.pointer (some ⟨xb, 1, none⟩)))) rfl (by kernel_rfl) (by kernel_rfl) (by kernel_rfl) (fun _ _ _ h => h) ?_ HX.out ?_)
            · unfold YieldsIf
              cases c2
              rotate_left
              · exact Or.inr ⟨by rfl, by rfl⟩
              · skip
                refine Or.inl ⟨by rfl, ?_⟩
                intro w' hSw
                obtain ⟨x0, x1, h4⟩ := HCW.out w' hSw
                go_simp
                try with_reducible rfl
            (try simp only [Act.put, List.setIfInBounds_toArray, List.set_cons_zero, List.set_cons_succ])
            (refine wpAnyH_take (i := 11) (oi := { dst := some 127, op := Go.Op.load 9 (Go.Operand.tmp 126), type := 9, pos := "ref.go:43", after := #[{ on := 10, ground := Go.Ground.data }, { on := 9, ground := Go.Ground.guard }], guard := some (9, false) }) (v := (bif c2 then Go.undef else (Go.Value.string s))) rfl (by kernel_rfl) (by kernel_rfl) (by kernel_rfl) (fun _ _ _ h => h) ?_ HX.out ?_)
            · unfold YieldsIf
              cases c2
              rotate_left
              · exact Or.inr ⟨by rfl, by rfl⟩
              · skip
                refine Or.inl ⟨by rfl, ?_⟩
                intro w' hSw
                obtain ⟨x0, x1, h4⟩ := HCW.out w' hSw
                go_simp
                try with_reducible rfl
            (try simp only [Act.put, List.setIfInBounds_toArray, List.set_cons_zero, List.set_cons_succ])
            (refine wpAnyH_take (i := 12) (oi := { dst := some 128, op := Go.Op.call { callee := Go.Callee.builtin Go.Builtin.len, args := #[Go.Operand.tmp 127], argTypes := #[9] }, type := 3, pos := "ref.go:43", after := #[{ on := 11, ground := Go.Ground.data }, { on := 9, ground := Go.Ground.guard }], guard := some (9, false) }) (v := (bif c2 then Go.undef else (Go.Value.int .i64 (s.size : Int)))) rfl (by kernel_rfl) (by kernel_rfl) (by kernel_rfl) (fun _ _ _ h => h) ?_ HX.out ?_)
            · unfold YieldsIf
              cases c2
              rotate_left
              · exact Or.inr ⟨by rfl, by rfl⟩
              · skip
                refine Or.inl ⟨by rfl, ?_⟩
                intro w' hSw
                obtain ⟨x0, x1, h4⟩ := HCW.out w' hSw
                go_simp
                try with_reducible rfl
            (try simp only [Act.put, List.setIfInBounds_toArray, List.set_cons_zero, List.set_cons_succ])
            (refine wpAnyH_take (i := 13) (oi := { dst := some 129, op := Go.Op.binOp Go.BinOp.gtr 3 (Go.Operand.tmp 128) (Go.Operand.const (Go.Value.int Go.IntKind.i64 40)) 3, type := 4, pos := "ref.go:43", after := #[{ on := 12, ground := Go.Ground.data }, { on := 9, ground := Go.Ground.guard }], guard := some (9, false) }) (v := (bif c2 then Go.undef else (Go.Value.bool b3))) rfl (by kernel_rfl) (by kernel_rfl) (by kernel_rfl) (fun _ _ _ h => h) ?_ HX.out ?_)
            · unfold YieldsIf
              cases c2
              rotate_left
              · exact Or.inr ⟨by rfl, by rfl⟩
              · skip
                refine Or.inl ⟨by rfl, ?_⟩
                subst hb3
                intro w' hSw
                obtain ⟨x0, x1, h4⟩ := HCW.out w' hSw
                go_simp
                try with_reducible rfl
            (try simp only [Act.put, List.setIfInBounds_toArray, List.set_cons_zero, List.set_cons_succ])
            (refine wpAnyH_take (i := 14) (oi := { dst := some 130, op := Go.Op.pick (Go.Operand.tmp 125) (Go.Operand.const (Go.Value.bool true)) (Go.Operand.tmp 129), type := 4, pos := "ref.go:43", after := #[{ on := 9, ground := Go.Ground.data }, { on := 13, ground := Go.Ground.data }], guard := none }) (v := (Go.Value.bool c3)) rfl (by kernel_rfl) (by kernel_rfl) (by kernel_rfl) (fun _ _ _ h => h) ?_ HX.out ?_)
            · unfold YieldsIf
              subst hc3
              cases c2 <;>
                (refine Or.inl ⟨by rfl, ?_⟩; intro w' hSw; go_simp; try with_reducible rfl)
            (try simp only [Act.put, List.setIfInBounds_toArray, List.set_cons_zero, List.set_cons_succ])
            (refine wpAnyH_take (i := 15) (oi := { dst := some 131, op := Go.Op.move (Go.Operand.tmp 130), type := 4, pos := "ref.go:43", after := #[{ on := 14, ground := Go.Ground.data }, { on := 9, ground := Go.Ground.chain }], guard := none }) (v := (Go.Value.bool c3)) rfl (by kernel_rfl) (by kernel_rfl) (by kernel_rfl) (fun _ _ _ h => h) ?_ HX.out ?_)
            · unfold YieldsIf
              refine Or.inl ⟨by rfl, ?_⟩
              intro w' hSw
              obtain ⟨x0, x1, h4⟩ := HCW.out w' hSw
              go_simp
              try with_reducible rfl
            (try simp only [Act.put, List.setIfInBounds_toArray, List.set_cons_zero, List.set_cons_succ])
            (refine wpAnyH_take (i := 16) (oi := { dst := some 132, op := Go.Op.move (Go.Operand.tmp 8), type := 3, pos := "ref.go:43", after := #[{ on := 15, ground := Go.Ground.guard }], guard := some (15, false) }) (v := (bif c3 then Go.undef else (Go.Value.int .i64 (k : Int)))) rfl (by kernel_rfl) (by kernel_rfl) (by kernel_rfl) (fun _ _ _ h => h) ?_ HX.out ?_)
            · unfold YieldsIf
              cases c3
              rotate_left
              · exact Or.inr ⟨by rfl, by rfl⟩
              · skip
                refine Or.inl ⟨by rfl, ?_⟩
                intro w' hSw
                obtain ⟨x0, x1, h4⟩ := HCW.out w' hSw
                go_simp
                try with_reducible rfl
            (try simp only [Act.put, List.setIfInBounds_toArray, List.set_cons_zero, List.set_cons_succ])
            (refine wpAnyH_take (i := 17) (oi := { dst := some 133, op := Go.Op.binOp Go.BinOp.gtr 3 (Go.Operand.tmp 132) (Go.Operand.const (Go.Value.int Go.IntKind.i64 0)) 3, type := 4, pos := "ref.go:43", after := #[{ on := 16, ground := Go.Ground.data }, { on := 15, ground := Go.Ground.guard }], guard := some (15, false) }) (v := (bif c3 then Go.undef else (Go.Value.bool bk))) rfl (by kernel_rfl) (by kernel_rfl) (by kernel_rfl) (fun _ _ _ h => h) ?_ HX.out ?_)
            · unfold YieldsIf
              cases c3
              rotate_left
              · exact Or.inr ⟨by rfl, by rfl⟩
              · skip
                refine Or.inl ⟨by rfl, ?_⟩
                subst hbk
                intro w' hSw
                obtain ⟨x0, x1, h4⟩ := HCW.out w' hSw
                go_simp
                try with_reducible rfl
            (try simp only [Act.put, List.setIfInBounds_toArray, List.set_cons_zero, List.set_cons_succ])
            (refine wpAnyH_take (i := 18) (oi := { dst := some 134, op := Go.Op.move (Go.Operand.tmp 133), type := 4, pos := "ref.go:43", after := #[{ on := 17, ground := Go.Ground.data }, { on := 15, ground := Go.Ground.chain }, { on := 15, ground := Go.Ground.guard }], guard := some (15, false) }) (v := (bif c3 then Go.undef else (Go.Value.bool bk))) rfl (by kernel_rfl) (by kernel_rfl) (by kernel_rfl) (fun _ _ _ h => h) ?_ HX.out ?_)
            · unfold YieldsIf
              cases c3
              rotate_left
              · exact Or.inr ⟨by rfl, by rfl⟩
              · skip
                refine Or.inl ⟨by rfl, ?_⟩
                intro w' hSw
                obtain ⟨x0, x1, h4⟩ := HCW.out w' hSw
                go_simp
                try with_reducible rfl
            (try simp only [Act.put, List.setIfInBounds_toArray, List.set_cons_zero, List.set_cons_succ])
            (refine wpAnyH_take (i := 19) (oi := { dst := some 135, op := Go.Op.fieldAddr 47 (Go.Operand.tmp 2) 1, type := 0, pos := "ref.go:43", after := #[{ on := 18, ground := Go.Ground.guard }], guard := some (18, true) }) (v := (bif c3 then Go.undef else (bif bk then (Go.Value.pointer (some ⟨hb, 4, none⟩)) else Go.undef))) rfl (by kernel_rfl) (by kernel_rfl) (by kernel_rfl) (fun _ _ _ h => h) ?_ HX.out ?_)
            · unfold YieldsIf
              cases c3
              rotate_left
              · exact Or.inr ⟨by rfl, by rfl⟩
              · skip
                cases bk
                · exact Or.inr ⟨by rfl, by rfl⟩
                · skip
                  refine Or.inl ⟨by rfl, ?_⟩
                  intro w' hSw
                  obtain ⟨x0, x1, h4⟩ := HCW.out w' hSw
                  go_simp
                  try with_reducible rfl
            (try simp only [Act.put, List.setIfInBounds_toArray, List.set_cons_zero, List.set_cons_succ])
            (refine wpAnyH_take (i := 20) (oi := { dst := some 136, op := Go.Op.load 45 (Go.Operand.tmp 135), type := 45, pos := "ref.go:43", after := #[{ on := 19, ground := Go.Ground.data }, { on := 18, ground := Go.Ground.guard }], guard := some (18, true) }) (v := (bif c3 then Go.undef else (bif bk then (Go.Value.slice (some ⟨b, o, none⟩) nm t.sm.c) else Go.undef))) rfl (by kernel_rfl) (by kernel_rfl) (by kernel_rfl) (fun _ _ _ h => h) ?_ HX.out ?_)
            · unfold YieldsIf
              cases c3
              rotate_left
              · exact Or.inr ⟨by rfl, by rfl⟩
              · skip
                cases bk
                · exact Or.inr ⟨by rfl, by rfl⟩
                · skip
                  refine Or.inl ⟨by rfl, ?_⟩
                  intro w' hSw
                  obtain ⟨x0, x1, h4⟩ := HCW.out w' hSw
                  go_simp
                  try with_reducible rfl
            (try simp only [Act.put, List.setIfInBounds_toArray, List.set_cons_zero, List.set_cons_succ])
            (refine wpAnyH_take (i := 21) (oi := { dst := some 137, op := Go.Op.move (Go.Operand.tmp 8), type := 3, pos := "ref.go:43", after := #[{ on := 18, ground := Go.Ground.guard }], guard := some (18, true) }) (v := (bif c3 then Go.undef else (bif bk then (Go.Value.int .i64 (k : Int)) else Go.undef))) rfl (by kernel_rfl) (by kernel_rfl) (by kernel_rfl) (fun _ _ _ h => h) ?_ HX.out ?_)
            · unfold YieldsIf
              cases c3
              rotate_left
              · exact Or.inr ⟨by rfl, by rfl⟩
              · skip
                cases bk
                · exact Or.inr ⟨by rfl, by rfl⟩
                · skip
                  refine Or.inl ⟨by rfl, ?_⟩
                  intro w' hSw
                  obtain ⟨x0, x1, h4⟩ := HCW.out w' hSw
                  go_simp
                  try with_reducible rfl
            (try simp only [Act.put, List.setIfInBounds_toArray, List.set_cons_zero, List.set_cons_succ])
            (refine wpAnyH_take (i := 22) (oi := { dst := some 138, op := Go.Op.binOp Go.BinOp.sub 3 (Go.Operand.tmp 137) (Go.Operand.const (Go.Value.int Go.IntKind.i64 1)) 3, type := 3, pos := "ref.go:43", after := #[{ on := 21, ground := Go.Ground.data }, { on := 18, ground := Go.Ground.guard }], guard := some (18, true) }) (v := (bif c3 then Go.undef else (bif bk then (Go.Value.int .i64 ((k : Int) - 1)) else Go.undef))) rfl (by kernel_rfl) (by kernel_rfl) (by kernel_rfl) (fun _ _ _ h => h) ?_ HX.out ?_)
            · unfold YieldsIf
              cases c3
              rotate_left
              · exact Or.inr ⟨by rfl, by rfl⟩
              · skip
                cases bk
                · exact Or.inr ⟨by rfl, by rfl⟩
                · skip
                  refine Or.inl ⟨by rfl, ?_⟩
                  have gk : (0 : Int) < (k : Int) := of_decide_eq_true hbk
                  have v1 : (1 : Int) ≤ (k : Int) := by omega
                  have v2 : (0 : Int) ≤ (k : Int) - 1 := by omega
                  have v3 : (k : Int) - 1 < (nm : Int) := by omega
                  have v5 : ((k : Int) - 1).toNat = k - 1 := by omega
                  have v4 : IntKind.i64.wrap ((k : Int) - 1) = (k : Int) - 1 := IntWalk.i64_in _ (by omega)
                  intro w' hSw
                  obtain ⟨x0, x1, h4⟩ := HCW.out w' hSw
                  go_simp
                  try with_reducible rfl
            (try simp only [Act.put, List.setIfInBounds_toArray, List.set_cons_zero, List.set_cons_succ])
            (refine wpAnyH_take (i := 23) (oi := { dst := some 139, op := Go.Op.indexAddr 45 (Go.Operand.tmp 136) (Go.Operand.tmp 138), type := 0, pos := "ref.go:43", after := #[{ on := 20, ground := Go.Ground.data }, { on := 22, ground := Go.Ground.data }, { on := 18, ground := Go.Ground.guard }], guard := some (18, true) }) (v := (bif c3 then Go.undef else (bif bk then (Go.Value.pointer (some ⟨b, o + (k - 1) * 2, none⟩)) else Go.undef))) rfl (by kernel_rfl) (by kernel_rfl) (by kernel_rfl) (fun _ _ _ h => h) ?_ HX.out ?_)
            · unfold YieldsIf
              cases c3
              rotate_left
              · exact Or.inr ⟨by rfl, by rfl⟩
              · skip
                cases bk
                · exact Or.inr ⟨by rfl, by rfl⟩
                · skip
                  refine Or.inl ⟨by rfl, ?_⟩
                  have gk : (0 : Int) < (k : Int) := of_decide_eq_true hbk
                  have v1 : (1 : Int) ≤ (k : Int) := by omega
                  have v2 : (0 : Int) ≤ (k : Int) - 1 := by omega
                  have v3 : (k : Int) - 1 < (nm : Int) := by omega
                  have v5 : ((k : Int) - 1).toNat = k - 1 := by omega
                  have v4 : IntKind.i64.wrap ((k : Int) - 1) = (k : Int) - 1 := IntWalk.i64_in _ (by omega)
                  intro w' hSw
                  obtain ⟨x0, x1, h4⟩ := HCW.out w' hSw
                  go_simp
                  try with_reducible rfl
            (try simp only [Act.put, List.setIfInBounds_toArray, List.set_cons_zero, List.set_cons_succ])
            (refine wpAnyH_take (i := 24) (oi := { dst := some 140, op := Go.Op.fieldAddr 49 (Go.Operand.tmp 139) 0, type := 0, pos := "ref.go:43", after := #[{ on := 23, ground := Go.Ground.data }, { on := 18, ground := Go.Ground.guard }], guard := some (18, true) }) (v := (bif c3 then Go.undef else (bif bk then (Go.Value.pointer (some ⟨b, o + (k - 1) * 2, none⟩)) else Go.undef))) rfl (by kernel_rfl) (by kernel_rfl) (by kernel_rfl) (fun _ _ _ h => h) ?_ HX.out ?_)
            · unfold YieldsIf
              cases c3
              rotate_left
              · exact Or.inr ⟨by rfl, by rfl⟩
              · skip
                cases bk
                · exact Or.inr ⟨by rfl, by rfl⟩
                · skip
                  refine Or.inl ⟨by rfl, ?_⟩
                  have gk : (0 : Int) < (k : Int) := of_decide_eq_true hbk
                  have v1 : (1 : Int) ≤ (k : Int) := by omega
                  have v2 : (0 : Int) ≤ (k : Int) - 1 := by omega
                  have v3 : (k : Int) - 1 < (nm : Int) := by omega
                  have v5 : ((k : Int) - 1).toNat = k - 1 := by omega
                  have v4 : IntKind.i64.wrap ((k : Int) - 1) = (k : Int) - 1 := IntWalk.i64_in _ (by omega)
                  intro w' hSw
                  obtain ⟨x0, x1, h4⟩ := HCW.out w' hSw
                  go_simp
                  try with_reducible rfl
            (try simp only [Act.put, List.setIfInBounds_toArray, List.set_cons_zero, List.set_cons_succ])
            (refine wpAnyH_take (i := 25) (oi := { dst := some 141, op := Go.Op.load 3 (Go.Operand.tmp 140), type := 3, pos := "ref.go:43", after := #[{ on := 24, ground := Go.Ground.data }, { on := 18, ground := Go.Ground.guard }], guard := some (18, true) }) (v := (bif c3 then Go.undef else (bif bk then (Go.Value.int .i64 last) else Go.undef))) rfl (by kernel_rfl) (by kernel_rfl) (by kernel_rfl) (fun _ _ _ h => h) ?_ HX.out ?_)
            · unfold YieldsIf
              cases c3
              rotate_left
              · exact Or.inr ⟨by rfl, by rfl⟩
              · skip
                cases bk
                · exact Or.inr ⟨by rfl, by rfl⟩
                · skip
                  refine Or.inl ⟨by rfl, ?_⟩
                  have gk : (0 : Int) < (k : Int) := of_decide_eq_true hbk
                  have v1 : (1 : Int) ≤ (k : Int) := by omega
                  have v2 : (0 : Int) ≤ (k : Int) - 1 := by omega
                  have v3 : (k : Int) - 1 < (nm : Int) := by omega
                  have v5 : ((k : Int) - 1).toNat = k - 1 := by omega
                  have v4 : IntKind.i64.wrap ((k : Int) - 1) = (k : Int) - 1 := IntWalk.i64_in _ (by omega)
                  have HZ := fun W (e : Ext w0 W) => HZW.out W e (by omega)
                  intro w' hSw
                  obtain ⟨x0, x1, h4⟩ := HCW.out w' hSw
                  have z0 := HZ w' hSw.1
                  go_simp
                  try with_reducible rfl
            (try simp only [Act.put, List.setIfInBounds_toArray, List.set_cons_zero, List.set_cons_succ])
            (refine wpAnyH_take (i := 26) (oi := { dst := some 142, op := Go.Op.fieldAddr 49 (Go.Operand.tmp 9) 0, type := 0, pos := "ref.go:43", after := #[{ on := 18, ground := Go.Ground.guard }], guard := some (18, true) }) (v := (bif c3 then Go.undef else (bif bk then (Go.Value.pointer (some ⟨xb, 0, none⟩)) else Go.undef))) rfl (by kernel_rfl) (by kernel_rfl) (by kernel_rfl) (fun _ _ _ h => h) ?_ HX.out ?_)
            · unfold YieldsIf
              cases c3
              rotate_left
              · exact Or.inr ⟨by rfl, by rfl⟩
              · skip
                cases bk
                · exact Or.inr ⟨by rfl, by rfl⟩
                · skip
                  refine Or.inl ⟨by rfl, ?_⟩
                  intro w' hSw
                  obtain ⟨x0, x1, h4⟩ := HCW.out w' hSw
                  go_simp
                  try with_reducible rfl
            (try simp only [Act.put, List.setIfInBounds_toArray, List.set_cons_zero, List.set_cons_succ])
            (refine wpAnyH_take (i := 27) (oi := { dst := some 143, op := Go.Op.load 3 (Go.Operand.tmp 142), type := 3, pos := "ref.go:43", after := #[{ on := 26, ground := Go.Ground.data }, { on := 18, ground := Go.Ground.guard }], guard := some (18, true) }) (v := (bif c3 then Go.undef else (bif bk then (Go.Value.int .i64 tk) else Go.undef))) rfl (by kernel_rfl) (by kernel_rfl) (by kernel_rfl) (fun _ _ _ h => h) ?_ HX.out ?_)
            · unfold YieldsIf
              cases c3
              rotate_left
              · exact Or.inr ⟨by rfl, by rfl⟩
              · skip
                cases bk
                · exact Or.inr ⟨by rfl, by rfl⟩
                · skip
                  refine Or.inl ⟨by rfl, ?_⟩
                  intro w' hSw
                  obtain ⟨x0, x1, h4⟩ := HCW.out w' hSw
                  go_simp
                  try with_reducible rfl
            (try simp only [Act.put, List.setIfInBounds_toArray, List.set_cons_zero, List.set_cons_succ])
            (refine wpAnyH_take (i := 28) (oi := { dst := some 144, op := Go.Op.binOp Go.BinOp.gtr 3 (Go.Operand.tmp 141) (Go.Operand.tmp 143) 3, type := 4, pos := "ref.go:43", after := #[{ on := 25, ground := Go.Ground.data }, { on := 27, ground := Go.Ground.data }, { on := 18, ground := Go.Ground.guard }], guard := some (18, true) }) (v := (bif c3 then Go.undef else (bif bk then (Go.Value.bool b7) else Go.undef))) rfl (by kernel_rfl) (by kernel_rfl) (by kernel_rfl) (fun _ _ _ h => h) ?_ HX.out ?_)
            · unfold YieldsIf
              cases c3
              rotate_left
              · exact Or.inr ⟨by rfl, by rfl⟩
              · skip
                cases bk
                · exact Or.inr ⟨by rfl, by rfl⟩
                · skip
                  refine Or.inl ⟨by rfl, ?_⟩
                  subst hb7
                  intro w' hSw
                  obtain ⟨x0, x1, h4⟩ := HCW.out w' hSw
                  go_simp
                  try with_reducible rfl
            (try simp only [Act.put, List.setIfInBounds_toArray, List.set_cons_zero, List.set_cons_succ])
            (refine wpAnyH_take (i := 29) (oi := { dst := some 145, op := Go.Op.pick (Go.Operand.tmp 134) (Go.Operand.tmp 144) (Go.Operand.const (Go.Value.bool false)), type := 4, pos := "ref.go:43", after := #[{ on := 18, ground := Go.Ground.data }, { on := 28, ground := Go.Ground.data }, { on := 15, ground := Go.Ground.guard }], guard := some (15, false) }) (v := (bif c3 then Go.undef else (Go.Value.bool d7))) rfl (by kernel_rfl) (by kernel_rfl) (by kernel_rfl) (fun _ _ _ h => h) ?_ HX.out ?_)
            · unfold YieldsIf
              cases c3
              rotate_left
              · exact Or.inr ⟨by rfl, by rfl⟩
              · skip
                subst hd7
                cases bk <;>
                  (refine Or.inl ⟨by rfl, ?_⟩; intro w' hSw; go_simp; try with_reducible rfl)
            (try simp only [Act.put, List.setIfInBounds_toArray, List.set_cons_zero, List.set_cons_succ])
            (refine wpAnyH_take (i := 30) (oi := { dst := some 146, op := Go.Op.pick (Go.Operand.tmp 131) (Go.Operand.const (Go.Value.bool true)) (Go.Operand.tmp 145), type := 4, pos := "ref.go:43", after := #[{ on := 15, ground := Go.Ground.data }, { on := 29, ground := Go.Ground.data }], guard := none }) (v := (Go.Value.bool (!bb))) rfl (by kernel_rfl) (by kernel_rfl) (by kernel_rfl) (fun _ _ _ h => h) ?_ HX.out ?_)
            · unfold YieldsIf
              cases c3 <;> cases d7 <;> cases bb <;> first | (exfalso; revert hbad; decide) | (refine Or.inl ⟨by rfl, ?_⟩; intro w' hSw; go_simp; try with_reducible rfl)
            (try simp only [Act.put, List.setIfInBounds_toArray, List.set_cons_zero, List.set_cons_succ])
            refine wpAnyH_done (by kernel_rfl) ?_ _
            go_wp2_with fail
            go_meet
            exact ⟨rfl, HX.out.1⟩
          case rest =>
            obtain ⟨rfl, hE2⟩ := hcut
            obtain ⟨wf, rfl⟩ : ∃ wf : World, wf = wc := ⟨_, rfl⟩
            have HE2 := Lib.hid hE2
            clear hE2
            cases bb with
            | true =>
              have HRT := Lib.hid (HRN.out.trans (Bool.true_and _))
              go_wp2_with fail
              go_roundg (gi - 1)
              case measure => omega
              case rel => exact ⟨k + 1, tk, by omega, by go_num, HE2.out, HTL.out trivial, fun h => by omega, HNX.out, HRT.out⟩
            | false =>
              have HRF := Lib.hid (HRN.out.trans (Bool.false_and _))
              go_wp2_with fail
              go_ret
              exact ⟨by rw [HRF.out]; rfl, ext_trans HE0.out HE2.out⟩
        · obtain rfl : gi = 0 := by omega
          obtain rfl : k = nm := by omega
          have y4 : ¬ (k : Int) < (k : Int) := by omega
          have HRN : Hid (R = true) := Lib.hid (by
            rw [HRK.out, List.drop_eq_nil_of_le (by rw [HLM.out]; omega), mayM])
          go_wp2_with fail
          go_ret
          exact ⟨by rw [HRN.out]; rfl, ext_trans HE0.out HE1.out⟩
end Go.Proofs.Ytlldmpcamdginaa.Trk
