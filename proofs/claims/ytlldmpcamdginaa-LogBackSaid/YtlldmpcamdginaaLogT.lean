/- LogBack, walked. -/
import Derived.Test.YtlldmpcamdginaaGX
import Derived.Test.YtlldmpcamdginaaG3
namespace Go.Proofs.Ytlldmpcamdginaa.Log
open Go.ChangeShapes Go.WideShapes Go.ChangeAt Go.RowKit
open Go.Proofs.Ytlldmpcamdginaa.Wire
open Go.Proofs.Ytlldmpcamdginaa.Rec
set_option linter.unusedVariables false

theorem vr_len' (L : List Nat) : ∀ (size acc v k : Nat), vr size acc L = .ok v k → size < k ∧ k ≤ size + L.length := by
  induction L with
  | nil => intro size acc v k h; simp [vr] at h
  | cons c cs ih =>
    intro size acc v k h
    rw [vr] at h
    split at h
    · cases h
    · split at h
      · cases h; rw [List.length_cons]; omega
      · have := ih _ _ _ _ h
        rw [List.length_cons]
        omega
theorem pN_short {L R : List Nat} {v : Nat} (h : pN L = some (v, R)) : R.length < L.length := by
  unfold pN at h
  split at h
  · rename_i v' k hv
    cases h
    have := vr_len' L 0 0 v k hv
    rw [List.length_drop]
    omega
  · cases h
theorem pI_short {L R : List Nat} {v : Nat} (h : pI L = some (v, R)) : R.length < L.length := by
  unfold pI at h
  split at h
  · rename_i v' k hv
    cases h
    cases hr : vr 0 0 L with
    | short => rw [hr] at hv; cases hv
    | form => rw [hr] at hv; cases hv
    | ok x y =>
      rw [hr] at hv
      simp only [lim] at hv
      split at hv <;> cases hv
      have := vr_len' L 0 0 v k hr
      rw [List.length_drop]
      omega
  · cases h
theorem pE_short {L R : List Nat} {x : En} (h : pE L = some (x, R)) : R.length < L.length := by
  unfold pE at h
  split at h
  · cases h
  rename_i s L1 h1
  split at h
  · cases h
  rename_i ys L2 h2
  split at h
  · cases h
  rename_i u L3 h3
  split at h
  · cases h
  rename_i t L4 h4
  split at h
  · cases h
  rename_i g L5 h5
  cases h
  have := pI_short h1
  have := pN_short h3
  have := pN_short h4
  have := pN_short h5
  have h6 := congrArg List.length (pB_ok h2).1
  rw [List.length_append] at h6
  omega
theorem take_len {n : Int} {L : List Nat} {es : List En} (h : takeL n L = some es) : (es.map En.ev).length ≤ L.length := by
  rw [List.length_map]
  have hp : ∀ (nn left last each : Nat) (L : List Nat) (es : List En) (R : List Nat), pL nn left last each L = some (es, R) → es.length ≤ L.length := by
    intro nn left
    induction left with
    | zero => intro last each L es R h; cases h; simp
    | succ left ih =>
      intro last each L es R h
      rw [pL] at h
      split at h
      · cases h
      rename_i x R1 hx
      split at h
      · split at h
        · cases h
        rename_i es2 R2 hd
        cases h
        have h1 := ih _ _ _ _ _ hd
        have h2 : R1.length < L.length := pE_short hx
        rw [List.length_cons]
        omega
      · cases h
  unfold takeL at h
  split at h
  · split at h
    · cases h
    rename_i left L1 h1
    split at h
    · rename_i es' h2
      cases h
      have := hp _ _ _ _ _ _ _ h2
      have h3 := pN_short h1
      omega
    · cases h
  · cases h
set_option maxHeartbeats 8000000 in
set_option maxRecDepth 100000 in
theorem logBack (x : Hv) (A : Option Addr) (m c : Nat) (Al : Option Addr) (ml cl : Nat) (evs : List Ev) (n : Int) (s : ByteArray) (w : World) (hB : RowR w A m 3 cS x.starts) (hf : ∀ u ∈ x.starts, u.fits) (hsd : x.seed < 4294967296)
    (hts : x.tiles.size ≤ 9223372036854775807) (hm : m ≤ 9223372036854775807) (hml : ml ≤ 9223372036854775807) (hss : s.size ≤ 9223372036854775807)
    (hw1 : -9223372036854775808 ≤ x.w) (hw2 : x.w ≤ 9223372036854775807) (hh1 : -9223372036854775808 ≤ x.h) (hh2 : x.h ≤ 9223372036854775807)
    (hBl : RowR w Al ml 7 cV evs) (hfl : ∀ e ∈ evs, e.fits) :
    Calls Try.prog 3 #[.agg (cH x (.slice A m c)), .slice Al ml cl, .int .i64 n, .string s] w fun e w' => e = .returned (.bool true) ∧ Ext w w' := by
  have HE0 := Lib.hid (ext_alloc (Ext.rfl' w) (.cells (cH x (.slice A m c)) 25))
  have HH0 := Lib.hid (Blk.new w 25 (cH x (.slice A m c)))
  have HGR := Lib.hid (fun w' => great_st x A m c hts w' hm)
  have HB := Lib.hid hB; have HF := Lib.hid hf; have HBL := Lib.hid hBl; have HFL := Lib.hid hfl; have HLE := Lib.hid hBl.1
  have HLN := Lib.hid hB.1
  have HX1 := Lib.hid (And.intro hw1 (And.intro hw2 (And.intro hh1 (And.intro hh2 hsd))))
  clear hB hf hBl hfl hw1 hw2 hh1 hh2 hsd
  have HXX := Lib.hid (show cH x (.slice A m c) = #[.int .i64 x.w, .int .i64 x.h, .int .i64 x.players, .int .u32 (x.seed : Int), .string x.tiles, .slice A m c] from rfl)
  rw [HXX.out] at HE0 HH0 HGR ⊢
  go_enter Try.func3, Try.ntmps3
  go_wp2_with fail
  refine (HGR.out _).mono ?_
  rintro e w1 ⟨rfl, hE1⟩
  have HH1 := Lib.hid (HH0.out.ext hE1)
  have HE1 := Lib.hid (ext_trans HE0.out hE1)
  clear hE1 HE0 HH0 HGR
  have hh := fun i => HH1.out.cell i
  by_cases hg : 4200 < x.tiles.size ∨ 200 < m
  · rw [decide_eq_true hg]
    clear hg
    go_wp2_with fail
    refine (wakes _).mono ?_
    rintro e w2 ⟨rfl, hE2⟩
    have HEZ := Lib.hid (ext_trans HE1.out hE2)
    clear hE2
    go_wp2_with fail
    go_ret
    exact ⟨rfl, HEZ.out⟩
  · rw [decide_eq_false hg]
    have hg1 : x.tiles.size ≤ 4200 := by omega
    have hg2 : m ≤ 200 := by omega
    clear hg
    by_cases hl : 300 < ml
    · have hl' : (300 : Int) < (ml : Int) := by omega
      go_wp2_with fail
      refine (wakes _).mono ?_
      rintro e w2 ⟨rfl, hE2⟩
      have HEZ := Lib.hid (ext_trans HE1.out hE2)
      clear hE2
      go_wp2_with fail
      go_ret
      exact ⟨rfl, HEZ.out⟩
    · have hl' : ¬ (300 : Int) < (ml : Int) := by omega
      by_cases hz : 6000 < s.size
      · have hz' : (6000 : Int) < (s.size : Int) := by omega
        go_wp2_with fail
        refine (wakes _).mono ?_
        rintro e w2 ⟨rfl, hE2⟩
        have HEZ := Lib.hid (ext_trans HE1.out hE2)
        clear hE2
        go_wp2_with fail
        go_ret
        exact ⟨rfl, HEZ.out⟩
      · have hz' : ¬ (6000 : Int) < (s.size : Int) := by omega
        have HHD := Lib.hid (header_st x A m c w1 (HB.out.ext HE1.out) HF.out (by omega) (by omega) HX1.out.2.2.2.2 HX1.out.1 HX1.out.2.1 HX1.out.2.2.1 HX1.out.2.2.2.1)
        have HMY := Lib.hid (fun (w' : World) (e : Ext w w') => may_st x A m c w' (HB.out.ext e) HF.out (by omega) (by omega) HX1.out.1 HX1.out.2.1 HX1.out.2.2.1 HX1.out.2.2.2.1)
        rw [HXX.out] at HHD HMY
        go_wp2_with fail
        refine (HHD.out).mono ?_
        rintro e w2 ⟨hE2, hmm⟩
        have HE2 := Lib.hid (ext_trans HE1.out hE2)
        have HH2 := Lib.hid (HH1.out.ext hE2)
        clear hE2 hh HHD HE1 HH1
        have hh := fun i => HH2.out.cell i
        by_cases hmay : mayH x
        · rw [if_pos hmay] at hmm
          rw [decide_eq_true hmay] at HMY
          obtain ⟨v, rfl, hO⟩ := hmm
          have hsm := encH_small x.hd HX1.out.2.2.2.2 (mem_small (natsOf_small _))
          have hL0 := encH_len x hmay HF.out
          have hth := take_header hmay HF.out HX1.out.2.2.2.2
          obtain ⟨L0, hL⟩ : ∃ L, L = encH x.hd := ⟨_, rfl⟩
          rw [← hL] at hO hsm hL0 hth
          clear hL hmay
          obtain ⟨A1, c1, rfl, s1, s2, s3, s4⟩ := hO.shape
          have hbs := (hO.bs (small_mem hsm)).2
          have HTK := Lib.hid (fun (w' : World) (e : Ext w2 w') => takeHeader_st A1 L0.length c1 L0 w' (hbs.ext e) s3 (by omega))
          have HTH := Lib.hid hth
          clear hO hsm hth s1 s2 s3 s4 hbs
          generalize L0.length = n1 at *
          clear hL0
          go_wp2_with fail
          refine (HMY.out _ HE2.out).mono ?_
          rintro e w3 ⟨rfl, hE3⟩
          have HE3 := Lib.hid hE3
          have HH3 := Lib.hid (HH2.out.ext hE3)
          clear hE3 hh HH2 HMY
          have hh := fun i => HH3.out.cell i
          go_wp2_with fail
          refine (HTK.out _ HE3.out).mono ?_
          rintro e w4 ⟨hE4, hmm⟩
          rw [HTH.out] at hmm
          obtain ⟨v, rfl, hO4⟩ := hmm
          obtain ⟨A4, c4, rfl, s1, s2, s3, s4⟩ := hO4.shape
          rw [HLN.out] at *
          have hrow4 := OwnR.row cS_len hO4
          have hx4 := ext_trans HE3.out hE4
          have HE4 := Lib.hid (ext_trans HE2.out hx4)
          have HH4 := Lib.hid (HH3.out.ext hE4)
          have HSA := Lib.hid (fun (w' : World) (e : Ext w4 w') => same_st x A4 A m c4 c w' (hrow4.ext e) ((HB.out.ext HE4.out).ext e) (by omega))
          have HX4 := Lib.hid (Blk.new w4 25 (cH x (.slice A4 m c4)))
          have hea := ext_alloc (Ext.rfl' w4) (.cells (cH x (.slice A4 m c4)) 25)
          have HEA := Lib.hid hea
          have HH5 := Lib.hid (HH4.out.ext hea)
          clear hO4 s1 s2 s3 s4 hrow4 hx4 hE4 hea HTK HTH HE3 hh
          simp only [cH] at HSA HX4 HEA HH5
          simp only [cH]
          have hl4 := fun i => HH4.out.cell i
          have hw4 : w.heap.size < w4.heap.size := HH4.out.lt
          go_wp2_with fail
          refine (HSA.out _ HEA.out).mono ?_
          rintro e w5 ⟨rfl, hE5⟩
          have HEB := Lib.hid (ext_trans HE4.out (ext_trans HEA.out hE5))
          clear hE5 HSA HX4 HEA HH5 hl4 HE4 HH4 hw4 HE2 HH3 HXX
          go_upto_region 10 with fail
          obtain ⟨wA, rfl⟩ : ∃ q : World, q = w5 := ⟨_, rfl⟩
          have HOF := Lib.hid (of_law Al ml cl evs wA (HBL.out.ext HEB.out) (by omega))
          go_wp2_with fail
          refine (HOF.out).mono ?_
          rintro e w6 ⟨v, rfl, hO, hE⟩
          obtain ⟨A6, c6, rfl, s1, s2, s3, s4⟩ := hO.shape
          have hrow := OwnR.row cV_len hO
          have HE6 := Lib.hid (ext_trans HEB.out hE)
          clear hO s1 s2 s3 s4 hE HOF HEB
          have hle := HLE.out
          rw [hle] at hrow ⊢
          clear hle
          have HPU := Lib.hid (put_st A6 ml c6 evs n w6 hrow HFL.out (by omega))
          clear hrow
          go_wp2_with fail
          refine (HPU.out).mono ?_
          rintro e w7 ⟨hE, hmm⟩
          have HE7 := Lib.hid (ext_trans HE6.out hE)
          clear hE HPU HE6
          cases hpu : putL n evs with
          | none =>
            rw [hpu] at hmm
            obtain rfl := hmm
            clear hpu
            go_upto_region 15 with fail
            obtain ⟨wD, rfl⟩ : ∃ q : World, q = w7 := ⟨_, rfl⟩
            have HEC := HE7
            obtain ⟨cs, wW, hcv, hc1, hc2, hbs, hE⟩ := Com.conv_text wD s (by omega)
            have HTK := Lib.hid (takeHeader_st (some ⟨wD.heap.size, 0, none⟩) s.size cs (natsOf s) wW hbs (fun h => by cases h) (by omega))
            have HEW := Lib.hid (ext_trans HEC.out hE)
            clear hc1 hc2 hbs hE
            go_wp2_with fail
            refine (HTK.out).mono ?_
            rintro e w9 ⟨hE, hmm⟩
            have HE9 := Lib.hid (ext_trans HEW.out hE)
            clear hE hcv HTK HEW
            cases hth : thL (natsOf s) with
            | none =>
              rw [hth] at hmm
              obtain ⟨y, hy, rfl⟩ := hmm
              clear hth
              have HED := Lib.hid (ext_alloc HE9.out (.cells zeroH 25))
              simp only [zeroH] at HED ⊢
              go_upto_region 20 with fail
              obtain ⟨wE, hwE⟩ : ∃ q : World, q = w9.alloc (.cells #[.int .i64 0, .int .i64 0, .int .i64 0, .int .u32 0, .string ⟨#[]⟩, .slice none 0 0] 25) := ⟨_, rfl⟩
              rw [← hwE] at HED ⊢
              clear hwE hy
              obtain ⟨cd, wF, hcv, hc1, hc2, hbs, hE⟩ := Com.conv_text wE s (by omega)
              have HTK := Lib.hid (take_st (some ⟨wE.heap.size, 0, none⟩) s.size cd (natsOf s) n wF hbs (fun h => by cases h) (by omega))
              have HEF := Lib.hid (ext_trans HED.out hE)
              have HCVH := Lib.hid hcv
              clear hc1 hc2 hbs hE hcv
              have hcv := HCVH.out
              go_wp2_with fail
              refine (HTK.out).mono ?_
              rintro e wG ⟨hE, hmm⟩
              have HEG := Lib.hid (ext_trans HEF.out hE)
              clear hE hcv HCVH HTK HEF
              cases htl : takeL n (natsOf s) with
              | none =>
                rw [htl] at hmm
                obtain ⟨y, hy, rfl⟩ := hmm
                clear htl
                go_wp2_with fail
                refine (wakes _).mono ?_
                rintro e wH ⟨rfl, hE⟩
                have HEZ := Lib.hid (ext_trans HEG.out hE)
                clear hE
                go_wp2_with fail
                go_ret
                exact ⟨rfl, HEZ.out⟩
              | some es =>
                rw [htl] at hmm
                obtain ⟨v, rfl, hO⟩ := hmm
                obtain ⟨hpt, hft⟩ := put_take (mem_small (natsOf_small s)) htl
                obtain ⟨Ae, ce, rfl, s1, s2, s3, s4⟩ := hO.shape
                have hne : (es.map En.ev).length ≤ 1000000 := by
                  have := take_len htl
                  rw [natsOf_len] at this
                  omega
                have HPU := Lib.hid (put_st Ae (es.map En.ev).length ce (es.map En.ev) n wG (OwnR.row cV_len hO) hft hne)
                have HPT := Lib.hid hpt
                clear htl hO s1 s2 s3 s4 hpt hft hne
                generalize (es.map En.ev).length = ne at *
                go_wp2_with fail
                refine (HPU.out).mono ?_
                rintro e wH ⟨hE, hmm⟩
                rw [HPT.out] at hmm
                obtain ⟨v, rfl, hO⟩ := hmm
                have HEH := Lib.hid (ext_trans HEG.out hE)
                obtain ⟨Af, cf, rfl, s1, s2, s3, s4⟩ := hO.shape
                have hcv := ((hO.bs (natsOf_small s)).2).conv (P := Try.prog) 29 5 9 Try.underlying29 Try.underlying5 Try.underlying9 cf
                rw [strOf_nats] at hcv
                clear hE hO s1 s2 s3 s4 HPU HPT HEG
                generalize (natsOf s).length = nf at *
                go_wp2_with fail
                refine (wakes _).mono ?_
                rintro e wI ⟨rfl, hE⟩
                have HEZ := Lib.hid (ext_trans HEH.out hE)
                clear hE
                go_wp2_with fail
                go_ret
                exact ⟨rfl, HEZ.out⟩
            | some hv =>
              rw [hth] at hmm
              obtain ⟨v, rfl, hO⟩ := hmm
              obtain ⟨hmy, henc, hsd, hfv, htv⟩ := header_take (mem_small (natsOf_small s)) hth
              obtain ⟨Ag, cg, rfl, s1, s2, s3, s4⟩ := hO.shape
              have hea := ext_alloc (Ext.rfl' w9) (.cells (cH hv (.slice Ag hv.starts.length cg)) 25)
              have hrow := OwnR.row cS_len hO
              have h8 : hv.starts.length ≤ 1000000 := by have := hmy.2.2.2.1; omega
              have HHD := Lib.hid (header_st hv Ag hv.starts.length cg _ (hrow.ext hea) hfv (by omega) h8 hsd (by have := hmy.1.1; omega) (by have := hmy.1.2.1; omega) (by have := hmy.1.2.2.1; omega) (by have := hmy.1.2.2.2.1; omega))
              have HMM := Lib.hid hmy; have HENC := Lib.hid henc
              have HEA := Lib.hid (ext_trans HE9.out hea)
              clear hth hO hmy henc hsd hfv htv s1 s2 s3 s4 hea hrow h8
              generalize hv.starts.length = ng at *
              simp only [cH] at HHD HEA ⊢
              go_wp2_with fail
              refine (HHD.out).mono ?_
              rintro e wE ⟨hE, hmm⟩
              rw [if_pos HMM.out, HENC.out] at hmm
              obtain ⟨v, rfl, hO⟩ := hmm
              have HED := Lib.hid (ext_trans HEA.out hE)
              obtain ⟨Ah, ch, rfl, s1, s2, s3, s4⟩ := hO.shape
              have hcv := ((hO.bs (natsOf_small s)).2).conv (P := Try.prog) 29 5 9 Try.underlying29 Try.underlying5 Try.underlying9 ch
              rw [strOf_nats] at hcv
              clear hE hO s1 s2 s3 s4 HHD HMM HENC HEA
              generalize (natsOf s).length = nf at *
              go_upto_region 20 with fail
              clear hcv
              obtain ⟨cd, wF, hcv, hc1, hc2, hbs, hE⟩ := Com.conv_text wE s (by omega)
              have HTK := Lib.hid (take_st (some ⟨wE.heap.size, 0, none⟩) s.size cd (natsOf s) n wF hbs (fun h => by cases h) (by omega))
              have HEF := Lib.hid (ext_trans HED.out hE)
              have HCVH := Lib.hid hcv
              clear hc1 hc2 hbs hE hcv
              have hcv := HCVH.out
              go_wp2_with fail
              refine (HTK.out).mono ?_
              rintro e wG ⟨hE, hmm⟩
              have HEG := Lib.hid (ext_trans HEF.out hE)
              clear hE hcv HCVH HTK HEF
              cases htl : takeL n (natsOf s) with
              | none =>
                rw [htl] at hmm
                obtain ⟨y, hy, rfl⟩ := hmm
                clear htl
                go_wp2_with fail
                refine (wakes _).mono ?_
                rintro e wH ⟨rfl, hE⟩
                have HEZ := Lib.hid (ext_trans HEG.out hE)
                clear hE
                go_wp2_with fail
                go_ret
                exact ⟨rfl, HEZ.out⟩
              | some es =>
                rw [htl] at hmm
                obtain ⟨v, rfl, hO⟩ := hmm
                obtain ⟨hpt, hft⟩ := put_take (mem_small (natsOf_small s)) htl
                obtain ⟨Ae, ce, rfl, s1, s2, s3, s4⟩ := hO.shape
                have hne : (es.map En.ev).length ≤ 1000000 := by
                  have := take_len htl
                  rw [natsOf_len] at this
                  omega
                have HPU := Lib.hid (put_st Ae (es.map En.ev).length ce (es.map En.ev) n wG (OwnR.row cV_len hO) hft hne)
                have HPT := Lib.hid hpt
                clear htl hO s1 s2 s3 s4 hpt hft hne
                generalize (es.map En.ev).length = ne at *
                go_wp2_with fail
                refine (HPU.out).mono ?_
                rintro e wH ⟨hE, hmm⟩
                rw [HPT.out] at hmm
                obtain ⟨v, rfl, hO⟩ := hmm
                have HEH := Lib.hid (ext_trans HEG.out hE)
                obtain ⟨Af, cf, rfl, s1, s2, s3, s4⟩ := hO.shape
                have hcv := ((hO.bs (natsOf_small s)).2).conv (P := Try.prog) 29 5 9 Try.underlying29 Try.underlying5 Try.underlying9 cf
                rw [strOf_nats] at hcv
                clear hE hO s1 s2 s3 s4 HPU HPT HEG
                generalize (natsOf s).length = nf at *
                go_wp2_with fail
                refine (wakes _).mono ?_
                rintro e wI ⟨rfl, hE⟩
                have HEZ := Lib.hid (ext_trans HEH.out hE)
                clear hE
                go_wp2_with fail
                go_ret
                exact ⟨rfl, HEZ.out⟩
          | some L =>
            rw [hpu] at hmm
            obtain ⟨v, rfl, hO⟩ := hmm
            obtain ⟨es, hes, htl⟩ := take_put HFL.out (by rw [HLE.out]; omega) hpu
            have hLs := putL_small HFL.out hpu
            have hLl := putL_len HFL.out (by rw [HLE.out]; omega) hpu
            obtain ⟨A7, c7, rfl, s1, s2, s3, s4⟩ := hO.shape
            have HTK := Lib.hid (take_st A7 L.length c7 L n w7 (hO.bs (small_mem hLs)).2 s3 (by omega))
            have HES := Lib.hid hes; have HTL := Lib.hid htl
            clear hpu hO hes htl hLs hLl s1 s2 s3 s4
            generalize L.length = n7 at *
            go_wp2_with fail
            refine (HTK.out).mono ?_
            rintro e w8 ⟨hE, hmm⟩
            rw [HTL.out] at hmm
            obtain ⟨v, rfl, hO⟩ := hmm
            rw [← HES.out] at hO
            obtain ⟨A8, c8', rfl, s1, s2, s3, s4⟩ := hO.shape
            have hrow := OwnR.row cV_len hO
            have HE8 := Lib.hid (ext_trans HE7.out hE)
            have hle := HLE.out
            rw [hle] at hrow ⊢
            have HRW := Lib.hid (row_st evs A8 Al ml c8' cl w8 hrow (HBL.out.ext HE8.out) (by omega))
            clear hle hrow hO s1 s2 s3 s4 hE HTK HES HTL
            go_wp2_with fail
            refine (HRW.out).mono ?_
            rintro e wD ⟨rfl, hE⟩
            have HEC := Lib.hid (ext_trans HE8.out hE)
            clear hE HRW HE8
            go_upto_region 15 with fail
            obtain ⟨cs, wW, hcv, hc1, hc2, hbs, hE⟩ := Com.conv_text wD s (by omega)
            have HTK := Lib.hid (takeHeader_st (some ⟨wD.heap.size, 0, none⟩) s.size cs (natsOf s) wW hbs (fun h => by cases h) (by omega))
            have HEW := Lib.hid (ext_trans HEC.out hE)
            clear hc1 hc2 hbs hE
            go_wp2_with fail
            refine (HTK.out).mono ?_
            rintro e w9 ⟨hE, hmm⟩
            have HE9 := Lib.hid (ext_trans HEW.out hE)
            clear hE hcv HTK HEW
            cases hth : thL (natsOf s) with
            | none =>
              rw [hth] at hmm
              obtain ⟨y, hy, rfl⟩ := hmm
              clear hth
              have HED := Lib.hid (ext_alloc HE9.out (.cells zeroH 25))
              simp only [zeroH] at HED ⊢
              go_upto_region 20 with fail
              obtain ⟨wE, hwE⟩ : ∃ q : World, q = w9.alloc (.cells #[.int .i64 0, .int .i64 0, .int .i64 0, .int .u32 0, .string ⟨#[]⟩, .slice none 0 0] 25) := ⟨_, rfl⟩
              rw [← hwE] at HED ⊢
              clear hwE hy
              obtain ⟨cd, wF, hcv, hc1, hc2, hbs, hE⟩ := Com.conv_text wE s (by omega)
              have HTK := Lib.hid (take_st (some ⟨wE.heap.size, 0, none⟩) s.size cd (natsOf s) n wF hbs (fun h => by cases h) (by omega))
              have HEF := Lib.hid (ext_trans HED.out hE)
              have HCVH := Lib.hid hcv
              clear hc1 hc2 hbs hE hcv
              have hcv := HCVH.out
              go_wp2_with fail
              refine (HTK.out).mono ?_
              rintro e wG ⟨hE, hmm⟩
              have HEG := Lib.hid (ext_trans HEF.out hE)
              clear hE hcv HCVH HTK HEF
              cases htl : takeL n (natsOf s) with
              | none =>
                rw [htl] at hmm
                obtain ⟨y, hy, rfl⟩ := hmm
                clear htl
                go_wp2_with fail
                refine (wakes _).mono ?_
                rintro e wH ⟨rfl, hE⟩
                have HEZ := Lib.hid (ext_trans HEG.out hE)
                clear hE
                go_wp2_with fail
                go_ret
                exact ⟨rfl, HEZ.out⟩
              | some es =>
                rw [htl] at hmm
                obtain ⟨v, rfl, hO⟩ := hmm
                obtain ⟨hpt, hft⟩ := put_take (mem_small (natsOf_small s)) htl
                obtain ⟨Ae, ce, rfl, s1, s2, s3, s4⟩ := hO.shape
                have hne : (es.map En.ev).length ≤ 1000000 := by
                  have := take_len htl
                  rw [natsOf_len] at this
                  omega
                have HPU := Lib.hid (put_st Ae (es.map En.ev).length ce (es.map En.ev) n wG (OwnR.row cV_len hO) hft hne)
                have HPT := Lib.hid hpt
                clear htl hO s1 s2 s3 s4 hpt hft hne
                generalize (es.map En.ev).length = ne at *
                go_wp2_with fail
                refine (HPU.out).mono ?_
                rintro e wH ⟨hE, hmm⟩
                rw [HPT.out] at hmm
                obtain ⟨v, rfl, hO⟩ := hmm
                have HEH := Lib.hid (ext_trans HEG.out hE)
                obtain ⟨Af, cf, rfl, s1, s2, s3, s4⟩ := hO.shape
                have hcv := ((hO.bs (natsOf_small s)).2).conv (P := Try.prog) 29 5 9 Try.underlying29 Try.underlying5 Try.underlying9 cf
                rw [strOf_nats] at hcv
                clear hE hO s1 s2 s3 s4 HPU HPT HEG
                generalize (natsOf s).length = nf at *
                go_wp2_with fail
                refine (wakes _).mono ?_
                rintro e wI ⟨rfl, hE⟩
                have HEZ := Lib.hid (ext_trans HEH.out hE)
                clear hE
                go_wp2_with fail
                go_ret
                exact ⟨rfl, HEZ.out⟩
            | some hv =>
              rw [hth] at hmm
              obtain ⟨v, rfl, hO⟩ := hmm
              obtain ⟨hmy, henc, hsd, hfv, htv⟩ := header_take (mem_small (natsOf_small s)) hth
              obtain ⟨Ag, cg, rfl, s1, s2, s3, s4⟩ := hO.shape
              have hea := ext_alloc (Ext.rfl' w9) (.cells (cH hv (.slice Ag hv.starts.length cg)) 25)
              have hrow := OwnR.row cS_len hO
              have h8 : hv.starts.length ≤ 1000000 := by have := hmy.2.2.2.1; omega
              have HHD := Lib.hid (header_st hv Ag hv.starts.length cg _ (hrow.ext hea) hfv (by omega) h8 hsd (by have := hmy.1.1; omega) (by have := hmy.1.2.1; omega) (by have := hmy.1.2.2.1; omega) (by have := hmy.1.2.2.2.1; omega))
              have HMM := Lib.hid hmy; have HENC := Lib.hid henc
              have HEA := Lib.hid (ext_trans HE9.out hea)
              clear hth hO hmy henc hsd hfv htv s1 s2 s3 s4 hea hrow h8
              generalize hv.starts.length = ng at *
              simp only [cH] at HHD HEA ⊢
              go_wp2_with fail
              refine (HHD.out).mono ?_
              rintro e wE ⟨hE, hmm⟩
              rw [if_pos HMM.out, HENC.out] at hmm
              obtain ⟨v, rfl, hO⟩ := hmm
              have HED := Lib.hid (ext_trans HEA.out hE)
              obtain ⟨Ah, ch, rfl, s1, s2, s3, s4⟩ := hO.shape
              have hcv := ((hO.bs (natsOf_small s)).2).conv (P := Try.prog) 29 5 9 Try.underlying29 Try.underlying5 Try.underlying9 ch
              rw [strOf_nats] at hcv
              clear hE hO s1 s2 s3 s4 HHD HMM HENC HEA
              generalize (natsOf s).length = nf at *
              go_upto_region 20 with fail
              clear hcv
              obtain ⟨cd, wF, hcv, hc1, hc2, hbs, hE⟩ := Com.conv_text wE s (by omega)
              have HTK := Lib.hid (take_st (some ⟨wE.heap.size, 0, none⟩) s.size cd (natsOf s) n wF hbs (fun h => by cases h) (by omega))
              have HEF := Lib.hid (ext_trans HED.out hE)
              have HCVH := Lib.hid hcv
              clear hc1 hc2 hbs hE hcv
              have hcv := HCVH.out
              go_wp2_with fail
              refine (HTK.out).mono ?_
              rintro e wG ⟨hE, hmm⟩
              have HEG := Lib.hid (ext_trans HEF.out hE)
              clear hE hcv HCVH HTK HEF
              cases htl : takeL n (natsOf s) with
              | none =>
                rw [htl] at hmm
                obtain ⟨y, hy, rfl⟩ := hmm
                clear htl
                go_wp2_with fail
                refine (wakes _).mono ?_
                rintro e wH ⟨rfl, hE⟩
                have HEZ := Lib.hid (ext_trans HEG.out hE)
                clear hE
                go_wp2_with fail
                go_ret
                exact ⟨rfl, HEZ.out⟩
              | some es =>
                rw [htl] at hmm
                obtain ⟨v, rfl, hO⟩ := hmm
                obtain ⟨hpt, hft⟩ := put_take (mem_small (natsOf_small s)) htl
                obtain ⟨Ae, ce, rfl, s1, s2, s3, s4⟩ := hO.shape
                have hne : (es.map En.ev).length ≤ 1000000 := by
                  have := take_len htl
                  rw [natsOf_len] at this
                  omega
                have HPU := Lib.hid (put_st Ae (es.map En.ev).length ce (es.map En.ev) n wG (OwnR.row cV_len hO) hft hne)
                have HPT := Lib.hid hpt
                clear htl hO s1 s2 s3 s4 hpt hft hne
                generalize (es.map En.ev).length = ne at *
                go_wp2_with fail
                refine (HPU.out).mono ?_
                rintro e wH ⟨hE, hmm⟩
                rw [HPT.out] at hmm
                obtain ⟨v, rfl, hO⟩ := hmm
                have HEH := Lib.hid (ext_trans HEG.out hE)
                obtain ⟨Af, cf, rfl, s1, s2, s3, s4⟩ := hO.shape
                have hcv := ((hO.bs (natsOf_small s)).2).conv (P := Try.prog) 29 5 9 Try.underlying29 Try.underlying5 Try.underlying9 cf
                rw [strOf_nats] at hcv
                clear hE hO s1 s2 s3 s4 HPU HPT HEG
                generalize (natsOf s).length = nf at *
                go_wp2_with fail
                refine (wakes _).mono ?_
                rintro e wI ⟨rfl, hE⟩
                have HEZ := Lib.hid (ext_trans HEH.out hE)
                clear hE
                go_wp2_with fail
                go_ret
                exact ⟨rfl, HEZ.out⟩
        · rw [if_neg hmay] at hmm
          rw [decide_eq_false hmay] at HMY
          obtain rfl := hmm
          clear hmay
          go_wp2_with fail
          refine (HMY.out _ HE2.out).mono ?_
          rintro e w3 ⟨rfl, hE3⟩
          have HEB := Lib.hid (ext_trans HE2.out hE3)
          clear hE3 hh HH2 HMY HE2 HXX
          go_upto_region 10 with fail
          obtain ⟨wA, rfl⟩ : ∃ q : World, q = w3 := ⟨_, rfl⟩
          have HOF := Lib.hid (of_law Al ml cl evs wA (HBL.out.ext HEB.out) (by omega))
          go_wp2_with fail
          refine (HOF.out).mono ?_
          rintro e w6 ⟨v, rfl, hO, hE⟩
          obtain ⟨A6, c6, rfl, s1, s2, s3, s4⟩ := hO.shape
          have hrow := OwnR.row cV_len hO
          have HE6 := Lib.hid (ext_trans HEB.out hE)
          clear hO s1 s2 s3 s4 hE HOF HEB
          have hle := HLE.out
          rw [hle] at hrow ⊢
          clear hle
          have HPU := Lib.hid (put_st A6 ml c6 evs n w6 hrow HFL.out (by omega))
          clear hrow
          go_wp2_with fail
          refine (HPU.out).mono ?_
          rintro e w7 ⟨hE, hmm⟩
          have HE7 := Lib.hid (ext_trans HE6.out hE)
          clear hE HPU HE6
          cases hpu : putL n evs with
          | none =>
            rw [hpu] at hmm
            obtain rfl := hmm
            clear hpu
            go_upto_region 15 with fail
            obtain ⟨wD, rfl⟩ : ∃ q : World, q = w7 := ⟨_, rfl⟩
            have HEC := HE7
            obtain ⟨cs, wW, hcv, hc1, hc2, hbs, hE⟩ := Com.conv_text wD s (by omega)
            have HTK := Lib.hid (takeHeader_st (some ⟨wD.heap.size, 0, none⟩) s.size cs (natsOf s) wW hbs (fun h => by cases h) (by omega))
            have HEW := Lib.hid (ext_trans HEC.out hE)
            clear hc1 hc2 hbs hE
            go_wp2_with fail
            refine (HTK.out).mono ?_
            rintro e w9 ⟨hE, hmm⟩
            have HE9 := Lib.hid (ext_trans HEW.out hE)
            clear hE hcv HTK HEW
            cases hth : thL (natsOf s) with
            | none =>
              rw [hth] at hmm
              obtain ⟨y, hy, rfl⟩ := hmm
              clear hth
              have HED := Lib.hid (ext_alloc HE9.out (.cells zeroH 25))
              simp only [zeroH] at HED ⊢
              go_upto_region 20 with fail
              obtain ⟨wE, hwE⟩ : ∃ q : World, q = w9.alloc (.cells #[.int .i64 0, .int .i64 0, .int .i64 0, .int .u32 0, .string ⟨#[]⟩, .slice none 0 0] 25) := ⟨_, rfl⟩
              rw [← hwE] at HED ⊢
              clear hwE hy
              obtain ⟨cd, wF, hcv, hc1, hc2, hbs, hE⟩ := Com.conv_text wE s (by omega)
              have HTK := Lib.hid (take_st (some ⟨wE.heap.size, 0, none⟩) s.size cd (natsOf s) n wF hbs (fun h => by cases h) (by omega))
              have HEF := Lib.hid (ext_trans HED.out hE)
              have HCVH := Lib.hid hcv
              clear hc1 hc2 hbs hE hcv
              have hcv := HCVH.out
              go_wp2_with fail
              refine (HTK.out).mono ?_
              rintro e wG ⟨hE, hmm⟩
              have HEG := Lib.hid (ext_trans HEF.out hE)
              clear hE hcv HCVH HTK HEF
              cases htl : takeL n (natsOf s) with
              | none =>
                rw [htl] at hmm
                obtain ⟨y, hy, rfl⟩ := hmm
                clear htl
                go_wp2_with fail
                refine (wakes _).mono ?_
                rintro e wH ⟨rfl, hE⟩
                have HEZ := Lib.hid (ext_trans HEG.out hE)
                clear hE
                go_wp2_with fail
                go_ret
                exact ⟨rfl, HEZ.out⟩
              | some es =>
                rw [htl] at hmm
                obtain ⟨v, rfl, hO⟩ := hmm
                obtain ⟨hpt, hft⟩ := put_take (mem_small (natsOf_small s)) htl
                obtain ⟨Ae, ce, rfl, s1, s2, s3, s4⟩ := hO.shape
                have hne : (es.map En.ev).length ≤ 1000000 := by
                  have := take_len htl
                  rw [natsOf_len] at this
                  omega
                have HPU := Lib.hid (put_st Ae (es.map En.ev).length ce (es.map En.ev) n wG (OwnR.row cV_len hO) hft hne)
                have HPT := Lib.hid hpt
                clear htl hO s1 s2 s3 s4 hpt hft hne
                generalize (es.map En.ev).length = ne at *
                go_wp2_with fail
                refine (HPU.out).mono ?_
                rintro e wH ⟨hE, hmm⟩
                rw [HPT.out] at hmm
                obtain ⟨v, rfl, hO⟩ := hmm
                have HEH := Lib.hid (ext_trans HEG.out hE)
                obtain ⟨Af, cf, rfl, s1, s2, s3, s4⟩ := hO.shape
                have hcv := ((hO.bs (natsOf_small s)).2).conv (P := Try.prog) 29 5 9 Try.underlying29 Try.underlying5 Try.underlying9 cf
                rw [strOf_nats] at hcv
                clear hE hO s1 s2 s3 s4 HPU HPT HEG
                generalize (natsOf s).length = nf at *
                go_wp2_with fail
                refine (wakes _).mono ?_
                rintro e wI ⟨rfl, hE⟩
                have HEZ := Lib.hid (ext_trans HEH.out hE)
                clear hE
                go_wp2_with fail
                go_ret
                exact ⟨rfl, HEZ.out⟩
            | some hv =>
              rw [hth] at hmm
              obtain ⟨v, rfl, hO⟩ := hmm
              obtain ⟨hmy, henc, hsd, hfv, htv⟩ := header_take (mem_small (natsOf_small s)) hth
              obtain ⟨Ag, cg, rfl, s1, s2, s3, s4⟩ := hO.shape
              have hea := ext_alloc (Ext.rfl' w9) (.cells (cH hv (.slice Ag hv.starts.length cg)) 25)
              have hrow := OwnR.row cS_len hO
              have h8 : hv.starts.length ≤ 1000000 := by have := hmy.2.2.2.1; omega
              have HHD := Lib.hid (header_st hv Ag hv.starts.length cg _ (hrow.ext hea) hfv (by omega) h8 hsd (by have := hmy.1.1; omega) (by have := hmy.1.2.1; omega) (by have := hmy.1.2.2.1; omega) (by have := hmy.1.2.2.2.1; omega))
              have HMM := Lib.hid hmy; have HENC := Lib.hid henc
              have HEA := Lib.hid (ext_trans HE9.out hea)
              clear hth hO hmy henc hsd hfv htv s1 s2 s3 s4 hea hrow h8
              generalize hv.starts.length = ng at *
              simp only [cH] at HHD HEA ⊢
              go_wp2_with fail
              refine (HHD.out).mono ?_
              rintro e wE ⟨hE, hmm⟩
              rw [if_pos HMM.out, HENC.out] at hmm
              obtain ⟨v, rfl, hO⟩ := hmm
              have HED := Lib.hid (ext_trans HEA.out hE)
              obtain ⟨Ah, ch, rfl, s1, s2, s3, s4⟩ := hO.shape
              have hcv := ((hO.bs (natsOf_small s)).2).conv (P := Try.prog) 29 5 9 Try.underlying29 Try.underlying5 Try.underlying9 ch
              rw [strOf_nats] at hcv
              clear hE hO s1 s2 s3 s4 HHD HMM HENC HEA
              generalize (natsOf s).length = nf at *
              go_upto_region 20 with fail
              clear hcv
              obtain ⟨cd, wF, hcv, hc1, hc2, hbs, hE⟩ := Com.conv_text wE s (by omega)
              have HTK := Lib.hid (take_st (some ⟨wE.heap.size, 0, none⟩) s.size cd (natsOf s) n wF hbs (fun h => by cases h) (by omega))
              have HEF := Lib.hid (ext_trans HED.out hE)
              have HCVH := Lib.hid hcv
              clear hc1 hc2 hbs hE hcv
              have hcv := HCVH.out
              go_wp2_with fail
              refine (HTK.out).mono ?_
              rintro e wG ⟨hE, hmm⟩
              have HEG := Lib.hid (ext_trans HEF.out hE)
              clear hE hcv HCVH HTK HEF
              cases htl : takeL n (natsOf s) with
              | none =>
                rw [htl] at hmm
                obtain ⟨y, hy, rfl⟩ := hmm
                clear htl
                go_wp2_with fail
                refine (wakes _).mono ?_
                rintro e wH ⟨rfl, hE⟩
                have HEZ := Lib.hid (ext_trans HEG.out hE)
                clear hE
                go_wp2_with fail
                go_ret
                exact ⟨rfl, HEZ.out⟩
              | some es =>
                rw [htl] at hmm
                obtain ⟨v, rfl, hO⟩ := hmm
                obtain ⟨hpt, hft⟩ := put_take (mem_small (natsOf_small s)) htl
                obtain ⟨Ae, ce, rfl, s1, s2, s3, s4⟩ := hO.shape
                have hne : (es.map En.ev).length ≤ 1000000 := by
                  have := take_len htl
                  rw [natsOf_len] at this
                  omega
                have HPU := Lib.hid (put_st Ae (es.map En.ev).length ce (es.map En.ev) n wG (OwnR.row cV_len hO) hft hne)
                have HPT := Lib.hid hpt
                clear htl hO s1 s2 s3 s4 hpt hft hne
                generalize (es.map En.ev).length = ne at *
                go_wp2_with fail
                refine (HPU.out).mono ?_
                rintro e wH ⟨hE, hmm⟩
                rw [HPT.out] at hmm
                obtain ⟨v, rfl, hO⟩ := hmm
                have HEH := Lib.hid (ext_trans HEG.out hE)
                obtain ⟨Af, cf, rfl, s1, s2, s3, s4⟩ := hO.shape
                have hcv := ((hO.bs (natsOf_small s)).2).conv (P := Try.prog) 29 5 9 Try.underlying29 Try.underlying5 Try.underlying9 cf
                rw [strOf_nats] at hcv
                clear hE hO s1 s2 s3 s4 HPU HPT HEG
                generalize (natsOf s).length = nf at *
                go_wp2_with fail
                refine (wakes _).mono ?_
                rintro e wI ⟨rfl, hE⟩
                have HEZ := Lib.hid (ext_trans HEH.out hE)
                clear hE
                go_wp2_with fail
                go_ret
                exact ⟨rfl, HEZ.out⟩
          | some L =>
            rw [hpu] at hmm
            obtain ⟨v, rfl, hO⟩ := hmm
            obtain ⟨es, hes, htl⟩ := take_put HFL.out (by rw [HLE.out]; omega) hpu
            have hLs := putL_small HFL.out hpu
            have hLl := putL_len HFL.out (by rw [HLE.out]; omega) hpu
            obtain ⟨A7, c7, rfl, s1, s2, s3, s4⟩ := hO.shape
            have HTK := Lib.hid (take_st A7 L.length c7 L n w7 (hO.bs (small_mem hLs)).2 s3 (by omega))
            have HES := Lib.hid hes; have HTL := Lib.hid htl
            clear hpu hO hes htl hLs hLl s1 s2 s3 s4
            generalize L.length = n7 at *
            go_wp2_with fail
            refine (HTK.out).mono ?_
            rintro e w8 ⟨hE, hmm⟩
            rw [HTL.out] at hmm
            obtain ⟨v, rfl, hO⟩ := hmm
            rw [← HES.out] at hO
            obtain ⟨A8, c8', rfl, s1, s2, s3, s4⟩ := hO.shape
            have hrow := OwnR.row cV_len hO
            have HE8 := Lib.hid (ext_trans HE7.out hE)
            have hle := HLE.out
            rw [hle] at hrow ⊢
            have HRW := Lib.hid (row_st evs A8 Al ml c8' cl w8 hrow (HBL.out.ext HE8.out) (by omega))
            clear hle hrow hO s1 s2 s3 s4 hE HTK HES HTL
            go_wp2_with fail
            refine (HRW.out).mono ?_
            rintro e wD ⟨rfl, hE⟩
            have HEC := Lib.hid (ext_trans HE8.out hE)
            clear hE HRW HE8
            go_upto_region 15 with fail
            obtain ⟨cs, wW, hcv, hc1, hc2, hbs, hE⟩ := Com.conv_text wD s (by omega)
            have HTK := Lib.hid (takeHeader_st (some ⟨wD.heap.size, 0, none⟩) s.size cs (natsOf s) wW hbs (fun h => by cases h) (by omega))
            have HEW := Lib.hid (ext_trans HEC.out hE)
            clear hc1 hc2 hbs hE
            go_wp2_with fail
            refine (HTK.out).mono ?_
            rintro e w9 ⟨hE, hmm⟩
            have HE9 := Lib.hid (ext_trans HEW.out hE)
            clear hE hcv HTK HEW
            cases hth : thL (natsOf s) with
            | none =>
              rw [hth] at hmm
              obtain ⟨y, hy, rfl⟩ := hmm
              clear hth
              have HED := Lib.hid (ext_alloc HE9.out (.cells zeroH 25))
              simp only [zeroH] at HED ⊢
              go_upto_region 20 with fail
              obtain ⟨wE, hwE⟩ : ∃ q : World, q = w9.alloc (.cells #[.int .i64 0, .int .i64 0, .int .i64 0, .int .u32 0, .string ⟨#[]⟩, .slice none 0 0] 25) := ⟨_, rfl⟩
              rw [← hwE] at HED ⊢
              clear hwE hy
              obtain ⟨cd, wF, hcv, hc1, hc2, hbs, hE⟩ := Com.conv_text wE s (by omega)
              have HTK := Lib.hid (take_st (some ⟨wE.heap.size, 0, none⟩) s.size cd (natsOf s) n wF hbs (fun h => by cases h) (by omega))
              have HEF := Lib.hid (ext_trans HED.out hE)
              have HCVH := Lib.hid hcv
              clear hc1 hc2 hbs hE hcv
              have hcv := HCVH.out
              go_wp2_with fail
              refine (HTK.out).mono ?_
              rintro e wG ⟨hE, hmm⟩
              have HEG := Lib.hid (ext_trans HEF.out hE)
              clear hE hcv HCVH HTK HEF
              cases htl : takeL n (natsOf s) with
              | none =>
                rw [htl] at hmm
                obtain ⟨y, hy, rfl⟩ := hmm
                clear htl
                go_wp2_with fail
                refine (wakes _).mono ?_
                rintro e wH ⟨rfl, hE⟩
                have HEZ := Lib.hid (ext_trans HEG.out hE)
                clear hE
                go_wp2_with fail
                go_ret
                exact ⟨rfl, HEZ.out⟩
              | some es =>
                rw [htl] at hmm
                obtain ⟨v, rfl, hO⟩ := hmm
                obtain ⟨hpt, hft⟩ := put_take (mem_small (natsOf_small s)) htl
                obtain ⟨Ae, ce, rfl, s1, s2, s3, s4⟩ := hO.shape
                have hne : (es.map En.ev).length ≤ 1000000 := by
                  have := take_len htl
                  rw [natsOf_len] at this
                  omega
                have HPU := Lib.hid (put_st Ae (es.map En.ev).length ce (es.map En.ev) n wG (OwnR.row cV_len hO) hft hne)
                have HPT := Lib.hid hpt
                clear htl hO s1 s2 s3 s4 hpt hft hne
                generalize (es.map En.ev).length = ne at *
                go_wp2_with fail
                refine (HPU.out).mono ?_
                rintro e wH ⟨hE, hmm⟩
                rw [HPT.out] at hmm
                obtain ⟨v, rfl, hO⟩ := hmm
                have HEH := Lib.hid (ext_trans HEG.out hE)
                obtain ⟨Af, cf, rfl, s1, s2, s3, s4⟩ := hO.shape
                have hcv := ((hO.bs (natsOf_small s)).2).conv (P := Try.prog) 29 5 9 Try.underlying29 Try.underlying5 Try.underlying9 cf
                rw [strOf_nats] at hcv
                clear hE hO s1 s2 s3 s4 HPU HPT HEG
                generalize (natsOf s).length = nf at *
                go_wp2_with fail
                refine (wakes _).mono ?_
                rintro e wI ⟨rfl, hE⟩
                have HEZ := Lib.hid (ext_trans HEH.out hE)
                clear hE
                go_wp2_with fail
                go_ret
                exact ⟨rfl, HEZ.out⟩
            | some hv =>
              rw [hth] at hmm
              obtain ⟨v, rfl, hO⟩ := hmm
              obtain ⟨hmy, henc, hsd, hfv, htv⟩ := header_take (mem_small (natsOf_small s)) hth
              obtain ⟨Ag, cg, rfl, s1, s2, s3, s4⟩ := hO.shape
              have hea := ext_alloc (Ext.rfl' w9) (.cells (cH hv (.slice Ag hv.starts.length cg)) 25)
              have hrow := OwnR.row cS_len hO
              have h8 : hv.starts.length ≤ 1000000 := by have := hmy.2.2.2.1; omega
              have HHD := Lib.hid (header_st hv Ag hv.starts.length cg _ (hrow.ext hea) hfv (by omega) h8 hsd (by have := hmy.1.1; omega) (by have := hmy.1.2.1; omega) (by have := hmy.1.2.2.1; omega) (by have := hmy.1.2.2.2.1; omega))
              have HMM := Lib.hid hmy; have HENC := Lib.hid henc
              have HEA := Lib.hid (ext_trans HE9.out hea)
              clear hth hO hmy henc hsd hfv htv s1 s2 s3 s4 hea hrow h8
              generalize hv.starts.length = ng at *
              simp only [cH] at HHD HEA ⊢
              go_wp2_with fail
              refine (HHD.out).mono ?_
              rintro e wE ⟨hE, hmm⟩
              rw [if_pos HMM.out, HENC.out] at hmm
              obtain ⟨v, rfl, hO⟩ := hmm
              have HED := Lib.hid (ext_trans HEA.out hE)
              obtain ⟨Ah, ch, rfl, s1, s2, s3, s4⟩ := hO.shape
              have hcv := ((hO.bs (natsOf_small s)).2).conv (P := Try.prog) 29 5 9 Try.underlying29 Try.underlying5 Try.underlying9 ch
              rw [strOf_nats] at hcv
              clear hE hO s1 s2 s3 s4 HHD HMM HENC HEA
              generalize (natsOf s).length = nf at *
              go_upto_region 20 with fail
              clear hcv
              obtain ⟨cd, wF, hcv, hc1, hc2, hbs, hE⟩ := Com.conv_text wE s (by omega)
              have HTK := Lib.hid (take_st (some ⟨wE.heap.size, 0, none⟩) s.size cd (natsOf s) n wF hbs (fun h => by cases h) (by omega))
              have HEF := Lib.hid (ext_trans HED.out hE)
              have HCVH := Lib.hid hcv
              clear hc1 hc2 hbs hE hcv
              have hcv := HCVH.out
              go_wp2_with fail
              refine (HTK.out).mono ?_
              rintro e wG ⟨hE, hmm⟩
              have HEG := Lib.hid (ext_trans HEF.out hE)
              clear hE hcv HCVH HTK HEF
              cases htl : takeL n (natsOf s) with
              | none =>
                rw [htl] at hmm
                obtain ⟨y, hy, rfl⟩ := hmm
                clear htl
                go_wp2_with fail
                refine (wakes _).mono ?_
                rintro e wH ⟨rfl, hE⟩
                have HEZ := Lib.hid (ext_trans HEG.out hE)
                clear hE
                go_wp2_with fail
                go_ret
                exact ⟨rfl, HEZ.out⟩
              | some es =>
                rw [htl] at hmm
                obtain ⟨v, rfl, hO⟩ := hmm
                obtain ⟨hpt, hft⟩ := put_take (mem_small (natsOf_small s)) htl
                obtain ⟨Ae, ce, rfl, s1, s2, s3, s4⟩ := hO.shape
                have hne : (es.map En.ev).length ≤ 1000000 := by
                  have := take_len htl
                  rw [natsOf_len] at this
                  omega
                have HPU := Lib.hid (put_st Ae (es.map En.ev).length ce (es.map En.ev) n wG (OwnR.row cV_len hO) hft hne)
                have HPT := Lib.hid hpt
                clear htl hO s1 s2 s3 s4 hpt hft hne
                generalize (es.map En.ev).length = ne at *
                go_wp2_with fail
                refine (HPU.out).mono ?_
                rintro e wH ⟨hE, hmm⟩
                rw [HPT.out] at hmm
                obtain ⟨v, rfl, hO⟩ := hmm
                have HEH := Lib.hid (ext_trans HEG.out hE)
                obtain ⟨Af, cf, rfl, s1, s2, s3, s4⟩ := hO.shape
                have hcv := ((hO.bs (natsOf_small s)).2).conv (P := Try.prog) 29 5 9 Try.underlying29 Try.underlying5 Try.underlying9 cf
                rw [strOf_nats] at hcv
                clear hE hO s1 s2 s3 s4 HPU HPT HEG
                generalize (natsOf s).length = nf at *
                go_wp2_with fail
                refine (wakes _).mono ?_
                rintro e wI ⟨rfl, hE⟩
                have HEZ := Lib.hid (ext_trans HEH.out hE)
                clear hE
                go_wp2_with fail
                go_ret
                exact ⟨rfl, HEZ.out⟩
end Go.Proofs.Ytlldmpcamdginaa.Log
