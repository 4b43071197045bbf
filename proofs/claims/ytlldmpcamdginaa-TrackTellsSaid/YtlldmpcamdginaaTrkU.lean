/- Tracks: TrackGoes walked. -/
import Derived.Test.YtlldmpcamdginaaTrkS
import Derived.Test.YtlldmpcamdginaaTrkT
import Derived.Test.YtlldmpcamdginaaTrkQ
import Derived.Test.YtlldmpcamdginaaTrkN
import Derived.Test.YtlldmpcamdginaaG5
namespace Go.Proofs.Ytlldmpcamdginaa.Trk
open Go.ChangeShapes Go.WideShapes Go.ChangeAt Go.RowKit
open Go.Proofs.Ytlldmpcamdginaa.Wire
open Go.Proofs.Ytlldmpcamdginaa.Rec
set_option linter.unusedVariables false
theorem encP_len (n : Int) (hn : n ≤ 4096) : ∀ (ps : List Pt) (last lm : Int), 0 ≤ last → last ≤ lm + 1 → mayC n lm ps = true → (encP last ps).length ≤ 30 * ps.length ∧ ∀ c ∈ encP last ps, c < 256
  | [], _, _, _, _, _ => by simp [encP]
  | p :: ps, last, lm, h0, h1, h => by
    rw [mayC, Bool.and_eq_true, decide_eq_true_iff] at h
    obtain ⟨⟨a1, a2, a3, a4, a5, a6⟩, h2⟩ := h
    have ih := encP_len n hn ps p.tick p.tick (by omega) (by omega) h2
    have b1 := vb_ten (n := (p.tick - last).toNat) (by omega)
    have b2 := vb_ten (n := p.x.toNat) (by omega)
    have b3 := vb_ten (n := p.y.toNat) (by omega)
    refine ⟨?_, fun c hc => ?_⟩
    · rw [encP, List.length_append, List.length_append, List.length_append, List.length_cons]
      omega
    · rw [encP] at hc
      rcases List.mem_append.1 hc with hc | hc
      · rcases List.mem_append.1 hc with hc | hc
        · exact vb_mem _ c hc
        · rcases List.mem_append.1 hc with hc | hc
          · exact vb_mem _ c hc
          · exact vb_mem _ c hc
      · exact ih.2 c hc
theorem encC_len {n : Int} (hn : n ≤ 4096) {ps : List Pt} (h : mayCam n ps = true) : (encC ps).length ≤ 2000 ∧ ∀ c ∈ encC ps, c < 256 := by
  have hl := mayCam_len h
  have h1 := encP_len n hn ps 0 (-1) (by omega) (by omega) (by have := mayCam_c h; simpa using this)
  have b1 := vb_ten (n := ps.length) (by omega)
  refine ⟨by rw [encC, List.length_append]; omega, fun c hc => ?_⟩
  rw [encC] at hc
  rcases List.mem_append.1 hc with hc | hc
  · exact vb_mem _ c hc
  · exact h1.2 c hc
theorem encMs_len (n : Int) (hn : n ≤ 4096) : ∀ (ms : List Mk) (last : Int), 0 ≤ last → mayM n last ms = true → (encMs last ms).length ≤ 60 * ms.length ∧ ∀ c ∈ encMs last ms, c < 256
  | [], _, _, _ => by simp [encMs]
  | m :: ms, last, h0, h => by
    rw [mayM, Bool.and_eq_true, Bool.and_eq_true, decide_eq_true_iff, decide_eq_true_iff] at h
    obtain ⟨h1, ⟨a1, a2, a3⟩, h2⟩ := h
    have ih := encMs_len n hn ms m.tick (by omega) h2
    have b1 := vb_ten (n := (m.tick - last).toNat) (by omega)
    have b2 := vb_ten (n := m.name.size) (by omega)
    have b3 := natsOf_len m.name
    refine ⟨?_, fun c hc => ?_⟩
    · rw [encMs, List.length_append, List.length_append, List.length_append, List.length_cons]
      omega
    · rw [encMs] at hc
      rcases List.mem_append.1 hc with hc | hc
      · rcases List.mem_append.1 hc with hc | hc
        · exact vb_mem _ c hc
        · rcases List.mem_append.1 hc with hc | hc
          · exact vb_mem _ c hc
          · exact mem_small (natsOf_small m.name) c hc
      · exact ih.2 c hc
theorem encT_both {n : Int} {x : Tk} (h : mayT n x = true) : (encT x).length ≤ 1000000 ∧ ∀ c ∈ encT x, c < 256 := by
  obtain ⟨hn, hm, ⟨a, b, c, d⟩, e⟩ := mayT_parts h
  have h0 := encC_len hn.2 a; have h1 := encC_len hn.2 b; have h2 := encC_len hn.2 c; have h3 := encC_len hn.2 d
  have h4 := encMs_len n hn.2 x.marks 0 (by omega) e
  have h5 := vb_ten (n := x.marks.length) (by omega)
  have he : encT x = encC x.c0 ++ (encC x.c1 ++ (encC x.c2 ++ (encC x.c3 ++ (vb x.marks.length ++ encMs 0 x.marks)))) := by simp [encT, Tk.cams, encM]
  rw [he]
  refine ⟨by simp only [List.length_append]; omega, fun q hq => ?_⟩
  rcases List.mem_append.1 hq with hq | hq
  · exact h0.2 q hq
  rcases List.mem_append.1 hq with hq | hq
  · exact h1.2 q hq
  rcases List.mem_append.1 hq with hq | hq
  · exact h2.2 q hq
  rcases List.mem_append.1 hq with hq | hq
  · exact h3.2 q hq
  rcases List.mem_append.1 hq with hq | hq
  · exact vb_mem _ q hq
  · exact h4.2 q hq
theorem encT_len {n : Int} {x : Tk} (h : mayT n x = true) : (encT x).length ≤ 1000000 := (encT_both h).1
theorem encT_small {n : Int} {x : Tk} (h : mayT n x = true) : ∀ c ∈ encT x, c < 256 := (encT_both h).2
theorem mod4 (p : Int) : ∃ (u : Int) (k : Nat), -4 < u ∧ u < 4 ∧ k < 4 ∧ p.tmod 4 = u ∧ (u + 4).tmod 4 = (k : Int) ∧ (u + 4) % 4 = (k : Int) := by
  have h1 : -4 < Int.tmod p 4 ∧ Int.tmod p 4 < 4 := by
    rcases Int.le_total 0 p with h | h
    · have := Int.tmod_nonneg 4 h; have := Int.tmod_lt_of_pos p (show (0 : Int) < 4 by omega); omega
    · have h2 : Int.tmod p 4 = - Int.tmod (-p) 4 := by rw [Int.neg_tmod]; omega
      have := Int.tmod_nonneg 4 (show 0 ≤ -p by omega); have := Int.tmod_lt_of_pos (-p) (show (0 : Int) < 4 by omega); omega
  obtain ⟨u, hu⟩ : ∃ u, u = Int.tmod p 4 := ⟨_, rfl⟩
  rw [← hu] at h1
  have h2 : (u + 4).tmod 4 = (u + 4) % 4 := Int.tmod_eq_emod_of_nonneg (by omega)
  exact ⟨u, ((u + 4) % 4).toNat, h1.1, h1.2, by omega, hu.symm, by omega, by omega⟩
theorem goes_any (t : Tv) (x : Tk) (k : Nat) (hk : k < 4) (n : Int) (w : World) (hT : TkV w t x) (hm : mayT n x = true) :
    Calls Try.prog 30 #[.agg t.cells, .int .i64 (k : Int), .int .i64 n] w fun e w' => e = .returned (.bool true) ∧ Ext w w' := by
  obtain ⟨hn, hl, ⟨a, b, c, d⟩, e⟩ := mayT_parts hm
  rcases (show k = 0 ∨ k = 1 ∨ k = 2 ∨ k = 3 by omega) with rfl | rfl | rfl | rfl
  · exact goes_st t 0 (by omega) _ _ _ rfl x.c0 n w hT.1 (ord_of hn.2 _ (-1) (by omega) (by have := mayCam_c a; simpa using this)).1 (by have := mayCam_len a; have := hT.1.1.1; omega)
  · exact goes_st t 1 (by omega) _ _ _ rfl x.c1 n w hT.2.1 (ord_of hn.2 _ (-1) (by omega) (by have := mayCam_c b; simpa using this)).1 (by have := mayCam_len b; have := hT.2.1.1.1; omega)
  · exact goes_st t 2 (by omega) _ _ _ rfl x.c2 n w hT.2.2.1 (ord_of hn.2 _ (-1) (by omega) (by have := mayCam_c c; simpa using this)).1 (by have := mayCam_len c; have := hT.2.2.1.1.1; omega)
  · exact goes_st t 3 (by omega) _ _ _ rfl x.c3 n w hT.2.2.2.1 (ord_of hn.2 _ (-1) (by omega) (by have := mayCam_c d; simpa using this)).1 (by have := mayCam_len d; have := hT.2.2.2.1.1.1; omega)
theorem small_len {x : Tk} (h : Small x) : (∀ c ∈ x.cams, c.length ≤ 1000000) ∧ x.marks.length ≤ 1000000 := ⟨fun c hc => by have := h.2.2 c hc; omega, by have := h.1; omega⟩
set_option maxHeartbeats 16000000 in
set_option maxRecDepth 100000 in
theorem trackGoes (t : Tv) (x : Tk) (n player : Int) (s : ByteArray) (w : World) (hB : RfV w t x) (hz : Room x) (hn1 : -9223372036854775808 ≤ n) (hn2 : n ≤ 9223372036854775807) (hp1 : -9223372036854775808 ≤ player) (hp2 : player ≤ 9223372036854775807) (hs : s.size ≤ 9223372036854775807) :
    Calls Try.prog 5 #[.agg t.cells, .int .i64 n, .int .i64 player, .string s] w fun e w' => e = .returned (.bool true) ∧ Ext w w' := by
  have HWK := Lib.hid wakes_tr
  have HE0 := Lib.hid (ext_alloc (Ext.rfl' w) (.cells t.cells 47))
  have HH0 := Lib.hid (Blk.new w 47 t.cells)
  have HX0 := Lib.hid (hB.ext HE0.out)
  have HOF := Lib.hid (of_tr t x _ HX0.out hz)
  have HGR := Lib.hid (fun (W : World) (e : RfV W t x) => great_tr t x W e)
  clear hB hz
  obtain ⟨⟨E0, l0, g0⟩, ⟨E1, l1, g1⟩, ⟨E2, l2, g2⟩, ⟨E3, l3, g3⟩, ⟨Em, lm, gm⟩⟩ := t
  simp only [Tv.cells] at *
  go_enter Try.func5, Try.ntmps5
  go_upto_region 1 with fail
  obtain ⟨w0, hw0⟩ : ∃ q, q = w.alloc (.cells #[.slice E0 l0 g0, .slice E1 l1 g1, .slice E2 l2 g2, .slice E3 l3 g3, .slice Em lm gm] 47) := ⟨_, rfl⟩
  obtain ⟨db, hdb⟩ : ∃ q, q = w.heap.size := ⟨_, rfl⟩
  rw [← hw0] at HE0 HH0 HX0 HOF ⊢
  rw [← hdb] at HH0 ⊢
  clear hw0 hdb
  have hd := fun i => HH0.out.cell i
  go_wp2_with fail
  refine (HOF.out).mono ?_
  rintro e w1 ⟨hE, ⟨⟨A0, n0, c0⟩, ⟨A1, n1, c1⟩, ⟨A2, n2, c2⟩, ⟨A3, n3, c3⟩, ⟨Am, nm, cm⟩⟩, b, rfl, hof⟩
  simp only [Tv.cells]
  clear hd HOF
  have hx1 := ext_trans hE (ext_alloc (Ext.rfl' w1) (.cells #[.slice A0 n0 c0, .slice A1 n1 c1, .slice A2 n2 c2, .slice A3 n3 c3, .slice Am nm cm] 54))
  have HB2 := Lib.hid (Blk.new w1 54 #[.slice A0 n0 c0, .slice A1 n1 c1, .slice A2 n2 c2, .slice A3 n3 c3, .slice Am nm cm])
  have HOF := Lib.hid (fun h : b = true => And.intro ((hof h).1.ext (ext_alloc (Ext.rfl' w1) (.cells #[.slice A0 n0 c0, .slice A1 n1 c1, .slice A2 n2 c2, .slice A3 n3 c3, .slice Am nm cm] 54))) (hof h).2)
  go_upto_region 2 with fail
  obtain ⟨w2, hw2⟩ : ∃ q : World, q = w1.alloc (.cells #[.slice A0 n0 c0, .slice A1 n1 c1, .slice A2 n2 c2, .slice A3 n3 c3, .slice Am nm cm] 54) := ⟨_, rfl⟩
  obtain ⟨ab, hab⟩ : ∃ q, q = w1.heap.size := ⟨_, rfl⟩
  rw [← hw2] at hx1 HB2 HOF ⊢
  rw [← hab] at HB2 ⊢
  clear hw2 hab hof hE
  have HE2 := Lib.hid (ext_trans HE0.out hx1); have HX2 := Lib.hid (HX0.out.ext hx1); have HH2 := Lib.hid (HH0.out.ext hx1)
  clear hx1 HX0 HH0
  cases b with
  | false =>
    go_wp2_with fail
    refine (HWK.out _).mono ?_
    rintro e wz ⟨rfl, hz⟩
    go_wp2_with fail
    go_ret
    exact ⟨rfl, ext_trans HE2.out hz⟩
  | true =>
    obtain ⟨hT, hW⟩ := HOF.out rfl
    have HT2 := Lib.hid hT
    have HWN : Hid (∀ c ∈ x.cams, ∀ p ∈ c, (-2147483648 ≤ p.x ∧ p.x ≤ 2147483647) ∧ -2147483648 ≤ p.y ∧ p.y ≤ 2147483647) := Lib.hid (fun c hc p hp => by
      obtain ⟨⟨q1, q2⟩, q3, q4⟩ := hW c hc p hp; exact ⟨⟨by omega, by omega⟩, by omega, by omega⟩)
    clear hT hW HOF
    have HG := Lib.hid (HGR.out w2 HX2.out)
    have hd := fun i => HH2.out.cell i
    go_wp2_with fail
    refine (HG.out).mono ?_
    rintro e w3 ⟨g, rfl, hE, hsm⟩
    clear hd HG HGR
    have HE3 := Lib.hid (ext_trans HE2.out hE); have HX3 := Lib.hid (HX2.out.ext hE); have HB3 := Lib.hid (HB2.out.ext hE); have HT3 := Lib.hid (HT2.out.ext hE)
    have HH3 := Lib.hid (HH2.out.ext hE)
    cases g with
    | true =>
      go_wp2_with fail
      refine (HWK.out _).mono ?_
      rintro e wz ⟨rfl, hz⟩
      go_wp2_with fail
      go_ret
      exact ⟨rfl, ext_trans HE3.out hz⟩
    | false =>
      have HLL := Lib.hid (small_len (hsm rfl))
      clear hE hsm HE2 HX2 HB2 HT2
      by_cases h5 : 5000 < s.size
      · have h5' : (5000 : Int) < (s.size : Int) := by omega
        go_wp2_with fail
        refine (HWK.out _).mono ?_
        rintro e wz ⟨rfl, hz⟩
        go_wp2_with fail
        go_ret
        exact ⟨rfl, ext_trans HE3.out hz⟩
      · have h5' : ¬ (5000 : Int) < (s.size : Int) := by omega
        have HBT := Lib.hid (bytes_st ⟨⟨A0, n0, c0⟩, ⟨A1, n1, c1⟩, ⟨A2, n2, c2⟩, ⟨A3, n3, c3⟩, ⟨Am, nm, cm⟩⟩ x n w3 HT3.out hn1 hn2)
        simp only [Tv.cells] at HBT
        have h := fun i => HB3.out.cell i
        go_wp2_with fail
        refine (HBT.out).mono ?_
        rintro e w4 ⟨hE, hmm⟩
        clear h HBT
        have HE4 := Lib.hid (ext_trans HE3.out hE); have HB4 := Lib.hid (HB3.out.ext hE); have HT4 := Lib.hid (HT3.out.ext hE); have HX4 := Lib.hid (HX3.out.ext hE); have HH4 := Lib.hid (HH3.out.ext hE)
        have HMY := Lib.hid (may_st ⟨⟨A0, n0, c0⟩, ⟨A1, n1, c1⟩, ⟨A2, n2, c2⟩, ⟨A3, n3, c3⟩, ⟨Am, nm, cm⟩⟩ x n w4 HT4.out hn1 hn2)
        simp only [Tv.cells] at HMY
        cases hmb : mayT n x with
        | false =>
          rw [if_neg (by rw [hmb]; exact Bool.false_ne_true)] at hmm
          subst hmm
          rw [hmb] at HMY
          have h := fun i => HB4.out.cell i
          clear hE hmb HE3 HB3 HT3 HX3 HH3
          go_wp2_with fail
          refine (HMY.out).mono ?_
          rintro e wD ⟨rfl, hE⟩
          have HED := Lib.hid (ext_trans HE4.out hE)
          clear h hE HMY HE4 HB4 HT4 HX4 HH4
          go_upto_region 11 with fail
          obtain ⟨cs, wW, hcv, hc1, hc2, hbs, hE⟩ := Com.conv_text wD s (by omega)
          have HTK := Lib.hid (take_tr (some ⟨wD.heap.size, 0, none⟩) s.size cs (natsOf s) n wW hbs (fun h => by cases h) (by omega) hn1 hn2)
          have HEW := Lib.hid (ext_trans HED.out hE)
          clear hc1 hc2 hbs hE
          go_wp2_with fail
          refine (HTK.out).mono ?_
          rintro e w9 ⟨hE, hmm⟩
          have HE9 := Lib.hid (ext_trans HEW.out hE)
          clear hE hcv HTK HEW
          cases hth : takeT n (natsOf s) with
          | none =>
            rw [hth] at hmm
            obtain ⟨y, hy, rfl⟩ := hmm
            clear hth
            simp only [zeroT]
            have HEF := Lib.hid (ext_alloc HE9.out (.cells #[.slice none 0 0, .slice none 0 0, .slice none 0 0, .slice none 0 0, .slice none 0 0] 54))
            go_upto_region 12 with fail
            obtain ⟨wE, hwE⟩ : ∃ q : World, q = w9.alloc (.cells #[.slice none 0 0, .slice none 0 0, .slice none 0 0, .slice none 0 0, .slice none 0 0] 54) := ⟨_, rfl⟩
            rw [← hwE] at HEF ⊢
            clear hwE
            go_wp2_with fail
            refine (HWK.out _).mono ?_
            rintro e wz ⟨rfl, hz⟩
            go_wp2_with fail
            go_ret
            exact ⟨rfl, ext_trans HEF.out hz⟩
          | some z =>
            rw [hth] at hmm
            obtain ⟨⟨⟨C0, k0, f0⟩, ⟨C1, k1, f1⟩, ⟨C2, k2, f2⟩, ⟨C3, k3, f3⟩, ⟨Cm, km, fm⟩⟩, rfl, hT⟩ := hmm
            obtain ⟨hmz, hez⟩ := put_takeT (mem_small (natsOf_small s)) hth
            simp only [Tv.cells]
            have HTZ := Lib.hid (hT.ext (ext_alloc (Ext.rfl' w9) (.cells #[.slice C0 k0 f0, .slice C1 k1 f1, .slice C2 k2 f2, .slice C3 k3 f3, .slice Cm km fm] 54)))
            have HEF := Lib.hid (ext_alloc HE9.out (.cells #[.slice C0 k0 f0, .slice C1 k1 f1, .slice C2 k2 f2, .slice C3 k3 f3, .slice Cm km fm] 54))
            have HBZ := Lib.hid (Blk.new w9 54 #[.slice C0 k0 f0, .slice C1 k1 f1, .slice C2 k2 f2, .slice C3 k3 f3, .slice Cm km fm])
            have HMZ := Lib.hid hmz; have HEZ := Lib.hid hez
            clear hth hT hmz hez
            go_upto_region 12 with fail
            obtain ⟨wE, hwE⟩ : ∃ q : World, q = w9.alloc (.cells #[.slice C0 k0 f0, .slice C1 k1 f1, .slice C2 k2 f2, .slice C3 k3 f3, .slice Cm km fm] 54) := ⟨_, rfl⟩
            obtain ⟨zb, hzb⟩ : ∃ q, q = w9.heap.size := ⟨_, rfl⟩
            rw [← hwE] at HEF HTZ HBZ ⊢
            rw [← hzb] at HBZ ⊢
            clear hwE hzb
            have HBY := Lib.hid (bytes_st ⟨⟨C0, k0, f0⟩, ⟨C1, k1, f1⟩, ⟨C2, k2, f2⟩, ⟨C3, k3, f3⟩, ⟨Cm, km, fm⟩⟩ z n wE HTZ.out hn1 hn2)
            simp only [Tv.cells] at HBY
            have h := fun i => HBZ.out.cell i
            go_wp2_with fail
            refine (HBY.out).mono ?_
            rintro e wF ⟨hE, hmm⟩
            rw [if_pos HMZ.out, HEZ.out] at hmm
            obtain ⟨v, rfl, hO⟩ := hmm
            have HEG := Lib.hid (ext_trans HEF.out hE)
            obtain ⟨Ah, ch, rfl, s1, s2, s3, s4⟩ := hO.shape
            have hcv := ((hO.bs (natsOf_small s)).2).conv (P := Try.prog) 29 5 9 Try.underlying29 Try.underlying5 Try.underlying9 ch
            rw [strOf_nats] at hcv
            clear h hE hO s1 s2 s3 s4 HBY
            generalize (natsOf s).length = nf at *
            go_wp2_with fail
            refine (HWK.out _).mono ?_
            rintro e wz ⟨rfl, hz⟩
            go_wp2_with fail
            go_ret
            exact ⟨rfl, ext_trans HEG.out hz⟩
        | true =>
          rw [if_pos hmb] at hmm
          obtain ⟨v, rfl, hO⟩ := hmm
          rw [hmb] at HMY
          obtain ⟨A7, c7, rfl, s1, s2, s3, s4⟩ := hO.shape
          have hsm := encT_small hmb
          have hbs := (hO.bs (small_mem hsm)).2
          have HLB := Lib.hid (encT_len hmb)
          have HBS := Lib.hid hbs; have HNL := Lib.hid s3
          have HTP := Lib.hid (takeT_put hmb)
          have HMB := Lib.hid hmb
          have h := fun i => HB4.out.cell i
          clear hE hmb hsm hbs hO s1 s2 s3 s4 HE3 HB3 HT3 HX3 HH3
          obtain ⟨L, hL⟩ : ∃ q, q = encT x := ⟨_, rfl⟩
          rw [← hL] at HLB HBS HNL HTP ⊢
          clear hL
          obtain ⟨n7, hn7⟩ : ∃ q, q = L.length := ⟨_, rfl⟩
          rw [← hn7] at HLB HBS HNL ⊢
          clear hn7
          go_wp2_with fail
          refine (HMY.out).mono ?_
          rintro e w5 ⟨rfl, hE⟩
          have HE5 := Lib.hid (ext_trans HE4.out hE); have HB5 := Lib.hid (HB4.out.ext hE); have HT5 := Lib.hid (HT4.out.ext hE); have HX5 := Lib.hid (HX4.out.ext hE); have HH5 := Lib.hid (HH4.out.ext hE)
          have HTK := Lib.hid (take_tr A7 n7 c7 L n w5 (HBS.out.ext hE) HNL.out HLB.out hn1 hn2)
          clear h hE HMY HE4 HB4 HT4 HX4 HH4 HBS HNL HLB
          go_wp2_with fail
          refine (HTK.out).mono ?_
          rintro e w6 ⟨hE, hmm⟩
          rw [HTP.out] at hmm
          obtain ⟨⟨⟨B0, m0, d0⟩, ⟨B1, m1, d1⟩, ⟨B2, m2, d2⟩, ⟨B3, m3, d3⟩, ⟨Bm, mm, dm⟩⟩, rfl, hT⟩ := hmm
          simp only [Tv.cells]
          have hx7 := ext_alloc (Ext.rfl' w6) (.cells #[.slice B0 m0 d0, .slice B1 m1 d1, .slice B2 m2 d2, .slice B3 m3 d3, .slice Bm mm dm] 54)
          have HY7 := Lib.hid (hT.ext hx7)
          have HZ7 := Lib.hid (Blk.new w6 54 #[.slice B0 m0 d0, .slice B1 m1 d1, .slice B2 m2 d2, .slice B3 m3 d3, .slice Bm mm dm])
          have hx8 := ext_trans hE hx7
          have HE7 := Lib.hid (ext_trans HE5.out hx8); have HB7 := Lib.hid (HB5.out.ext hx8); have HT7 := Lib.hid (HT5.out.ext hx8); have HX7 := Lib.hid (HX5.out.ext hx8); have HH7 := Lib.hid (HH5.out.ext hx8)
          clear hx7 hx8 hE hT HTK HTP HE5 HB5 HT5 HX5 HH5
          go_upto_region 9 with fail
          obtain ⟨w7, hw7⟩ : ∃ q : World, q = w6.alloc (.cells #[.slice B0 m0 d0, .slice B1 m1 d1, .slice B2 m2 d2, .slice B3 m3 d3, .slice Bm mm dm] 54) := ⟨_, rfl⟩
          obtain ⟨yb, hyb⟩ : ∃ q, q = w6.heap.size := ⟨_, rfl⟩
          rw [← hw7] at HY7 HZ7 HE7 HB7 HT7 HX7 HH7 ⊢
          rw [← hyb] at HZ7 ⊢
          clear hw7 hyb
          have HSM := Lib.hid (same_tr ⟨⟨B0, m0, d0⟩, ⟨B1, m1, d1⟩, ⟨B2, m2, d2⟩, ⟨B3, m3, d3⟩, ⟨Bm, mm, dm⟩⟩ ⟨⟨E0, l0, g0⟩, ⟨E1, l1, g1⟩, ⟨E2, l2, g2⟩, ⟨E3, l3, g3⟩, ⟨Em, lm, gm⟩⟩ x w7 HY7.out HX7.out HWN.out HLL.out)
          simp only [Tv.cells] at HSM
          have h := fun i => HB7.out.cell i
          have hz := fun i => HZ7.out.cell i
          have hd := fun i => HH7.out.cell i
          obtain ⟨u, k, hu1, hu2, hk4, t1, t2, t3⟩ := mod4 player
          have HGO := Lib.hid (fun (W : World) (e : Ext w7 W) => goes_any ⟨⟨A0, n0, c0⟩, ⟨A1, n1, c1⟩, ⟨A2, n2, c2⟩, ⟨A3, n3, c3⟩, ⟨Am, nm, cm⟩⟩ x k hk4 n W (HT7.out.ext e) HMB.out)
          simp only [Tv.cells] at HGO
          go_wp2_with fail
          refine (HSM.out).mono ?_
          rintro e w8 ⟨rfl, hE⟩
          have HX8 := Lib.hid hE
          have HE8 := Lib.hid (ext_trans HE7.out hE); have HB8 := Lib.hid (HB7.out.ext hE)
          clear hE h hz hd HSM
          have h := fun i => HB8.out.cell i
          go_wp2_with fail
          refine (HGO.out _ HX8.out).mono ?_
          rintro e wD ⟨rfl, hE⟩
          have HED := Lib.hid (ext_trans HE8.out hE)
          clear h hE HGO HE8 HB8 HX8 HE7 HB7 HT7 HX7 HH7 HY7 HZ7 hu1 hu2 t1 t2 t3
          go_upto_region 11 with fail
          obtain ⟨cs, wW, hcv, hc1, hc2, hbs, hE⟩ := Com.conv_text wD s (by omega)
          have HTK := Lib.hid (take_tr (some ⟨wD.heap.size, 0, none⟩) s.size cs (natsOf s) n wW hbs (fun h => by cases h) (by omega) hn1 hn2)
          have HEW := Lib.hid (ext_trans HED.out hE)
          clear hc1 hc2 hbs hE
          go_wp2_with fail
          refine (HTK.out).mono ?_
          rintro e w9 ⟨hE, hmm⟩
          have HE9 := Lib.hid (ext_trans HEW.out hE)
          clear hE hcv HTK HEW
          cases hth : takeT n (natsOf s) with
          | none =>
            rw [hth] at hmm
            obtain ⟨y, hy, rfl⟩ := hmm
            clear hth
            simp only [zeroT]
            have HEF := Lib.hid (ext_alloc HE9.out (.cells #[.slice none 0 0, .slice none 0 0, .slice none 0 0, .slice none 0 0, .slice none 0 0] 54))
            go_upto_region 12 with fail
            obtain ⟨wE, hwE⟩ : ∃ q : World, q = w9.alloc (.cells #[.slice none 0 0, .slice none 0 0, .slice none 0 0, .slice none 0 0, .slice none 0 0] 54) := ⟨_, rfl⟩
            rw [← hwE] at HEF ⊢
            clear hwE
            go_wp2_with fail
            refine (HWK.out _).mono ?_
            rintro e wz ⟨rfl, hz⟩
            go_wp2_with fail
            go_ret
            exact ⟨rfl, ext_trans HEF.out hz⟩
          | some z =>
            rw [hth] at hmm
            obtain ⟨⟨⟨C0, k0, f0⟩, ⟨C1, k1, f1⟩, ⟨C2, k2, f2⟩, ⟨C3, k3, f3⟩, ⟨Cm, km, fm⟩⟩, rfl, hT⟩ := hmm
            obtain ⟨hmz, hez⟩ := put_takeT (mem_small (natsOf_small s)) hth
            simp only [Tv.cells]
            have HTZ := Lib.hid (hT.ext (ext_alloc (Ext.rfl' w9) (.cells #[.slice C0 k0 f0, .slice C1 k1 f1, .slice C2 k2 f2, .slice C3 k3 f3, .slice Cm km fm] 54)))
            have HEF := Lib.hid (ext_alloc HE9.out (.cells #[.slice C0 k0 f0, .slice C1 k1 f1, .slice C2 k2 f2, .slice C3 k3 f3, .slice Cm km fm] 54))
            have HBZ := Lib.hid (Blk.new w9 54 #[.slice C0 k0 f0, .slice C1 k1 f1, .slice C2 k2 f2, .slice C3 k3 f3, .slice Cm km fm])
            have HMZ := Lib.hid hmz; have HEZ := Lib.hid hez
            clear hth hT hmz hez
            go_upto_region 12 with fail
            obtain ⟨wE, hwE⟩ : ∃ q : World, q = w9.alloc (.cells #[.slice C0 k0 f0, .slice C1 k1 f1, .slice C2 k2 f2, .slice C3 k3 f3, .slice Cm km fm] 54) := ⟨_, rfl⟩
            obtain ⟨zb, hzb⟩ : ∃ q, q = w9.heap.size := ⟨_, rfl⟩
            rw [← hwE] at HEF HTZ HBZ ⊢
            rw [← hzb] at HBZ ⊢
            clear hwE hzb
            have HBY := Lib.hid (bytes_st ⟨⟨C0, k0, f0⟩, ⟨C1, k1, f1⟩, ⟨C2, k2, f2⟩, ⟨C3, k3, f3⟩, ⟨Cm, km, fm⟩⟩ z n wE HTZ.out hn1 hn2)
            simp only [Tv.cells] at HBY
            have h := fun i => HBZ.out.cell i
            go_wp2_with fail
            refine (HBY.out).mono ?_
            rintro e wF ⟨hE, hmm⟩
            rw [if_pos HMZ.out, HEZ.out] at hmm
            obtain ⟨v, rfl, hO⟩ := hmm
            have HEG := Lib.hid (ext_trans HEF.out hE)
            obtain ⟨Ah, ch, rfl, s1, s2, s3, s4⟩ := hO.shape
            have hcv := ((hO.bs (natsOf_small s)).2).conv (P := Try.prog) 29 5 9 Try.underlying29 Try.underlying5 Try.underlying9 ch
            rw [strOf_nats] at hcv
            clear h hE hO s1 s2 s3 s4 HBY
            generalize (natsOf s).length = nf at *
            go_wp2_with fail
            refine (HWK.out _).mono ?_
            rintro e wz ⟨rfl, hz⟩
            go_wp2_with fail
            go_ret
            exact ⟨rfl, ext_trans HEG.out hz⟩
end Go.Proofs.Ytlldmpcamdginaa.Trk
