/- Contracts of package delta: the runs of a difference are read. -/
import Derived.Test.YtodmjkhfckokhaaDelV
namespace Go.Proofs.Ytodmjkhfckokhaa.Wire
open Go.ChangeShapes Go.WideShapes Go.ChangeAt Go.RowKit
set_option linter.unusedVariables false
set_option maxHeartbeats 1000000 in
theorem text_err (g at_ : Nat) (s : Value) (e0 most : Int) (w : World) (h : Rdr w g s at_ e0) (he : (e0 == 0) = false) :
    Calls Try.prog 23 #[.pointer (some ⟨g, 0, none⟩), .int .i64 most] w fun e w' => e = .returned (.string ⟨#[]⟩) ∧ Ext w w' := by
  have ha := ext_alloc (Ext.rfl' w) (.cells #[.pointer (some ⟨g, 0, none⟩)] 34)
  have hb := ext_alloc (Ext.rfl' (w.alloc (.cells #[.pointer (some ⟨g, 0, none⟩)] 34))) (.cells #[.int .i64 most] 3)
  have HC := Lib.hid (fun F => reading_err_70 g at_ s F e0 _ ((h.ext ha).ext hb) he)
  clear h he
  have HA := Lib.hid ha; have HB := Lib.hid hb; clear ha hb
  go_enter Try.func23, Try.ntmps23
  go_wp2_with fail
  refine (HC.out _).mono ?_
  rintro e w3 ⟨rfl, hE3⟩
  have HE3 := Lib.hid hE3; clear hE3
  go_wp2_with fail
  go_ret
  exact ⟨rfl, ext_trans (ext_trans HA.out HB.out) HE3.out⟩
end Go.Proofs.Ytodmjkhfckokhaa.Wire
namespace Go.Proofs.Ytodmjkhfckokhaa.Delta
open Go.ChangeShapes Go.WideShapes Go.ChangeAt Go.RowKit
open Go.Proofs.Ytodmjkhfckokhaa.Wire
set_option linter.unusedVariables false
theorem infoP : (Try.prog.info? 80).map (fun i => (i.zero, i.size, i.bytes)) = some (some (.agg #[.int .i64 0, .string ⟨#[]⟩]), 2, 24) := by kernel_rfl
theorem tr_small {rest : List Nat} {m : Int} {ys : List Nat} {j : Nat} (h : tr rest m = .ok ys j) (hs : ∀ c ∈ rest, c < 256) : ∀ c ∈ ys, c < 256 := by
  unfold tr at h
  cases hv : vr 0 0 rest with
  | short => rw [hv] at h; cases h
  | form => rw [hv] at h; cases h
  | ok z k =>
    rw [hv] at h
    simp only at h
    by_cases h1 : m < 0 ∨ m < (z : Int)
    · rw [if_pos h1] at h; cases h
    · rw [if_neg h1] at h
      by_cases h2 : rest.length - k < z
      · rw [if_pos h2] at h; cases h
      · rw [if_neg h2] at h
        cases h
        exact fun c hc => hs c (List.mem_of_mem_drop (List.mem_of_mem_take hc))
/-- Pieces, as cells. -/
def pcells (l : List (Nat × List Nat)) : List Value := l.flatMap fun p => [.int .i64 (p.1 : Int), .string (strOf p.2)]
theorem pcells_len (l : List (Nat × List Nat)) : (pcells l).length = l.length * 2 := by
  induction l with
  | nil => rfl
  | cons p l ih => simp only [pcells, List.flatMap_cons, List.length_append, List.length_cons, List.length_nil] at ih ⊢; omega
theorem pcells_snoc (l : List (Nat × List Nat)) (p : Nat × List Nat) : pcells (l ++ [p]) = pcells l ++ [.int .i64 (p.1 : Int), .string (strOf p.2)] := by simp [pcells]
def POwn (W w : World) (v : Value) (l : List (Nat × List Nat)) : Prop := w.ownsRow W.heap.size 80 2 v l.length (pcells l)
theorem powned {W w : World} {g j : Nat} {s : Value} {e : Int} {v : Value} {l : List (Nat × List Nat)} {w' : World} (h : POwn W w v l) (hg : g < W.heap.size) (hE : Eff w w' g s j e) : POwn W w' v l :=
  World.ownsRow.kept h hE.2 (.inr (fun e => by have := own_ge h g e; omega))
theorem POwn.ext {W w w' : World} {v : Value} {l : List (Nat × List Nat)} (h : POwn W w v l) (hE : Ext w w') : POwn W w' v l := own_ext h hE
theorem eff_app {w w3 w5 : World} {g i : Nat} {s : Value} {e : Int} {t : TypeId} {size n : Nat} {v : Value} {xs : List Value} (hE : Eff w w3 g s i e) (hO : w3.ownsRow w.heap.size t size v n xs) (hg : g < w.heap.size) (hgr : w3.grownBy w5 v.ownBlock) : Eff w w5 g s i e := by
  have hne : ∀ k, k < w.heap.size → some k ≠ v.ownBlock := fun k hk e => by have := own_ge hO k e.symm; omega
  refine ⟨(hgr.block g (Nat.lt_of_lt_of_le hg hE.2.size) (hne g hg)).trans hE.1, ⟨hgr.os.trans hE.2.os, hgr.tape.trans hE.2.tape, hgr.output.trans hE.2.output, Nat.le_trans hE.2.size hgr.size, fun k hk hkg => ?_⟩⟩
  exact (hgr.block k (Nat.lt_of_lt_of_le hk hE.2.size) (hne k hk)).trans (hE.2.block k hk hkg)
/-- What reading the runs comes to. -/
def LPost (w : World) (g n : Nat) (R : LR) (e : Ending) (w' : World) : Prop :=
  w.grownBy w' (some g) ∧ match R with
  | .bad f => e = .returned (.tuple #[.slice none 0 0, .int .i64 f]) ∧ f ≠ 0
  | .ok l => ∃ v, e = .returned (.tuple #[v, .int .i64 0]) ∧ POwn w w' v l ∧ ∀ p ∈ l, p.1 + p.2.length ≤ n ∧ ∀ c ∈ p.2, c < 256
def LRel (w : World) (g n N c : Nat) (A : Option Addr) (xs : List Nat) (R : LR) (ov av : Value) (wr : World) : Prop :=
  ∃ (i k : Nat) (l : List (Nat × List Nat)), i ≤ N ∧ k ≤ n ∧ av = .int .i64 (k : Int) ∧ POwn w wr ov l ∧ l.length ≤ i ∧ Eff w wr g (.slice A N c) i 0 ∧ RB wr g A N c xs ∧ LR.pre l (lits n k (xs.drop i)) = R ∧
    ∀ p ∈ l, p.1 + p.2.length ≤ n ∧ ∀ c ∈ p.2, c < 256
set_option maxHeartbeats 8000000 in
set_option maxRecDepth 100000 in
theorem literals (g n N c i0 : Nat) (A : Option Addr) (xs : List Nat) (w : World) (h : Rdr w g (.slice A N c) i0 0) (hi0 : i0 ≤ N) (hB : RB w g A N c xs) (hN : N ≤ 1000000) (hn : n ≤ 2147483647) :
    Calls Try.prog 56 #[.pointer (some ⟨g, 0, none⟩), .int .i64 (n : Int)] w (LPost w g n (lits n 0 (xs.drop i0))) := by
  have hgl : g < w.heap.size := Blk.lt h
  have hxl : xs.length = N := hB.1.1
  have hxs := mem_small hB.1.2.1
  have H := Lib.hid h; have HB := Lib.hid hB; have HXS := Lib.hid hxs; have HXL := Lib.hid hxl
  clear h hB hxs hxl
  obtain ⟨R, hR⟩ : ∃ R, R = lits n 0 (xs.drop i0) := ⟨_, rfl⟩
  rw [← hR]
  have HR := Lib.hid hR; clear hR
  go_enter Try.func56, Try.ntmps56
  go_wp2_with fail
  go_loopw [6, 7] (fun ov av wr => LRel w g n N c A xs R ov av wr) (fun _ _ wr => N - (intOf ((wr.cell? ⟨g, 1, none⟩).getD undef)).toNat)
  case atStart => exact ⟨i0, 0, [], hi0, Nat.zero_le _, rfl, World.ownsRow_nil _ _ _ _, Nat.zero_le _, ⟨H.out, gb_refl _ _⟩, HB.out, by rw [pre_nil, HR.out], fun p hp => by cases hp⟩
  case round =>
    obtain ⟨i, k, l, hi, hk, rfl, hO, hli, hE, hRB, hP, hA⟩ := hrel
    have hm : N - (intOf ((wr.cell? ⟨g, 1, none⟩).getD undef)).toNat = N - i := by rw [hE.1.cells.2.1]; simp [intOf]
    rw [hm]
    have HO := Lib.hid hO; have HE := Lib.hid hE; have HRB := Lib.hid hRB; have HP := Lib.hid hP; have HAL := Lib.hid hA
    clear hO hE hRB hP hA hm
    go_wp2_with fail
    refine (left_any g N c A i 0 wr HE.out.1 hi (by omega)).mono ?_
    rintro e w1 ⟨rfl, b1⟩
    have HE1 := Lib.hid (HE.out.ext b1)
    have B1 := Lib.hid b1; clear b1
    have HXD := Lib.hid (List.length_drop (i := i) (l := xs))
    obtain ⟨L, hL⟩ : ∃ L : Nat, L = N - i := ⟨_, rfl⟩
    rw [← hL]
    have HL := Lib.hid hL; clear hL
    by_cases hiN : i = N
    · obtain rfl : L = 0 := by rw [HL.out]; omega
      have HRR : Hid (R = .ok l) := Lib.hid (by rw [← HP.out, hiN, List.drop_of_length_le (by rw [HXL.out]; exact Nat.le_refl _), lits_nil]; simp [LR.pre])
      clear hiN
      go_wp2_with fail
      go_ret2
      exact ⟨HE1.out.2, by rw [HRR.out]; exact ⟨_, rfl, POwn.ext HO.out B1.out, HAL.out⟩⟩
    · have hgt : 0 < L := by rw [HL.out]; omega
      have hne : Hid (xs.drop i ≠ []) := Lib.hid (fun e => by have := congrArg List.length e; rw [List.length_drop, HXL.out] at this; simp at this; omega)
      clear hiN
      go_wp2_with fail
      refine (int g N c i A xs w1 HE1.out.1 (HRB.out.eff (gb_ext B1.out _)).1 hi (by omega)).mono ?_
      rintro e w2 ⟨z, j, err, rfl, hz, hE2, hl⟩
      have hE2' := hE2
      have HE2 := Lib.hid (HE1.out.trans hE2)
      cases hLM : lim (vr 0 0 (xs.drop i)) with
      | short =>
        rw [hLM] at hl
        obtain ⟨rfl, rfl, rfl⟩ := hl
        have HRR : Hid (R = .bad 3) := Lib.hid (by rw [← HP.out, lits_short hne.out hLM]; rfl)
        clear hLM
        clear hE2 hE2'
        go_wp2_with fail
        refine (err_any g _ (i + 0) 3 w2 HE2.out.1).mono ?_
        rintro e w3 ⟨rfl, rfl⟩
        go_wp2_with fail
        refine (text_err g (i + 0) _ 3 _ w2 HE2.out.1 (by decide)).mono ?_
        rintro e w3 ⟨rfl, b3⟩
        have HE3 := Lib.hid (HE2.out.ext b3); clear b3
        go_wp2_with fail
        refine (err_any g _ (i + 0) 3 w3 HE3.out.1).mono ?_
        rintro e w4 ⟨rfl, rfl⟩
        go_wp2_with fail
        refine (err_any g _ (i + 0) 3 w3 HE3.out.1).mono ?_
        rintro e w4 ⟨rfl, rfl⟩
        go_wp2_with fail
        go_ret2
        exact ⟨HE3.out.2, by rw [HRR.out]; exact ⟨rfl, by decide⟩⟩
      | form =>
        rw [hLM] at hl
        obtain ⟨rfl, rfl, rfl⟩ := hl
        have HRR : Hid (R = .bad 4) := Lib.hid (by rw [← HP.out, lits_form hne.out hLM]; rfl)
        clear hLM
        clear hE2 hE2'
        go_wp2_with fail
        refine (err_any g _ (i + 0) 4 w2 HE2.out.1).mono ?_
        rintro e w3 ⟨rfl, rfl⟩
        go_wp2_with fail
        refine (text_err g (i + 0) _ 4 _ w2 HE2.out.1 (by decide)).mono ?_
        rintro e w3 ⟨rfl, b3⟩
        have HE3 := Lib.hid (HE2.out.ext b3); clear b3
        go_wp2_with fail
        refine (err_any g _ (i + 0) 4 w3 HE3.out.1).mono ?_
        rintro e w4 ⟨rfl, rfl⟩
        go_wp2_with fail
        refine (err_any g _ (i + 0) 4 w3 HE3.out.1).mono ?_
        rintro e w4 ⟨rfl, rfl⟩
        go_wp2_with fail
        go_ret2
        exact ⟨HE3.out.2, by rw [HRR.out]; exact ⟨rfl, by decide⟩⟩
      | ok v kk =>
        rw [hLM] at hl
        obtain ⟨rfl, rfl, rfl⟩ := hl
        have HLM := Lib.hid hLM; clear hLM
        obtain ⟨_, hk1, _, hk2⟩ := vr_ok (fun c hc => HXS.out c (List.mem_of_mem_drop hc)) (lim_ok HLM.out)
        rw [HXD.out, HXL.out] at hk2
        have hkp := vb_pos z
        rw [← hk1] at hkp
        have hij : i + j ≤ N := by omega
        clear hE2 hk1
        go_wp2_with fail
        refine (err_any g _ (i + j) 0 w2 HE2.out.1).mono ?_
        rintro e w3 ⟨rfl, rfl⟩
        by_cases hbig : n < k + z
        · have hb2 : (n : Int) - (k : Int) < (z : Int) := by omega
          have HRR : Hid (R = .bad 4) := Lib.hid (by rw [← HP.out, lits_big hne.out HLM.out hbig]; rfl)
          clear hbig
          go_wp2_with fail
          go_ret2
          exact ⟨HE2.out.2, by rw [HRR.out]; exact ⟨rfl, by decide⟩⟩
        · have hb2 : ¬ (n : Int) - (k : Int) < (z : Int) := by omega
          go_wp2_with fail
          have HRB2 := Lib.hid (HRB.out.eff (gb_trans (gb_ext B1.out _) (hE2'.2)))
          have HDD : Hid ((xs.drop i).drop j = xs.drop (i + j)) := Lib.hid List.drop_drop
          refine (text g N c (i + j) ((n : Int) - (k : Int) - (z : Int)) (by omega) (by omega) A xs w2 HE2.out.1 HRB2.out hij (by omega)).mono ?_
          intro e w3 hT
          cases hTR : tr (xs.drop (i + j)) ((n : Int) - (k : Int) - (z : Int)) with
          | bad f =>
            rw [hTR] at hT
            obtain ⟨rfl, hE3⟩ := hT
            have HE3 := Lib.hid (HE2.out.trans hE3)
            have hf := tr_bad hTR
            have hf2 : (f == 0) = false := beq_eq_false_iff_ne.2 hf
            have hf3 : (f != 0) = true := by rw [bne_iff_ne]; exact hf
            have HRR : Hid (R = .bad f) := Lib.hid (by rw [← HP.out, lits_bad hne.out HLM.out hbig (by rw [HDD.out]; exact hTR)]; rfl)
            have HF := Lib.hid hf
            clear hTR hE3 hbig hf
            go_wp2_with fail
            refine (err_any g _ (i + j) f w3 HE3.out.1).mono ?_
            rintro e w4 ⟨rfl, rfl⟩
            go_wp2_with fail
            refine (err_any g _ (i + j) f w3 HE3.out.1).mono ?_
            rintro e w4 ⟨rfl, rfl⟩
            go_wp2_with fail
            go_ret2
            exact ⟨HE3.out.2, by rw [HRR.out]; exact ⟨rfl, HF.out⟩⟩
          | ok ys jj =>
            rw [hTR] at hT
            obtain ⟨rfl, hE3⟩ := hT
            have HE3 := Lib.hid (HE2.out.trans hE3)
            obtain ⟨t1, t2, t3, t4⟩ := tr_len hTR (fun c hc => HXS.out c (List.mem_of_mem_drop hc))
            rw [List.length_drop, HXL.out] at t2 t4
            have HRR : Hid (R = LR.pre (l ++ [(k + z, ys)]) (lits n (k + z + ys.length) (xs.drop (i + j + jj)))) := Lib.hid (by
              rw [← HP.out, lits_more hne.out HLM.out hbig (by rw [HDD.out]; exact hTR) (by omega), pre_pre, List.drop_drop, Nat.add_assoc i])
            have HO3 := Lib.hid (powned (POwn.ext HO.out B1.out) hgl (hE2'.trans hE3))
            have HRB3 := Lib.hid (HRB2.out.eff hE3.2)
            have HYB : Hid (∀ c ∈ ys, c < 256) := Lib.hid (tr_small hTR (fun c hc => HXS.out c (List.mem_of_mem_drop hc)))
            have HYS := Lib.hid (strOf_size ys)
            clear hTR hE3 hbig
            generalize hS : strOf ys = S at *
            have HS := Lib.hid hS; clear hS
            have hsb : S.size ≤ 1000000 := by rw [HYS.out]; omega
            go_wp2_with fail
            refine (err_any g _ (i + j + jj) 0 w3 HE3.out.1).mono ?_
            rintro e w4 ⟨rfl, rfl⟩
            have ha := ext_alloc (Ext.rfl' w3) (.cells #[.int .i64 ((k : Int) + (z : Int)), .string S] 80)
            have HEA := Lib.hid (HE3.out.ext ha)
            have HOA := Lib.hid (POwn.ext HO3.out ha)
            have HSRC : Hid (Src Try.prog 2 76 (.slice (some ⟨w3.heap.size, 0, none⟩) 1 1) 1 [.int .i64 ((k : Int) + (z : Int)), .string S] (w3.alloc (.cells #[.int .i64 ((k : Int) + (z : Int)), .string S] 80))) := Lib.hid (Src.ofSlice _ Try.underlying76 ⟨w3.heap.size, 0, none⟩ 1 1 _ rfl (fun q u hu => by
              rw [show ((⟨w3.heap.size, 0, none⟩ : Addr).add q) = ⟨w3.heap.size, q, none⟩ from by unfold Addr.add; split <;> simp_all, World.cell?_alloc_new]
              rw [← hu]; simp) (fun u hu => by
              simp only [List.mem_cons, List.not_mem_nil, or_false] at hu
              rcases hu with rfl | rfl <;> rfl))
            have hsz := HE3.out.2.size
            obtain ⟨iP, hi0, hz0, hz1, hz2⟩ := info_parts infoP
            have HI := Lib.hid (And.intro hi0 (And.intro hz0 (And.intro hz1 hz2))); clear hi0 hz0 hz1 hz2
            have hll : l.length ≤ 1000000 := by omega
            clear ha
            go_wp2_with (at_builtin; refine wpList_app_own rfl (.tmp 40) (.tmp 44) 76 76 rfl 80 iP (.agg #[.int .i64 0, .string ⟨#[]⟩]) 2 24 Try.underlying76 HI.out.1 HI.out.2.1 HI.out.2.2.1 HI.out.2.2.2 rfl w.heap.size _ (.slice (some ⟨w3.heap.size, 0, none⟩) 1 1) l.length (pcells l) rfl rfl HOA.out 1 _ HSRC.out (by unfold maxLen; omega) (by omega) (by simp; omega) ?_; intro v5 w5 hown5 hgr5; have HOW5 := Lib.hid hown5; have HGR5 := Lib.hid hgr5; clear hown5 hgr5)
            have HE5 := Lib.hid (eff_app HEA.out HOA.out hgl HGR5.out)
            have HO5 : Hid (POwn w w5 v5 (l ++ [(k + z, ys)])) := Lib.hid (by
              have := HOW5.out
              unfold POwn
              rw [pcells_snoc, List.length_append, HS.out]
              exact this)
            have hmm : N - (intOf ((w5.cell? ⟨g, 1, none⟩).getD undef)).toNat = N - (i + j + jj) := by rw [HE5.out.1.cells.2.1]; simp [intOf]; omega
            go_roundw
            case rel => exact ⟨i + j + jj, k + z + ys.length, l ++ [(k + z, ys)], by omega, by omega, int_eq (by rw [HYS.out]; omega), HO5.out, by simp; omega, HE5.out, HB.out.eff HE5.out.2, HRR.out.symm, fun p hp => by
              rcases List.mem_append.1 hp with hp | hp
              · exact HAL.out p hp
              · simp only [List.mem_cons, List.not_mem_nil, or_false] at hp
                subst hp
                exact ⟨by show k + z + ys.length ≤ n; omega, HYB.out⟩⟩
            case measure => rw [hmm]; omega
end Go.Proofs.Ytodmjkhfckokhaa.Delta
