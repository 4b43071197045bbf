/- Tracks: the known track. -/
import Derived.Test.YtlldmpcamdginaaT4
import Derived.Test.YtlldmpcamdginaaT5
import Derived.Test.YtlldmpcamdginaaTrkG
import Derived.Test.YtlldmpcamdginaaTrkD
namespace Go.Proofs.Ytlldmpcamdginaa.Trk
open Go.ChangeShapes Go.WideShapes Go.ChangeAt Go.RowKit
open Go.Proofs.Ytlldmpcamdginaa.Wire
open Go.Proofs.Ytlldmpcamdginaa.Rec
set_option linter.unusedVariables false
def ps0 : List Pt := [⟨0, 0, 0⟩, ⟨4, 256, 512⟩]
def mk0 : Mk := ⟨3, ⟨#[97]⟩⟩
def tk0 : Tk := ⟨[], ps0, [], [], []⟩
def tk1 : Tk := ⟨[], ps0, [], [], [mk0]⟩
theorem may0 : mayT 9 tk0 = true := by kernel_rfl
theorem may1 : mayT 9 tk1 = true := by kernel_rfl
theorem sm1 : ∀ c ∈ encT tk1, c < 256 := of_decide_eq_true (by kernel_rfl)
theorem ln1 : (encT tk1).length ≤ 1000000 := of_decide_eq_true (by kernel_rfl)
theorem ok0 : okM 9 mk0 := of_decide_eq_true (by kernel_rfl)
theorem cam0 : camAt 1 ps0 = (64, 128) := by kernel_rfl
theorem ordp0 : Ord ps0 := (ord_of (n := 9) (by decide) ps0 (-1) (by omega) (by kernel_rfl)).1
theorem blk_noint {w : World} {g : Nat} {t : TypeId} {a b c d e : Sl} (h : Blk w g t #[.slice a.A a.n a.c, .slice b.A b.n b.c, .slice c.A c.n c.c, .slice d.A d.n d.c, .slice e.A e.n e.c]) (o : Nat) (k : IntKind) (v : Int) : w.cell? ⟨g, o, none⟩ ≠ some (.int k v) := by
  rw [h.cell o]
  rcases Nat.lt_or_ge o 5 with hl | hl
  · rcases (show o = 0 ∨ o = 1 ∨ o = 2 ∨ o = 3 ∨ o = 4 by omega) with rfl | rfl | rfl | rfl | rfl <;> (intro e; cases e)
  · rw [Array.getElem?_eq_none (by simpa using hl)]; intro e; cases e
theorem row_off {α : Type} {w : World} {A : Option Addr} {n k g : Nat} {f : α → List Value} {xs : List α} (h : RowR w A n k f xs) (hk : 0 < k) (hf : ∀ y, ∃ i v, (f y)[0]? = some (.int i v)) (hg : ∀ o i v, w.cell? ⟨g, o, none⟩ ≠ some (.int i v)) : ∀ a, A = some a → 0 < n → a.block ≠ g := by
  intro a ha hp he
  obtain ⟨b, o, e, hb, hc⟩ := h.2 hp
  obtain rfl := Option.some.inj (ha.symm.trans e)
  have h1 : 0 < xs.length := by rw [h.1]; exact hp
  have h2 := hc 0 h1 0 hk
  obtain ⟨i, v, hv⟩ := hf xs[0]
  rw [hv] at h2
  simp only at he
  subst he
  exact hg _ _ _ h2
/-- A track is as it was behind stores into a block of slices. -/
theorem TkV.off {w w' : World} {t : Tv} {x : Tk} {g : Nat} (h : TkV w t x) (hg : ∀ o i v, w.cell? ⟨g, o, none⟩ ≠ some (.int i v)) (hs : w.heap.size ≤ w'.heap.size) (hk : ∀ k, k ≠ g → w'.heap[k]? = w.heap[k]?) : TkV w' t x := by
  have hP : ∀ {A : Option Addr} {n c : Nat} {ps : List Pt}, PtsV w A n c ps → PtsV w' A n c ps := fun {A n c ps} q =>
    ⟨q.1.keep hs (fun a ha hp => hk _ (row_off q.1 (by decide) (fun y => ⟨_, _, rfl⟩) hg a ha hp)), q.2⟩
  exact ⟨hP h.1, hP h.2.1, hP h.2.2.1, hP h.2.2.2.1, h.2.2.2.2.1.keep hs (fun a ha hp => hk _ (row_off h.2.2.2.2.1 (by decide) (fun y => ⟨_, _, rfl⟩) hg a ha hp)), h.2.2.2.2.2⟩
theorem five_off (w : World) (g : Nat) (a b c d e : Value) : w.heap.size ≤ (((((w.setCell ⟨g, 0, none⟩ a).setCell ⟨g, 1, none⟩ b).setCell ⟨g, 2, none⟩ c).setCell ⟨g, 3, none⟩ d).setCell ⟨g, 4, none⟩ e).heap.size ∧ ∀ k, k ≠ g → (((((w.setCell ⟨g, 0, none⟩ a).setCell ⟨g, 1, none⟩ b).setCell ⟨g, 2, none⟩ c).setCell ⟨g, 3, none⟩ d).setCell ⟨g, 4, none⟩ e).heap[k]? = w.heap[k]? := by
  refine ⟨by simp [World.setCell], fun k h => ?_⟩
  rw [Below.heap_setCell _ ⟨g, 4, none⟩ _ _ h, Below.heap_setCell _ ⟨g, 3, none⟩ _ _ h, Below.heap_setCell _ ⟨g, 2, none⟩ _ _ h, Below.heap_setCell _ ⟨g, 1, none⟩ _ _ h, Below.heap_setCell _ ⟨g, 0, none⟩ _ _ h]
set_option maxHeartbeats 8000000 in
set_option maxRecDepth 100000 in
theorem wakes_tr (w : World) : Calls Try.prog 19 #[] w fun e w' => e = .returned (.bool true) ∧ Ext w w' := by
  go_enter Try.func19, Try.ntmps19
  go_upto_region 3 with fail
  have hsz : (w.alloc (.cells #[.slice none 0 0, .slice (some ⟨w.heap.size + 1, 0, none⟩) 2 2, .slice none 0 0, .slice none 0 0, .slice none 0 0] 54)).heap.size = w.heap.size + 1 := World.size_alloc _ _
  have hrow := row_new cP_len (w.alloc (.cells #[.slice none 0 0, .slice (some ⟨w.heap.size + 1, 0, none⟩) 2 2, .slice none 0 0, .slice none 0 0, .slice none 0 0] 54)) 115 ps0
  rw [hsz] at hrow
  have HE0 := Lib.hid (ext_alloc (ext_alloc (Ext.rfl' w) (.cells #[.slice none 0 0, .slice (some ⟨w.heap.size + 1, 0, none⟩) 2 2, .slice none 0 0, .slice none 0 0, .slice none 0 0] 54)) (.cells (ps0.flatMap cP).toArray 115))
  have HH0 := Lib.hid ((Blk.new w 54 #[.slice none 0 0, .slice (some ⟨w.heap.size + 1, 0, none⟩) 2 2, .slice none 0 0, .slice none 0 0, .slice none 0 0]).alloc (.cells (ps0.flatMap cP).toArray 115))
  obtain ⟨w0, hw0⟩ : ∃ q, q = ((w.alloc (.cells #[.slice none 0 0, .slice (some ⟨w.heap.size + 1, 0, none⟩) 2 2, .slice none 0 0, .slice none 0 0, .slice none 0 0] 54)).alloc (.cells (ps0.flatMap cP).toArray 115)) := ⟨_, rfl⟩
  have hw1 : ((w.alloc (.cells #[.slice none 0 0, .slice (some ⟨w.heap.size + 1, 0, none⟩) 2 2, .slice none 0 0, .slice none 0 0, .slice none 0 0] 54)).alloc (.cells #[.int .i64 0, .int .i32 0, .int .i32 0, .int .i64 4, .int .i32 256, .int .i32 512] 115)) = w0 := hw0.symm
  rw [← hw0] at hrow HE0 HH0
  rw [hw1]
  clear hw0 hw1 hsz
  obtain ⟨hb, hhb⟩ : ∃ q, q = w.heap.size := ⟨_, rfl⟩
  rw [← hhb] at hrow HH0 ⊢
  have HWB : Hid (w.heap.size ≤ hb) := Lib.hid (by omega)
  clear hhb
  have hnil : PtsV w0 none 0 0 [] := ⟨RowR.nil _ _ _ _, Nat.le_refl _, by omega, fun _ => ⟨rfl, rfl⟩⟩
  have HT0 : Hid (TkV w0 ⟨⟨none, 0, 0⟩, ⟨some ⟨hb + 1, 0, none⟩, 2, 2⟩, ⟨none, 0, 0⟩, ⟨none, 0, 0⟩, ⟨none, 0, 0⟩⟩ tk0) := Lib.hid ⟨hnil, ⟨hrow, Nat.le_refl _, (by show 2 ≤ 9223372036854775807; omega), fun h => by cases h⟩, hnil, hnil, RowR.nil _ _ _ _, Nat.le_refl _, (by show 0 ≤ 9223372036854775807; omega), fun _ => ⟨rfl, rfl⟩, fun m h => by cases h⟩
  clear hrow hnil
  have HAD := Lib.hid (add_end ⟨⟨none, 0, 0⟩, ⟨some ⟨hb + 1, 0, none⟩, 2, 2⟩, ⟨none, 0, 0⟩, ⟨none, 0, 0⟩, ⟨none, 0, 0⟩⟩ tk0 mk0 9 w0 HT0.out (by decide) (by decide) (by decide) may0 ok0 (by decide) (fun q h => by cases h))
  simp only [Tv.cells, mk0] at HAD
  have h := fun i => HH0.out.cell i
  go_wp2_with fail
  refine (HAD.out).mono ?_
  rintro e w1 ⟨hE1, ⟨⟨A0, n0, c0⟩, ⟨A1, n1, c1⟩, ⟨A2, n2, c2⟩, ⟨A3, n3, c3⟩, ⟨Am, nm, cm⟩⟩, rfl, hT⟩
  have e0 : n0 = 0 := hT.1.1.1.symm
  have e1 : n1 = 2 := hT.2.1.1.1.symm
  have em : nm = 1 := hT.2.2.2.2.1.1.symm
  subst e0 e1 em
  simp only [Tv.cells]
  have HH1 := Lib.hid (HH0.out.ext hE1)
  have HE1 := Lib.hid (ext_trans HE0.out hE1)
  have HT1 : Hid (TkV w1 ⟨⟨A0, 0, c0⟩, ⟨A1, 2, c1⟩, ⟨A2, n2, c2⟩, ⟨A3, n3, c3⟩, ⟨Am, 1, cm⟩⟩ tk1) := Lib.hid hT
  clear h hE1 hT HAD HH0 HE0 HT0
  have h := fun i => HH1.out.cell i
  have f := fun i => HH1.out.frozen i
  go_upto_region 4 with fail
  have HO := Lib.hid (five_off w1 hb (.slice A0 0 c0) (.slice A1 2 c1) (.slice A2 n2 c2) (.slice A3 n3 c3) (.slice Am 1 cm))
  have HT2 := Lib.hid (HT1.out.off (g := hb) (blk_noint (a := ⟨none, 0, 0⟩) (b := ⟨some ⟨hb + 1, 0, none⟩, 2, 2⟩) (c := ⟨none, 0, 0⟩) (d := ⟨none, 0, 0⟩) (e := ⟨none, 0, 0⟩) HH1.out) HO.out.1 HO.out.2)
  have HH2 := Lib.hid (((((HH1.out.set_ 0 (.slice A0 0 c0)).set_ 1 (.slice A1 2 c1)).set_ 2 (.slice A2 n2 c2)).set_ 3 (.slice A3 n3 c3)).set_ 4 (.slice Am 1 cm))
  have HE2 := Lib.hid (ext_set (ext_set (ext_set (ext_set (ext_set HE1.out HWB.out (.slice A0 0 c0) (p := ⟨hb, 0, none⟩)) HWB.out (.slice A1 2 c1) (p := ⟨hb, 1, none⟩)) HWB.out (.slice A2 n2 c2) (p := ⟨hb, 2, none⟩)) HWB.out (.slice A3 n3 c3) (p := ⟨hb, 3, none⟩)) HWB.out (.slice Am 1 cm) (p := ⟨hb, 4, none⟩))
  obtain ⟨w2, hw2⟩ : ∃ q, q = (((((w1.setCell ⟨hb, 0, none⟩ (.slice A0 0 c0)).setCell ⟨hb, 1, none⟩ (.slice A1 2 c1)).setCell ⟨hb, 2, none⟩ (.slice A2 n2 c2)).setCell ⟨hb, 3, none⟩ (.slice A3 n3 c3)).setCell ⟨hb, 4, none⟩ (.slice Am 1 cm)) := ⟨_, rfl⟩
  rw [← hw2] at HT2 HH2 HE2 ⊢
  clear hw2 h f HH1 HE1 HT1 HO
  have HC1 := Lib.hid (camera_in ⟨⟨A0, 0, c0⟩, ⟨A1, 2, c1⟩, ⟨A2, n2, c2⟩, ⟨A3, n3, c3⟩, ⟨Am, 1, cm⟩⟩ 1 (by omega) A1 2 c1 rfl ps0 1 w2 HT2.out.2.1 ordp0 (by omega) (by omega) (by omega) (by omega))
  rw [cam0] at HC1
  simp only [Tv.cells] at HC1
  rw [show ((1 : Nat) : Int) = 1 from rfl] at HC1
  have HHX : Hid (Blk w2 hb 54 #[.slice A0 0 c0, .slice A1 2 c1, .slice A2 n2 c2, .slice A3 n3 c3, .slice Am 1 cm]) := HH2
  replace HH2 := HHX
  clear HHX
  have h := fun i => HH2.out.cell i
  go_wp2_with fail
  refine (HC1.out).mono ?_
  rintro e w3 ⟨rfl, hE3⟩
  clear h HC1
  have HE3 := Lib.hid hE3
  clear hE3
  go_upto_region 5 with fail
  have HX4 := Lib.hid (ext_trans HE3.out (ext_alloc (Ext.rfl' w3) (.cells #[.int .i32 64, .int .i32 128] 61)))
  have HP4 := Lib.hid (Blk.new w3 61 #[.int .i32 64, .int .i32 128])
  obtain ⟨w4, hw4⟩ : ∃ q, q = w3.alloc (.cells #[.int .i32 64, .int .i32 128] 61) := ⟨_, rfl⟩
  obtain ⟨pb, hpb⟩ : ∃ q, q = w3.heap.size := ⟨_, rfl⟩
  rw [← hw4] at HX4 HP4 ⊢
  rw [← hpb] at HP4 ⊢
  clear hw4 hpb HE3
  have HE4 := Lib.hid (ext_trans HE2.out HX4.out); have HH4 := Lib.hid (HH2.out.ext HX4.out); have HT4 := Lib.hid (HT2.out.ext HX4.out)
  clear HE2 HH2 HT2 HX4
  have HC2 := Lib.hid (camera_none ⟨⟨A0, 0, c0⟩, ⟨A1, 2, c1⟩, ⟨A2, n2, c2⟩, ⟨A3, n3, c3⟩, ⟨Am, 1, cm⟩⟩ 0 (by omega) A0 c0 rfl 1 w4)
  simp only [Tv.cells] at HC2
  rw [show ((0 : Nat) : Int) = 0 from rfl] at HC2
  have h := fun i => HH4.out.cell i
  go_wp2_with fail
  refine (HC2.out).mono ?_
  rintro e w5 ⟨rfl, hE5⟩
  clear h HC2
  have HE5 := Lib.hid hE5
  clear hE5
  go_upto_region 6 with fail
  have HX6 := Lib.hid (ext_trans HE5.out (ext_alloc (Ext.rfl' w5) (.cells #[.int .i32 0, .int .i32 0] 61)))
  obtain ⟨w6, hw6⟩ : ∃ q, q = w5.alloc (.cells #[.int .i32 0, .int .i32 0] 61) := ⟨_, rfl⟩
  rw [← hw6] at HX6 ⊢
  clear hw6 HE5
  have HE6 := Lib.hid (ext_trans HE4.out HX6.out); have HH6 := Lib.hid (HH4.out.ext HX6.out); have HT6 := Lib.hid (HT4.out.ext HX6.out); have HP6 := Lib.hid (HP4.out.ext HX6.out)
  clear HE4 HH4 HT4 HP4 HX6
  have HBY := Lib.hid (bytes_st ⟨⟨A0, 0, c0⟩, ⟨A1, 2, c1⟩, ⟨A2, n2, c2⟩, ⟨A3, n3, c3⟩, ⟨Am, 1, cm⟩⟩ tk1 9 w6 HT6.out (by omega) (by omega))
  simp only [Tv.cells] at HBY
  have h := fun i => HH6.out.cell i
  go_wp2_with fail
  refine (HBY.out).mono ?_
  rintro e w7 ⟨hE7, hm⟩
  rw [if_pos may1] at hm
  obtain ⟨v, rfl, hO⟩ := hm
  clear h HBY
  obtain ⟨A7, c7, rfl, s1, s2, s3, s4⟩ := hO.shape
  have hsm : ∀ c ∈ encT tk1, c < 256 := sm1
  have hbs := (hO.bs (small_mem hsm)).2
  have HE7 := Lib.hid (ext_trans HE6.out hE7); have HP7 := Lib.hid (HP6.out.ext hE7)
  have HTK := Lib.hid (take_tr A7 (encT tk1).length c7 (encT tk1) 9 w7 hbs s3 ln1 (by omega) (by omega))
  clear HE6 HH6 HT6 HP6 hE7 hO s1 s2 s3 s4 hbs hsm
  generalize (encT tk1).length = n7 at *
  go_wp2_with fail
  refine (HTK.out).mono ?_
  rintro e w8 ⟨hE8, hm⟩
  rw [takeT_put may1] at hm
  obtain ⟨⟨⟨B0, m0, d0⟩, ⟨B1, m1, d1⟩, ⟨B2, m2, d2⟩, ⟨B3, m3, d3⟩, ⟨Bm, mm, dm⟩⟩, rfl, hT⟩ := hm
  have e1 : m1 = 2 := hT.2.1.1.1.symm
  have em : mm = 1 := hT.2.2.2.2.1.1.symm
  subst e1 em
  simp only [Tv.cells]
  clear HTK
  obtain ⟨b, o, hA, hbw, hcell⟩ := hT.2.2.2.2.1.2 (show 0 < 1 by omega)
  simp only at hA
  subst hA
  have hnm := hcell 0 (by decide) 1 (by omega)
  have HT8 := Lib.hid hT; have HNM := Lib.hid hnm
  have HE8 := Lib.hid (ext_trans HE7.out hE8); have HP8 := Lib.hid (HP7.out.ext hE8)
  clear hT hcell hnm hE8 HE7 HP7
  go_upto_region 8 with fail
  have hx9 := ext_alloc (Ext.rfl' w8) (.cells #[.slice B0 m0 d0, .slice B1 2 d1, .slice B2 m2 d2, .slice B3 m3 d3, .slice (some ⟨b, o, none⟩) 1 dm] 54)
  have HH9 := Lib.hid (Blk.new w8 54 #[.slice B0 m0 d0, .slice B1 2 d1, .slice B2 m2 d2, .slice B3 m3 d3, .slice (some ⟨b, o, none⟩) 1 dm])
  obtain ⟨w9, hw9⟩ : ∃ q, q = w8.alloc (.cells #[.slice B0 m0 d0, .slice B1 2 d1, .slice B2 m2 d2, .slice B3 m3 d3, .slice (some ⟨b, o, none⟩) 1 dm] 54) := ⟨_, rfl⟩
  obtain ⟨ub, hub⟩ : ∃ q, q = w8.heap.size := ⟨_, rfl⟩
  rw [← hw9] at hx9 HH9 ⊢
  rw [← hub] at HH9 ⊢
  clear hw9 hub
  have HE9 := Lib.hid (ext_trans HE8.out hx9); have HP9 := Lib.hid (HP8.out.ext hx9); have HT9 := Lib.hid (HT8.out.ext hx9)
  have hn : w9.cell? ⟨b, o + 1, none⟩ = some (.string ⟨#[97]⟩) := by
    have := kc hx9 HNM.out
    rw [Nat.zero_mul, Nat.add_zero] at this
    exact this
  clear hx9 HE8 HP8 HT8 HNM
  have HMY := Lib.hid (may_st ⟨⟨B0, m0, d0⟩, ⟨B1, 2, d1⟩, ⟨B2, m2, d2⟩, ⟨B3, m3, d3⟩, ⟨some ⟨b, o, none⟩, 1, dm⟩⟩ tk1 9 w9 HT9.out (by omega) (by omega))
  rw [may1] at HMY
  simp only [Tv.cells] at HMY
  have h := fun i => HH9.out.cell i
  have p0 := HP9.out.cell 0; have p1 := HP9.out.cell 1
  simp only [List.getElem?_toArray, List.getElem?_cons_zero, List.getElem?_cons_succ] at p0 p1
  go_wp2_with fail
  refine (HMY.out).mono ?_
  rintro e w10 ⟨rfl, hE10⟩
  go_wp2_with fail
  go_ret
  exact ⟨rfl, ext_trans HE9.out hE10⟩
end Go.Proofs.Ytlldmpcamdginaa.Trk
