/- Contracts of package rules. -/
import Derived.Test.YtdbjknljdplinaaDoorRulA
import Derived.LaidLaws
import Derived.WalkSmall
namespace Go.Proofs.YtdbjknljdplinaaDoor.Rul
open Go.ChangeShapes Go.WideShapes Go.ChangeAt Go.RowKit

/-- The table of kinds lies where the program keeps it. -/
def Tab (w : World) : Prop := ∀ i : Nat, i < 66 → w.cell? ⟨0, i, none⟩ = tab[i]?
theorem Tab.lt {w : World} (h : Tab w) : 0 < w.heap.size := by
  have h0 := h 0 (by omega)
  rcases Nat.lt_or_ge 0 w.heap.size with hl | hl
  · exact hl
  · simp [World.cell?, Array.getElem?_eq_none hl, tab] at h0
theorem Tab.ext {w w' : World} (h : Tab w) (hb : Ext w w') : Tab w' := fun i hi => (hb.cell (p := ⟨_, i, none⟩) h.lt).trans (h i hi)
theorem tab_of_var {W : World} (h : W.var? Tryd.prog "rematch/rules.kinds" = some tab.toArray) : Tab W := by
  intro i hi
  unfold World.var? at h
  rw [gKinds] at h
  simp only [Option.bind_some] at h
  split at h
  · rename_i cs t m hh
    injection h with h
    subst h
    rw [cell_of_row W _ i tab.toArray t m hh]
    simp
  · cases h
set_option maxHeartbeats 400000 in
theorem of_0 (w : World) (h : Tab w) : Calls Tryd.prog 5 #[.int .u8 0] w fun e w' => e = .returned (.tuple #[.agg #[.int .i64 0, .int .i64 0, .int .i64 0, .int .i64 0, .int .i64 0, .int .i64 0, .int .i64 0, .int .i64 0, .int .i64 0, .int .u8 0, .bool false], .bool false]) ∧ Ext w w' := by
  have c0 := h 0 (by omega); have c1 := h 1 (by omega); have c2 := h 2 (by omega); have c3 := h 3 (by omega); have c4 := h 4 (by omega); have c5 := h 5 (by omega); have c6 := h 6 (by omega); have c7 := h 7 (by omega); have c8 := h 8 (by omega); have c9 := h 9 (by omega); have c10 := h 10 (by omega)
  have hl := h.lt
  clear h
  simp only [tab, List.getElem?_cons_succ, List.getElem?_cons_zero] at c0 c1 c2 c3 c4 c5 c6 c7 c8 c9 c10
  go_enter Tryd.func5, Tryd.ntmps5
  go_wp2
  exact bodyPost_ret (v := .tuple #[.agg #[.int .i64 0, .int .i64 0, .int .i64 0, .int .i64 0, .int .i64 0, .int .i64 0, .int .i64 0, .int .i64 0, .int .i64 0, .int .u8 0, .bool false], .bool false]) (by simp [results, Tryd.results5, go_sem]) rfl ⟨rfl, ext_alloc (Ext.rfl' _) _⟩
set_option maxHeartbeats 400000 in
theorem of_1 (w : World) (h : Tab w) : Calls Tryd.prog 5 #[.int .u8 1] w fun e w' => e = .returned (.tuple #[.agg #[.int .i64 60, .int .i64 0, .int .i64 0, .int .i64 0, .int .i64 0, .int .i64 100, .int .i64 30, .int .i64 5, .int .i64 0, .int .u8 0, .bool false], .bool true]) ∧ Ext w w' := by
  have c0 := h 11 (by omega); have c1 := h 12 (by omega); have c2 := h 13 (by omega); have c3 := h 14 (by omega); have c4 := h 15 (by omega); have c5 := h 16 (by omega); have c6 := h 17 (by omega); have c7 := h 18 (by omega); have c8 := h 19 (by omega); have c9 := h 20 (by omega); have c10 := h 21 (by omega)
  have hl := h.lt
  clear h
  simp only [tab, List.getElem?_cons_succ, List.getElem?_cons_zero] at c0 c1 c2 c3 c4 c5 c6 c7 c8 c9 c10
  go_enter Tryd.func5, Tryd.ntmps5
  go_wp2
  exact bodyPost_ret (v := .tuple #[.agg #[.int .i64 60, .int .i64 0, .int .i64 0, .int .i64 0, .int .i64 0, .int .i64 100, .int .i64 30, .int .i64 5, .int .i64 0, .int .u8 0, .bool false], .bool true]) (by simp [results, Tryd.results5, go_sem]) rfl ⟨rfl, ext_alloc (Ext.rfl' _) _⟩
set_option maxHeartbeats 400000 in
theorem of_2 (w : World) (h : Tab w) : Calls Tryd.prog 5 #[.int .u8 2] w fun e w' => e = .returned (.tuple #[.agg #[.int .i64 10, .int .i64 3, .int .i64 1, .int .i64 1, .int .i64 4, .int .i64 10, .int .i64 6, .int .i64 3, .int .i64 0, .int .u8 1, .bool false], .bool true]) ∧ Ext w w' := by
  have c0 := h 22 (by omega); have c1 := h 23 (by omega); have c2 := h 24 (by omega); have c3 := h 25 (by omega); have c4 := h 26 (by omega); have c5 := h 27 (by omega); have c6 := h 28 (by omega); have c7 := h 29 (by omega); have c8 := h 30 (by omega); have c9 := h 31 (by omega); have c10 := h 32 (by omega)
  have hl := h.lt
  clear h
  simp only [tab, List.getElem?_cons_succ, List.getElem?_cons_zero] at c0 c1 c2 c3 c4 c5 c6 c7 c8 c9 c10
  go_enter Tryd.func5, Tryd.ntmps5
  go_wp2
  exact bodyPost_ret (v := .tuple #[.agg #[.int .i64 10, .int .i64 3, .int .i64 1, .int .i64 1, .int .i64 4, .int .i64 10, .int .i64 6, .int .i64 3, .int .i64 0, .int .u8 1, .bool false], .bool true]) (by simp [results, Tryd.results5, go_sem]) rfl ⟨rfl, ext_alloc (Ext.rfl' _) _⟩
set_option maxHeartbeats 400000 in
theorem of_3 (w : World) (h : Tab w) : Calls Tryd.prog 5 #[.int .u8 3] w fun e w' => e = .returned (.tuple #[.agg #[.int .i64 20, .int .i64 2, .int .i64 1, .int .i64 4, .int .i64 4, .int .i64 20, .int .i64 8, .int .i64 4, .int .i64 0, .int .u8 5, .bool false], .bool true]) ∧ Ext w w' := by
  have c0 := h 33 (by omega); have c1 := h 34 (by omega); have c2 := h 35 (by omega); have c3 := h 36 (by omega); have c4 := h 37 (by omega); have c5 := h 38 (by omega); have c6 := h 39 (by omega); have c7 := h 40 (by omega); have c8 := h 41 (by omega); have c9 := h 42 (by omega); have c10 := h 43 (by omega)
  have hl := h.lt
  clear h
  simp only [tab, List.getElem?_cons_succ, List.getElem?_cons_zero] at c0 c1 c2 c3 c4 c5 c6 c7 c8 c9 c10
  go_enter Tryd.func5, Tryd.ntmps5
  go_wp2
  exact bodyPost_ret (v := .tuple #[.agg #[.int .i64 20, .int .i64 2, .int .i64 1, .int .i64 4, .int .i64 4, .int .i64 20, .int .i64 8, .int .i64 4, .int .i64 0, .int .u8 5, .bool false], .bool true]) (by simp [results, Tryd.results5, go_sem]) rfl ⟨rfl, ext_alloc (Ext.rfl' _) _⟩
set_option maxHeartbeats 400000 in
theorem of_4 (w : World) (h : Tab w) : Calls Tryd.prog 5 #[.int .u8 4] w fun e w' => e = .returned (.tuple #[.agg #[.int .i64 12, .int .i64 2, .int .i64 4, .int .i64 3, .int .i64 6, .int .i64 25, .int .i64 10, .int .i64 5, .int .i64 1, .int .u8 5, .bool true], .bool true]) ∧ Ext w w' := by
  have c0 := h 44 (by omega); have c1 := h 45 (by omega); have c2 := h 46 (by omega); have c3 := h 47 (by omega); have c4 := h 48 (by omega); have c5 := h 49 (by omega); have c6 := h 50 (by omega); have c7 := h 51 (by omega); have c8 := h 52 (by omega); have c9 := h 53 (by omega); have c10 := h 54 (by omega)
  have hl := h.lt
  clear h
  simp only [tab, List.getElem?_cons_succ, List.getElem?_cons_zero] at c0 c1 c2 c3 c4 c5 c6 c7 c8 c9 c10
  go_enter Tryd.func5, Tryd.ntmps5
  go_wp2
  exact bodyPost_ret (v := .tuple #[.agg #[.int .i64 12, .int .i64 2, .int .i64 4, .int .i64 3, .int .i64 6, .int .i64 25, .int .i64 10, .int .i64 5, .int .i64 1, .int .u8 5, .bool true], .bool true]) (by simp [results, Tryd.results5, go_sem]) rfl ⟨rfl, ext_alloc (Ext.rfl' _) _⟩
set_option maxHeartbeats 400000 in
theorem of_5 (w : World) (h : Tab w) : Calls Tryd.prog 5 #[.int .u8 5] w fun e w' => e = .returned (.tuple #[.agg #[.int .i64 40, .int .i64 0, .int .i64 0, .int .i64 0, .int .i64 0, .int .i64 40, .int .i64 12, .int .i64 3, .int .i64 0, .int .u8 2, .bool false], .bool true]) ∧ Ext w w' := by
  have c0 := h 55 (by omega); have c1 := h 56 (by omega); have c2 := h 57 (by omega); have c3 := h 58 (by omega); have c4 := h 59 (by omega); have c5 := h 60 (by omega); have c6 := h 61 (by omega); have c7 := h 62 (by omega); have c8 := h 63 (by omega); have c9 := h 64 (by omega); have c10 := h 65 (by omega)
  have hl := h.lt
  clear h
  simp only [tab, List.getElem?_cons_succ, List.getElem?_cons_zero] at c0 c1 c2 c3 c4 c5 c6 c7 c8 c9 c10
  go_enter Tryd.func5, Tryd.ntmps5
  go_wp2
  exact bodyPost_ret (v := .tuple #[.agg #[.int .i64 40, .int .i64 0, .int .i64 0, .int .i64 0, .int .i64 0, .int .i64 40, .int .i64 12, .int .i64 3, .int .i64 0, .int .u8 2, .bool false], .bool true]) (by simp [results, Tryd.results5, go_sem]) rfl ⟨rfl, ext_alloc (Ext.rfl' _) _⟩
theorem of_far (n : Nat) (hn : 6 ≤ n) (hn2 : n < 256) (w : World) : Calls Tryd.prog 5 #[.int .u8 (n : Int)] w fun e w' => e = .returned (.tuple #[.agg #[.int .i64 0, .int .i64 0, .int .i64 0, .int .i64 0, .int .i64 0, .int .i64 0, .int .i64 0, .int .i64 0, .int .i64 0, .int .u8 0, .bool false], .bool false]) ∧ Ext w w' := by
  go_enter Tryd.func5, Tryd.ntmps5
  go_wp2
  exact bodyPost_ret (v := .tuple #[.agg #[.int .i64 0, .int .i64 0, .int .i64 0, .int .i64 0, .int .i64 0, .int .i64 0, .int .i64 0, .int .i64 0, .int .i64 0, .int .u8 0, .bool false], .bool false]) (by simp [results, Tryd.results5, go_sem]) rfl ⟨rfl, ext_alloc (Ext.rfl' _) _⟩
/-! what a kind's rule says, by number; what is no kind has noughts -/
def hpN (n : Nat) : Int := if n = 1 then 60 else if n = 2 then 10 else if n = 3 then 20 else if n = 4 then 12 else if n = 5 then 40 else 0
def speedN (n : Nat) : Int := if n = 1 then 0 else if n = 2 then 3 else if n = 3 then 2 else if n = 4 then 2 else if n = 5 then 0 else 0
def rangeN (n : Nat) : Int := if n = 1 then 0 else if n = 2 then 1 else if n = 3 then 1 else if n = 4 then 4 else if n = 5 then 0 else 0
def damageN (n : Nat) : Int := if n = 1 then 0 else if n = 2 then 1 else if n = 3 then 4 else if n = 4 then 3 else if n = 5 then 0 else 0
def coolN (n : Nat) : Int := if n = 1 then 0 else if n = 2 then 4 else if n = 3 then 4 else if n = 4 then 6 else if n = 5 then 0 else 0
def costN (n : Nat) : Int := if n = 1 then 100 else if n = 2 then 10 else if n = 3 then 20 else if n = 4 then 25 else if n = 5 then 40 else 0
def timeN (n : Nat) : Int := if n = 1 then 30 else if n = 2 then 6 else if n = 3 then 8 else if n = 4 then 10 else if n = 5 then 12 else 0
def sightN (n : Nat) : Int := if n = 1 then 5 else if n = 2 then 3 else if n = 3 then 4 else if n = 4 then 5 else if n = 5 then 3 else 0
def techN (n : Nat) : Int := if n = 1 then 0 else if n = 2 then 0 else if n = 3 then 0 else if n = 4 then 1 else if n = 5 then 0 else 0
def makerN (n : Nat) : Int := if n = 1 then 0 else if n = 2 then 1 else if n = 3 then 5 else if n = 4 then 5 else if n = 5 then 2 else 0
def boltN (n : Nat) : Bool := decide (n = 4)
def isN (n : Nat) : Bool := decide (1 ≤ n ∧ n ≤ 5)
theorem of_any (n : Nat) (hn : n < 256) (w : World) (h : Tab w) : Calls Tryd.prog 5 #[.int .u8 (n : Int)] w fun e w' => e = .returned (.tuple #[.agg #[.int .i64 (hpN n), .int .i64 (speedN n), .int .i64 (rangeN n), .int .i64 (damageN n), .int .i64 (coolN n), .int .i64 (costN n), .int .i64 (timeN n), .int .i64 (sightN n), .int .i64 (techN n), .int .u8 (makerN n), .bool (boltN n)], .bool (isN n)]) ∧ Ext w w' := by
  by_cases h6 : 6 ≤ n
  · have e : hpN n = 0 ∧ speedN n = 0 ∧ rangeN n = 0 ∧ damageN n = 0 ∧ coolN n = 0 ∧ costN n = 0 ∧ timeN n = 0 ∧ sightN n = 0 ∧ techN n = 0 ∧ makerN n = 0 ∧ boltN n = false ∧ isN n = false := by
      simp only [hpN, speedN, rangeN, damageN, coolN, costN, timeN, sightN, techN, makerN, boltN, isN]
      refine ⟨?_, ?_, ?_, ?_, ?_, ?_, ?_, ?_, ?_, ?_, ?_, ?_⟩
      all_goals first | (rw [if_neg (by omega), if_neg (by omega), if_neg (by omega), if_neg (by omega), if_neg (by omega)]) | (simp; omega)
    obtain ⟨e0, e1, e2, e3, e4, e5, e6, e7, e8, e9, eb, ei⟩ := e
    rw [e0, e1, e2, e3, e4, e5, e6, e7, e8, e9, eb, ei]
    exact of_far n h6 hn w
  · have : n = 0 ∨ n = 1 ∨ n = 2 ∨ n = 3 ∨ n = 4 ∨ n = 5 := by omega
    rcases this with rfl | rfl | rfl | rfl | rfl | rfl
    · exact of_0 w h
    · exact of_1 w h
    · exact of_2 w h
    · exact of_3 w h
    · exact of_4 w h
    · exact of_5 w h
/-- Who makes whom. -/
def makesB (m k : Nat) : Bool := isN m && isN k && decide (makerN k = (m : Int))
theorem maker_lt (n : Nat) : 0 ≤ makerN n ∧ makerN n ≤ 5 := by
  unfold makerN
  repeat' split
  all_goals omega
set_option maxHeartbeats 400000 in
theorem makes (m k : Nat) (hm : m < 256) (hk : k < 256) (w : World) (h : Tab w) : Calls Tryd.prog 7 #[.int .u8 (m : Int), .int .u8 (k : Int)] w fun e w' => e = .returned (.bool (makesB m k)) ∧ Ext w w' := by
  have H := Lib.hid h; clear h
  cases h1 : isN m with
  | false =>
    have e : makesB m k = false := by simp [makesB, h1]
    rw [e]
    have H1 := Lib.hid h1; clear h1 e
    go_enter Tryd.func7, Tryd.ntmps7
    go_wp2_with fail
    refine (of_any m hm _ H.out).mono ?_
    rintro e w1 ⟨rfl, b1⟩
    rw [H1.out]
    go_wp2_with fail
    refine (of_any k hk _ (H.out.ext (ext_trans b1 (ext_alloc (Ext.rfl' _) _)))).mono ?_
    rintro e w2 ⟨rfl, b2⟩
    go_wp2_with fail
    go_ret
    exact ⟨rfl, ext_trans b1 (ext_alloc (ext_trans (ext_alloc (Ext.rfl' _) _) b2) _)⟩
  | true =>
    cases h2 : isN k with
    | false =>
      have e : makesB m k = false := by simp [makesB, h2]
      rw [e]
      have H1 := Lib.hid h1; have H2 := Lib.hid h2; clear h1 h2 e
      go_enter Tryd.func7, Tryd.ntmps7
      go_wp2_with fail
      refine (of_any m hm _ H.out).mono ?_
      rintro e w1 ⟨rfl, b1⟩
      rw [H1.out]
      go_wp2_with fail
      refine (of_any k hk _ (H.out.ext (ext_trans b1 (ext_alloc (Ext.rfl' _) _)))).mono ?_
      rintro e w2 ⟨rfl, b2⟩
      rw [H2.out]
      go_wp2_with fail
      go_ret
      exact ⟨rfl, ext_trans b1 (ext_alloc (ext_trans (ext_alloc (Ext.rfl' _) _) b2) _)⟩
    | true =>
      have e : makesB m k = (makerN k == (m : Int)) := by simp [makesB, h1, h2]; rfl
      rw [e]
      have H1 := Lib.hid h1; have H2 := Lib.hid h2; clear h1 h2 e
      go_enter Tryd.func7, Tryd.ntmps7
      go_wp2_with fail
      refine (of_any m hm _ H.out).mono ?_
      rintro e w1 ⟨rfl, b1⟩
      rw [H1.out]
      go_wp2_with fail
      refine (of_any k hk _ (H.out.ext (ext_trans b1 (ext_alloc (Ext.rfl' _) _)))).mono ?_
      rintro e w2 ⟨rfl, b2⟩
      rw [H2.out]
      go_wp2_with fail
      go_ret
      exact ⟨rfl, ext_trans b1 (ext_alloc (ext_trans (ext_alloc (Ext.rfl' _) _) b2) _)⟩
theorem building (a0 a1 a2 a3 a4 a5 a6 a7 a8 m : Int) (b : Bool) (w : World) : Calls Tryd.prog 9 #[.agg #[.int .i64 a0, .int .i64 a1, .int .i64 a2, .int .i64 a3, .int .i64 a4, .int .i64 a5, .int .i64 a6, .int .i64 a7, .int .i64 a8, .int .u8 m, .bool b]] w fun e w' => e = .returned (.bool (a1 == 0)) ∧ Ext w w' := by
  go_enter Tryd.func9, Tryd.ntmps9
  go_wp2
  go_ret
  exact ⟨rfl, ext_alloc (Ext.rfl' _) _⟩
set_option maxHeartbeats 400000 in
theorem wakes (w : World) (h : Tab w) : Calls Tryd.prog 8 #[] w fun e w' => e = .returned (.bool true) ∧ Ext w w' := by
  have H := Lib.hid h; clear h
  go_enter Tryd.func8, Tryd.ntmps8
  go_wp2_with fail
  refine (of_4 _ H.out).mono ?_
  rintro e w1 ⟨rfl, b1⟩
  go_wp2_with fail
  have t2 := H.out.ext (ext_trans b1 (ext_alloc (Ext.rfl' w1) (.cells #[.int .i64 12, .int .i64 2, .int .i64 4, .int .i64 3, .int .i64 6, .int .i64 25, .int .i64 10, .int .i64 5, .int .i64 1, .int .u8 5, .bool true] 23)))
  have T2 := Lib.hid t2; clear t2
  refine (makes 5 4 (by omega) (by omega) _ T2.out).mono ?_
  rintro e w2 ⟨rfl, b2⟩
  rw [show makesB 5 4 = true from by decide]
  go_wp2_with fail
  refine (makes 1 3 (by omega) (by omega) _ (T2.out.ext b2)).mono ?_
  rintro e w3 ⟨rfl, b3⟩
  rw [show makesB 1 3 = false from by decide]
  have b23 := ext_trans b2 b3
  obtain ⟨c, _⟩ := ecell b23
  go_wp2_with fail
  refine (building _ _ _ _ _ _ _ _ _ _ _ _).mono ?_
  rintro e w4 ⟨rfl, b4⟩
  go_wp2_with fail
  go_ret
  exact ⟨rfl, ext_trans b1 (ext_trans (ext_alloc (Ext.rfl' _) _) (ext_trans b23 b4))⟩
end Go.Proofs.YtdbjknljdplinaaDoor.Rul
