/- Path: the methods of the heap of open tiles. -/
import Derived.Test.YtmceaocknlnmpaaP3
import Derived.Test.YtmceaocknlnmpaaP1
import Derived.Test.YtmceaocknlnmpaaP2
import Derived.Deep.LoopGhost
import Derived.Deep.Cut
import Derived.Deep.RegionHeld3
import Derived.Deep.DeepCutAuto
namespace Go.Proofs.Ytmceaocknlnmpaa.Pth
open Go.ChangeShapes Go.WideShapes Go.ChangeAt Go.RowKit
open Go.Proofs.Ytmceaocknlnmpaa.Rec
set_option linter.unusedVariables false
def cNd (a : Nd) : List Value := [.int .i64 (a.t : Int), .int .i64 (a.g : Int), .int .i64 (a.h : Int)]
theorem cNd_len (a : Nd) : (cNd a).length = 3 := rfl
theorem m_len (a : Addr) (v : Value) (w : World) (hc : w.cell? a = some v) : (method 196 68 (.pointer (some a)) "Len").run Try.prog w = .ok (30, v) w := by
  have h : (method 196 68 (.pointer (some a)) "Len").run Try.prog w = (load a >>= fun v => pure (30, v)).run Try.prog w := by kernel_rfl
  rw [h]
  simp [hc, Result.andThen]
theorem m_less (a : Addr) (v : Value) (w : World) (hc : w.cell? a = some v) : (method 196 68 (.pointer (some a)) "Less").run Try.prog w = .ok (55, v) w := by
  have h : (method 196 68 (.pointer (some a)) "Less").run Try.prog w = (load a >>= fun v => pure (55, v)).run Try.prog w := by kernel_rfl
  rw [h]
  simp [hc, Result.andThen]
theorem m_swap (a : Addr) (v : Value) (w : World) (hc : w.cell? a = some v) : (method 196 68 (.pointer (some a)) "Swap").run Try.prog w = .ok (56, v) w := by
  have h : (method 196 68 (.pointer (some a)) "Swap").run Try.prog w = (load a >>= fun v => pure (56, v)).run Try.prog w := by kernel_rfl
  rw [h]
  simp [hc, Result.andThen]
theorem n_len (a : Addr) (w : World) : (nilAhead 196 68 (.pointer (some a)) "Len").run Try.prog w = .ok (some false) w := by kernel_rfl
theorem n_push (a : Addr) (w : World) : (nilAhead 196 68 (.pointer (some a)) "Push").run Try.prog w = .ok (some false) w := by kernel_rfl
theorem m_push (a : Addr) (w : World) : (method 196 68 (.pointer (some a)) "Push").run Try.prog w = .ok (58, .pointer (some a)) w := by kernel_rfl
theorem m_pop (a : Addr) (w : World) : (method 196 68 (.pointer (some a)) "Pop").run Try.prog w = .ok (57, .pointer (some a)) w := by kernel_rfl
/-- Small numbers. -/
def Sm (q : List Nd) : Prop := ∀ a ∈ q, a.t ≤ 100000 ∧ a.g ≤ 100000 ∧ a.h ≤ 100000
theorem lt_bool {xt xg xh yt yg yh : Nat} : decide (lt (xt, xg, xh) (yt, yg, yh)) = if ((xg : Int) + (xh : Int) = (yg : Int) + (yh : Int)) then (if (xh : Int) = (yh : Int) then decide ((xt : Int) < (yt : Int)) else decide ((xh : Int) < (yh : Int))) else decide ((xg : Int) + (xh : Int) < (yg : Int) + (yh : Int)) := by
  split
  · split
    · exact decide_eq_decide.2 (by unfold lt Nd.g Nd.h Nd.t; dsimp only; omega)
    · exact decide_eq_decide.2 (by unfold lt Nd.g Nd.h Nd.t; dsimp only; omega)
  · exact decide_eq_decide.2 (by unfold lt Nd.g Nd.h Nd.t; dsimp only; omega)
set_option maxHeartbeats 4000000 in
set_option maxRecDepth 100000 in
theorem less_st (A : Option Addr) (n c i j : Nat) (q : List Nd) (w : World) (hR : RowR w A n 3 cNd q) (hi : i < n) (hj : j < n) (hn : n ≤ 100000) (hb : Sm q) :
    Calls Try.prog 55 #[.slice A n c, .int .i64 (i : Int), .int .i64 (j : Int)] w fun e w' => e = .returned (.bool (decide (lt (at' q i) (at' q j)))) ∧ Ext w w' := by
  obtain ⟨hl, hc⟩ := hR
  obtain ⟨b, o, rfl, hbl, hcell⟩ := hc (by omega)
  have hai := at_get (xs := q) (k := i) (by omega)
  have haj := at_get (xs := q) (k := j) (by omega)
  have ci0 := hcell i (by omega) 0 (by omega); have ci1 := hcell i (by omega) 1 (by omega); have ci2 := hcell i (by omega) 2 (by omega)
  have cj0 := hcell j (by omega) 0 (by omega); have cj1 := hcell j (by omega) 1 (by omega); have cj2 := hcell j (by omega) 2 (by omega)
  have bi := hb q[i] (List.getElem_mem _)
  have bj := hb q[j] (List.getElem_mem _)
  rw [hai, haj]
  generalize q[i] = x at ci0 ci1 ci2 bi ⊢
  generalize q[j] = y at cj0 cj1 cj2 bj ⊢
  obtain ⟨xt, xg, xh⟩ := x
  obtain ⟨yt, yg, yh⟩ := y
  simp only [cNd, Nd.t, Nd.g, Nd.h, List.getElem?_cons_zero, List.getElem?_cons_succ, Nat.add_zero] at ci0 ci1 ci2 cj0 cj1 cj2 bi bj
  clear hb hai haj hcell hc
  obtain ⟨r, hr⟩ : ∃ r, r = decide (lt (xt, xg, xh) (yt, yg, yh)) := ⟨_, rfl⟩
  have HR := Lib.hid (hr.trans lt_bool)
  rw [← hr]
  clear hr
  have y1 : (0 : Int) ≤ (i : Int) := by omega
  have y2 : (i : Int) < (n : Int) := by omega
  have y3 : (0 : Int) ≤ (j : Int) := by omega
  have y4 : (j : Int) < (n : Int) := by omega
  have z1 : IntKind.i64.wrap ((xg : Int) + (xh : Int)) = (xg : Int) + (xh : Int) := IntWalk.i64_in _ (by omega)
  have z2 : IntKind.i64.wrap ((yg : Int) + (yh : Int)) = (yg : Int) + (yh : Int) := IntWalk.i64_in _ (by omega)
  go_enter Try.func55, Try.ntmps55
  go_upto_region 1 with fail
  go_cut [7, 8] (fun s7 s8 wx => ∃ g1 g2 : Nat, s7 = .pointer (some ⟨g1, 0, none⟩) ∧ s8 = .pointer (some ⟨g2, 0, none⟩) ∧ Blk wx g1 51 #[.int .i64 (xt : Int), .int .i64 (xg : Int), .int .i64 (xh : Int)] ∧ Blk wx g2 51 #[.int .i64 (yt : Int), .int .i64 (yg : Int), .int .i64 (yh : Int)] ∧ Ext w wx)
  case first =>
    have MKS := Lib.hid (fun (w' : World) (e : Ext w w') => (⟨kc e ci0, kc e ci1, kc e ci2, kc e cj0, kc e cj1, kc e cj2, Lib.hid e⟩ : w'.cell? ⟨b, o + i * 3, none⟩ = some (.int .i64 (xt : Int)) ∧ w'.cell? ⟨b, o + i * 3 + 1, none⟩ = some (.int .i64 (xg : Int)) ∧ w'.cell? ⟨b, o + i * 3 + 2, none⟩ = some (.int .i64 (xh : Int)) ∧ w'.cell? ⟨b, o + j * 3, none⟩ = some (.int .i64 (yt : Int)) ∧ w'.cell? ⟨b, o + j * 3 + 1, none⟩ = some (.int .i64 (yg : Int)) ∧ w'.cell? ⟨b, o + j * 3 + 2, none⟩ = some (.int .i64 (yh : Int)) ∧ Hid (Ext w w')))
    have zT := Lib.hid (Ext.rfl' w)
    have hz : w.heap.size ≤ w.heap.size := Nat.le_refl _
    go_region_held3 (fun w' => w'.cell? ⟨b, o + i * 3, none⟩ = some (.int .i64 (xt : Int)) ∧ w'.cell? ⟨b, o + i * 3 + 1, none⟩ = some (.int .i64 (xg : Int)) ∧ w'.cell? ⟨b, o + i * 3 + 2, none⟩ = some (.int .i64 (xh : Int)) ∧ w'.cell? ⟨b, o + j * 3, none⟩ = some (.int .i64 (yt : Int)) ∧ w'.cell? ⟨b, o + j * 3 + 1, none⟩ = some (.int .i64 (yg : Int)) ∧ w'.cell? ⟨b, o + j * 3 + 2, none⟩ = some (.int .i64 (yh : Int)) ∧ Hid (Ext w w'))
      ((refine MKS.out _ ?_; repeat (first | exact zT.out | refine ext_alloc ?_ _ | refine ext_drew ?_ | refine ext_set ?_ (by first | omega | (simp; done) | (simp; omega)) _)))
      (fail)
    all_goals
      go_wp2_with fail
      go_meet
      go_split_ands
      refine ⟨_, _, rfl, rfl, ?_, ?_, ext_drew (ext_alloc (ext_alloc (Ext.rfl' _) _) _)⟩
      all_goals first | exact Blk.drew ((Blk.new _ _ _).alloc _) | exact Blk.drew (Blk.new1 _ _ _ _)
  case rest =>
    obtain ⟨g1, g2, rfl, rfl, k4, k5, ex⟩ := hcut
    have K4 := Lib.hid k4; have K5 := Lib.hid k5; have EX := Lib.hid ex
    clear ex ci0 ci1 ci2 cj0 cj1 cj2 k4 k5
    have a0 := K4.out.cell 0; have a1 := K4.out.cell 1; have a2 := K4.out.cell 2
    have b0 := K5.out.cell 0; have b1 := K5.out.cell 1; have b2 := K5.out.cell 2
    simp only [List.getElem?_toArray, List.getElem?_cons_zero, List.getElem?_cons_succ] at a0 a1 a2 b0 b1 b2
    by_cases h1 : (xg : Int) + (xh : Int) = (yg : Int) + (yh : Int)
    · by_cases h2 : (xh : Int) = (yh : Int)
      · have hr := HR.out
        rw [if_pos h1, if_pos h2] at hr
        replace hr := Lib.hid hr
        go_wp2_with fail
        all_goals (go_ret; exact ⟨by rw [hr.out]; simp, EX.out⟩)
      · have hr := HR.out
        rw [if_pos h1, if_neg h2] at hr
        replace hr := Lib.hid hr
        go_wp2_with fail
        all_goals (go_ret; exact ⟨by rw [hr.out]; simp, EX.out⟩)
    · have hr := HR.out
      rw [if_neg h1] at hr
      replace hr := Lib.hid hr
      go_wp2_with fail
      all_goals (go_ret; exact ⟨by rw [hr.out]; simp, EX.out⟩)
end Go.Proofs.Ytmceaocknlnmpaa.Pth
