/- Path: heap.Push and heap.Pop over the heap of open tiles. -/
import Derived.Test.YtmceaocknlnmpaaPthJ
namespace Go.Proofs.Ytmceaocknlnmpaa.Pth
open Go.ChangeShapes Go.WideShapes Go.ChangeAt Go.RowKit
open Go.Proofs.Ytmceaocknlnmpaa.Rec
set_option linter.unusedVariables false
/-- The open tiles of a search. -/
def Hq (base B : Nat) (m0 m1 m2 bu tv nv mp : Value) (v : Value) (q : List Nd) (w : World) : Prop :=
  Blk w B 48 (sC m0 m1 m2 bu tv nv mp v) ∧ OwnR base w 51 3 cNd v q
theorem own_some {base : Nat} {w : World} {v : Value} {q : List Nd} (h : OwnR base w 51 3 cNd v q) (hq : 0 < q.length) : ∃ g c, v = .slice (some ⟨g, 0, none⟩) q.length c := by
  rcases h.2 with ⟨_, hn⟩ | ⟨g, cap, cur, rfl, _⟩
  · omega
  · exact ⟨g, cap, rfl⟩
set_option maxHeartbeats 4000000 in
set_option maxRecDepth 100000 in
theorem hpush_st (base B : Nat) (m0 m1 m2 bu tv nv mp v : Value) (q : List Nd) (xt xg xh : Nat) (w : World) (h : Hq base B m0 m1 m2 bu tv nv mp v q w) (hb : base ≤ w.heap.size) (hn : q.length < 100000) (hS : Sm (q ++ [(xt, xg, xh)])) (hH : Heap q q.length) :
    Calls Try.prog 29 #[.iface 68 (.pointer (some ⟨B, 6, none⟩)), .iface 51 (.agg #[.int .i64 (xt : Int), .int .i64 (xg : Int), .int .i64 (xh : Int)])] w fun e w' => e = .returned (.tuple #[]) ∧ ∃ v' q', Hq base B m0 m1 m2 bu tv nv mp v' q' w' ∧ q'.Perm ((xt, xg, xh) :: q) ∧ Heap q' q'.length ∧ HS w w' B v v' := by
  obtain ⟨A, c, rfl, _⟩ := h.2.shape
  have HP := Lib.hid (push_st base B q.length c A m0 m1 m2 bu tv nv mp q xt xg xh w h.1 h.2 hb (by omega))
  have hm := m_push ⟨B, 6, none⟩ w
  have HH := Lib.hid hH
  clear h hH
  go_enter Try.func29, Try.ntmps29
  go_wp2_with fail
  refine HP.out.mono ?_
  rintro e w1 ⟨rfl, v1, hB1, hO1, hH1⟩
  have hl1 : (q ++ [(xt, xg, xh)]).length = q.length + 1 := by simp
  obtain ⟨g, c1, rfl⟩ := own_some hO1 (by omega)
  rw [hl1] at hB1 hO1 hH1
  have HB1 := Lib.hid hB1; have HO1 := Lib.hid hO1; have HH1 := Lib.hid hH1
  have HUP := Lib.hid (up_begin (xt, xg, xh) HH.out)
  rw [hl1] at HUP
  obtain ⟨N, hN⟩ : ∃ N, N = q.length + 1 := ⟨_, rfl⟩
  rw [← hN] at HB1 HO1 HH1 HUP hl1
  have y0 : N ≤ 100000 := by omega
  have y1 : (N : Int) - 1 = (q.length : Int) := by omega
  have y2 : IntKind.i64.wrap (q.length : Int) = (q.length : Int) := IntWalk.i64_in _ (by omega)
  have HLEN : Hid (∀ W, Calls Try.prog 30 #[.slice (some ⟨g, 0, none⟩) N c1] W fun e w' => e = .returned (.int .i64 (N : Int)) ∧ Ext W w') := Lib.hid fun W => len_st _ N c1 W (by omega)
  have y3 : q.length < N := by omega
  clear hB1 hO1 hH1 hm hN
  have hm := m_len ⟨B, 6, none⟩ _ w1 (c6 HB1.out)
  go_wp2_with fail
  refine (HLEN.out _).mono ?_
  rintro e w2 ⟨rfl, b2⟩
  have HUPS := Lib.hid (up_st base B g N c1 q.length m0 m1 m2 bu tv nv mp (q ++ [(xt, xg, xh)]) w2 (HB1.out.ext b2) (HO1.out.ext b2) hl1 y3 y0 hS HUP.out)
  have HE2 := Lib.hid b2
  clear hm b2
  go_wp2_with fail
  refine HUPS.out.mono ?_
  rintro e w3 ⟨rfl, q3, hH3, hp3, hB3, hO3, hg3⟩
  have hl3 : q3.length = N := hp3.length_eq.trans hl1
  have HF : Hid (∃ v' q', Hq base B m0 m1 m2 bu tv nv mp v' q' w3 ∧ q'.Perm ((xt, xg, xh) :: q) ∧ Heap q' q'.length ∧ HS w w3 B (.slice A q.length c) v') :=
    Lib.hid ⟨_, q3, ⟨hB3, hO3⟩, hp3.trans (List.perm_append_singleton _ _), by rw [hl3]; exact hH3, (HH1.out.trans (HS.ext HE2.out B _)).trans (HS.row hg3 B)⟩
  clear hH3 hp3 hB3 hO3 hg3 hl3
  go_wp2_with fail
  go_end0
  exact ⟨rfl, HF.out⟩
end Go.Proofs.Ytmceaocknlnmpaa.Pth
