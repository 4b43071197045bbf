/- Path: heap.Pop over the heap of open tiles. -/
import Derived.Test.YtmceaocknlnmpaaPthK
import Derived.Test.YtmceaocknlnmpaaPthF2
namespace Go.Proofs.Ytmceaocknlnmpaa.Pth
open Go.ChangeShapes Go.WideShapes Go.ChangeAt Go.RowKit
open Go.Proofs.Ytmceaocknlnmpaa.Rec
set_option linter.unusedVariables false
theorem take_last {q : List Nd} {n : Nat} (h : q.length = n + 1) : q.Perm (at' q n :: q.take n) := by
  have e : q = q.take n ++ [at' q n] := by
    rw [at_get (by omega)]
    have := List.take_append_getElem (l := q) (i := n) (by omega)
    rw [this]; exact (List.take_of_length_le (by omega)).symm
  conv => lhs; rw [e]
  exact List.perm_append_singleton _ _
theorem swap_any (base g n c i j : Nat) (q : List Nd) (w : World) (hO : OwnR base w 51 3 cNd (.slice (some ⟨g, 0, none⟩) n c) q) (hi : i < n) (hj : j < n) (hn : n ≤ 100000) :
    Calls Try.prog 56 #[.slice (some ⟨g, 0, none⟩) n c, .int .i64 (i : Int), .int .i64 (j : Int)] w fun e w' => e = .returned (.tuple #[]) ∧ OwnR base w' 51 3 cNd (.slice (some ⟨g, 0, none⟩) n c) (swap q i j) ∧ w.grownBy w' (some g) := by
  by_cases h : i = j
  · subst h; exact swap_own base g n c i q w hO hi hn
  · exact swap_st base g n c i j q w hO hi hj h hn
set_option maxHeartbeats 4000000 in
set_option maxRecDepth 100000 in
theorem hpop_st (base B : Nat) (m0 m1 m2 bu tv nv mp v : Value) (q : List Nd) (n : Nat) (w : World) (h : Hq base B m0 m1 m2 bu tv nv mp v q w) (hq : q.length = n + 1) (hn : n < 100000) (hS : Sm q) (hH : Heap q q.length) :
    Calls Try.prog 31 #[.iface 68 (.pointer (some ⟨B, 6, none⟩))] w fun e w' => e = .returned (.iface 51 (.agg (cNd (at' q 0)).toArray)) ∧ ∃ v' q', Hq base B m0 m1 m2 bu tv nv mp v' q' w' ∧ q.Perm (at' q 0 :: q') ∧ Heap q' q'.length ∧ HS w w' B v v' := by
  obtain ⟨g, c, rfl⟩ := own_some h.2 (by omega)
  rw [hq] at h
  have H0 := Lib.hid h
  have HD := Lib.hid (dn_begin hH (by omega))
  rw [hq, Nat.add_sub_cancel] at HD
  obtain ⟨N, hN⟩ : ∃ N, N = n + 1 := ⟨_, rfl⟩
  rw [← hN] at H0 hq
  rw [hq]
  have y0 : N ≤ 100000 := by omega
  have y1 : (N : Int) - 1 = (n : Int) := by omega
  have y2 : IntKind.i64.wrap (n : Int) = (n : Int) := IntWalk.i64_in _ (by omega)
  have y3 : n < N := by omega
  have HN := Lib.hid hN
  have HLEN := Lib.hid (len_st (some ⟨g, 0, none⟩) N c w (by omega))
  clear h hH hN
  have hm := m_len ⟨B, 6, none⟩ _ w (c6 H0.out.1)
  go_enter Try.func31, Try.ntmps31
  go_wp2_with fail
  refine HLEN.out.mono ?_
  rintro e w1 ⟨rfl, b1⟩
  have HB1 := Lib.hid (H0.out.1.ext b1); have HO1 := Lib.hid (H0.out.2.ext b1); have HE1 := Lib.hid b1
  have HSW := Lib.hid (swap_any base g N c 0 n q w1 HO1.out (by omega) y3 y0)
  clear hm b1
  have hm := m_swap ⟨B, 6, none⟩ _ w1 (c6 HB1.out)
  go_wp2_with fail
  refine HSW.out.mono ?_
  rintro e w2 ⟨rfl, hO2, hg2⟩
  have HB2 : Hid (Blk w2 B 48 (sC m0 m1 m2 bu tv nv mp (.slice (some ⟨g, 0, none⟩) N c))) := Lib.hid ((hg2.block B HB1.out.lt (fun e => own_off HO1.out HB1.out e.symm)).trans HB1.out)
  have hl2 : (swap q 0 n).length = N := (swap_len q 0 n).trans hq
  have hp2 : (swap q 0 n).Perm q := swap_perm (by omega) (by omega)
  have HDN := Lib.hid (down_st base B g N c n m0 m1 m2 bu tv nv mp (swap q 0 n) w2 HB2.out hO2 hl2 y3 y0 (perm_sm hp2 hS) HD.out)
  have HG2 := Lib.hid hg2; have HP2 := Lib.hid hp2
  clear hm hO2 hg2 hp2
  go_wp2_with fail
  refine HDN.out.mono ?_
  rintro e w3 ⟨⟨b, rfl⟩, q3, hH3, hR3, hT3⟩
  have hl3 : q3.length = n + 1 := (hR3.1.length_eq.trans hl2).trans HN.out
  have h0 : at' q3 n = at' q 0 := by
    rw [hT3 n (Nat.le_refl _), swap_at (by omega) (by omega), if_pos rfl]
  have HR3 := Lib.hid hR3
  have HR4 := Lib.hid hR3
  rw [HN.out] at HR4
  have HPO := Lib.hid (pop_st base B g n c m0 m1 m2 bu tv nv mp q3 w3 HR4.out.2.1 HR4.out.2.2.1 hl3 (by omega))
  rw [h0] at HPO
  have HTL := Lib.hid (take_last hl3)
  rw [h0] at HTL
  have HH3 := Lib.hid (heap_take hH3 (by omega))
  clear hH3 hR3 hT3 h0
  have hm := m_pop ⟨B, 6, none⟩ w3
  go_wp2_with fail
  refine HPO.out.mono ?_
  rintro e w4 ⟨rfl, hB4, hO4, hg4⟩
  have HF : Hid (∃ v' q', Hq base B m0 m1 m2 bu tv nv mp v' q' w4 ∧ q.Perm (at' q 0 :: q') ∧ Heap q' q'.length ∧ HS w w4 B (.slice (some ⟨g, 0, none⟩) N c) v') :=
    Lib.hid ⟨_, _, ⟨hB4, hO4⟩, ((HR3.out.1.trans HP2.out).symm).trans HTL.out, HH3.out, (((HS.ext HE1.out B _).trans (HS.row HG2.out B)).trans (HS.row HR3.out.2.2.2 B)).trans (HS.var hg4 _ _ rfl)⟩
  clear hB4 hO4 hg4 hm
  go_wp2_with fail
  go_ret
  exact ⟨rfl, HF.out⟩
end Go.Proofs.Ytmceaocknlnmpaa.Pth
