/- Path: heap.up over the heap of open tiles. -/
import Derived.Test.YtmceaocknlnmpaaPthH
namespace Go.Proofs.Ytmceaocknlnmpaa.Pth
open Go.ChangeShapes Go.WideShapes Go.ChangeAt Go.RowKit
open Go.Proofs.Ytmceaocknlnmpaa.Rec
set_option linter.unusedVariables false
theorem perm_sm {q q' : List Nd} (h : q'.Perm q) (hs : Sm q) : Sm q' := fun a ha => hs a (h.mem_iff.1 ha)
theorem swap_perm' {xs : List Nd} {i j : Nat} (hi : i < xs.length) (hj : j < xs.length) : (swap xs i j).Perm xs := swap_perm hi hj
/-- The heap while one rises. -/
def URel (base B g n c : Nat) (m0 m1 m2 bu tv nv mp : Value) (q0 : List Nd) (w : World) (q : List Nd) (wr : World) : Prop :=
  q.Perm q0 ∧ Blk wr B 48 (sC m0 m1 m2 bu tv nv mp (.slice (some ⟨g, 0, none⟩) n c)) ∧ OwnR base wr 51 3 cNd (.slice (some ⟨g, 0, none⟩) n c) q ∧ w.grownBy wr (some g)
theorem URel.ext {base B g n c : Nat} {m0 m1 m2 bu tv nv mp : Value} {q0 q : List Nd} {w wr wx : World} (h : URel base B g n c m0 m1 m2 bu tv nv mp q0 w q wr) (e : Ext wr wx) : URel base B g n c m0 m1 m2 bu tv nv mp q0 w q wx :=
  ⟨h.1, h.2.1.ext e, h.2.2.1.ext e, gbt h.2.2.2 ⟨e.os, e.tape, e.output, e.size, fun k hk _ => e.block k hk⟩⟩
theorem URel.swap {base B g n c i j : Nat} {m0 m1 m2 bu tv nv mp : Value} {q0 q : List Nd} {w wr wx : World} (h : URel base B g n c m0 m1 m2 bu tv nv mp q0 w q wr) (hi : i < q.length) (hj : j < q.length) (hO : OwnR base wx 51 3 cNd (.slice (some ⟨g, 0, none⟩) n c) (swap q i j)) (hg : wr.grownBy wx (some g)) : URel base B g n c m0 m1 m2 bu tv nv mp q0 w (Pth.swap q i j) wx :=
  ⟨(swap_perm hi hj).trans h.1, (hg.block B h.2.1.lt (fun e => own_off h.2.2.1 h.2.1 e.symm)).trans h.2.1, hO, gbt h.2.2.2 hg⟩
set_option maxHeartbeats 4000000 in
set_option maxRecDepth 100000 in
theorem up_st (base B g n c j0 : Nat) (m0 m1 m2 bu tv nv mp : Value) (q0 : List Nd) (w : World) (hB : Blk w B 48 (sC m0 m1 m2 bu tv nv mp (.slice (some ⟨g, 0, none⟩) n c))) (hO : OwnR base w 51 3 cNd (.slice (some ⟨g, 0, none⟩) n c) q0) (hq : q0.length = n) (hj : j0 < n) (hn : n ≤ 100000) (hS : Sm q0) (hU : Up q0 n j0) :
    Calls Try.prog 34 #[.iface 68 (.pointer (some ⟨B, 6, none⟩)), .int .i64 (j0 : Int)] w fun e w' => e = .returned (.tuple #[]) ∧ ∃ q, Heap q n ∧ URel base B g n c m0 m1 m2 bu tv nv mp q0 w q w' := by
  have HR0 : Hid (URel base B g n c m0 m1 m2 bu tv nv mp q0 w q0 w) := Lib.hid ⟨List.Perm.refl _, hB, hO, ⟨rfl, rfl, rfl, Nat.le_refl _, fun _ _ _ => rfl⟩⟩
  have HU0 := Lib.hid hU
  clear hB hO hU
  go_enter Try.func34, Try.ntmps34
  go_wp2_with fail
  go_loopw [1] (fun jv wr => ∃ (j : Nat) (q : List Nd), jv = .int .i64 (j : Int) ∧ j < n ∧ Up q n j ∧ URel base B g n c m0 m1 m2 bu tv nv mp q0 w q wr) (fun jv _ => (intOf jv).toNat)
  case atStart => exact ⟨j0, q0, rfl, hj, HU0.out, HR0.out⟩
  case round =>
    obtain ⟨j, q, rfl, hjn, hUp, hR⟩ := hrel
    obtain ⟨wi, rfl⟩ : ∃ wi : World, wi = wr := ⟨_, rfl⟩
    have HU := Lib.hid hUp; have HR := Lib.hid hR
    have hql : q.length = n := hR.1.length_eq.trans hq
    clear hUp hR
    obtain ⟨p, hp⟩ : ∃ p, p = (j - 1) / 2 := ⟨_, rfl⟩
    have y1 : IntKind.i64.wrap ((j : Int) - 1) = (j : Int) - 1 := IntWalk.i64_in _ (by omega)
    have y2 : ((j : Int) - 1).tdiv 2 = (p : Int) := by
      rcases Nat.eq_zero_or_pos j with e | e
      · subst e; rw [hp]; rfl
      · rw [Int.tdiv_eq_ediv_of_nonneg (by omega)]; omega
    have y3 : IntKind.i64.wrap (p : Int) = (p : Int) := IntWalk.i64_in _ (by omega)
    have hmL := m_less ⟨B, 6, none⟩ _ wi (c6 HR.out.2.1)
    have HP := Lib.hid hp
    clear hp
    by_cases h0 : p = j
    · have y4 : (p : Int) = (j : Int) := by rw [h0]
      have hj0 : j = 0 := by have := HP.out; omega
      have HFIN := Lib.hid (up_done HU.out (.inl hj0))
      go_wp2_with fail
      go_end0
      exact ⟨rfl, q, HFIN.out, HR.out⟩
    · have y4 : ¬ (p : Int) = (j : Int) := by omega
      have hjp : 0 < j := by have := HP.out; omega
      have HL := Lib.hid (less_st (some ⟨g, 0, none⟩) n c j p q wi (HR.out.2.2.1.row cNd_len) hjn (by have := HP.out; omega) hn (perm_sm HR.out.1 hS))
      have hpj : p < j := by have := HP.out; omega
      by_cases hl : lt (at' q j) (at' q p)
      · rw [decide_eq_true hl] at HL
        go_wp2_with fail
        refine HL.out.mono ?_
        rintro e w2 ⟨rfl, b2⟩
        have hmS := m_swap ⟨B, 6, none⟩ _ w2 (c6 (HR.out.2.1.ext b2))
        have HR2 := Lib.hid (HR.out.ext b2)
        have HST := Lib.hid (swap_st base g n c p j q w2 HR2.out.2.2.1 (by omega) hjn h0 hn)
        clear hmL
        go_wp2_with fail
        refine HST.out.mono ?_
        rintro e w3 ⟨rfl, hO3, hg3⟩
        go_wp2_with fail
        go_roundw
        case measure => simp only [intOf]; omega
        case rel =>
          refine ⟨p, _, rfl, by omega, ?_, HR2.out.swap (by omega) (by omega) hO3 hg3⟩
          have h := up_step (xs := q) (j := j) (by rw [hql]; exact HU.out) (by omega) hjp (by rw [← HP.out]; exact hl)
          rw [hql, ← HP.out] at h; exact h
      · rw [decide_eq_false hl] at HL
        go_wp2_with fail
        refine HL.out.mono ?_
        rintro e w2 ⟨rfl, b2⟩
        go_wp2_with fail
        go_end0
        refine ⟨rfl, q, up_done HU.out (.inr ?_), HR.out.ext b2⟩
        rw [← HP.out]; exact hl
end Go.Proofs.Ytmceaocknlnmpaa.Pth
