/- Path: Len, Pop and Push of the heap of open tiles, on the variable that holds it. -/
import Derived.Test.YtmceaocknlnmpaaPthF
namespace Go.Proofs.Ytmceaocknlnmpaa.Pth
open Go.ChangeShapes Go.WideShapes Go.ChangeAt Go.RowKit
open Go.Proofs.Ytmceaocknlnmpaa.Rec
set_option linter.unusedVariables false
/-- What a search holds. -/
def sC (m0 m1 m2 bu tv nv mp v : Value) : Array Value := #[m0, m1, m2, bu, tv, nv, v, mp]
set_option maxHeartbeats 1000000 in
theorem len_st (A : Option Addr) (n c : Nat) (w : World) (hn : n ≤ 1000000) : Calls Try.prog 30 #[.slice A n c] w fun e w' => e = .returned (.int .i64 (n : Int)) ∧ Ext w w' := by
  go_enter Try.func30, Try.ntmps30
  go_wp2_with fail
  go_ret
  exact ⟨rfl, Ext.rfl' _⟩
theorem own_cut {base g c n : Nat} {q : List Nd} {w : World} (h : OwnR base w 51 3 cNd (.slice (some ⟨g, 0, none⟩) (n + 1) c) q) (hq : q.length = n + 1) : OwnR base w 51 3 cNd (.slice (some ⟨g, 0, none⟩) n c) (q.take n) := by
  rcases h.2 with ⟨h', _⟩ | ⟨g', cap', cur, h', hb, hg, hnc, hcm, hcs, htake⟩
  · simp at h'
  · simp only [Value.slice.injEq, Option.some.injEq, Addr.mk.injEq, and_true, true_and] at h'
    obtain ⟨rfl, hl, rfl⟩ := h'
    have hlen : (q.take n).length = n := by rw [List.length_take]; omega
    have hf : (q.take n).flatMap cNd = (q.flatMap cNd).take (n * 3) := by
      have e := (List.take_append_drop n q)
      have e2 : q.flatMap cNd = (q.take n).flatMap cNd ++ (q.drop n).flatMap cNd := by rw [← List.flatMap_append, e]
      have h3 : ((q.take n).flatMap cNd).length = n * 3 := by rw [flat_len cNd_len, hlen]
      have h4 : ((q.take n).flatMap cNd ++ (q.drop n).flatMap cNd).take (n * 3) = (q.take n).flatMap cNd := by rw [← h3]; exact List.take_left
      rw [← e2] at h4; exact h4.symm
    refine ⟨by rw [flat_len cNd_len], .inr ⟨g, c, cur, by rw [hlen], hb, hg, by omega, hcm, hcs, ?_⟩⟩
    rw [hlen, hf, ← htake, List.take_take, hq]
    congr 1; omega
set_option maxHeartbeats 4000000 in
set_option maxRecDepth 100000 in
theorem pop_st (base B g n c : Nat) (m0 m1 m2 bu tv nv mp : Value) (q : List Nd) (w : World) (hB : Blk w B 48 (sC m0 m1 m2 bu tv nv mp (.slice (some ⟨g, 0, none⟩) (n + 1) c))) (hO : OwnR base w 51 3 cNd (.slice (some ⟨g, 0, none⟩) (n + 1) c) q) (hq : q.length = n + 1) (hn : n ≤ 100000) :
    Calls Try.prog 57 #[.pointer (some ⟨B, 6, none⟩)] w fun e w' => e = .returned (.iface 51 (.agg (cNd (at' q n)).toArray)) ∧ Blk w' B 48 (sC m0 m1 m2 bu tv nv mp (.slice (some ⟨g, 0, none⟩) n c)) ∧ OwnR base w' 51 3 cNd (.slice (some ⟨g, 0, none⟩) n c) (q.take n) ∧ w.grownBy w' (some B) := by
  have hcell := hB.cell 6
  have hfz := hB.frozen 6
  simp only [sC, List.getElem?_toArray, List.getElem?_cons_zero, List.getElem?_cons_succ] at hcell
  obtain ⟨A, c', hv, hnc, hcm, _, _⟩ := hO.shape
  obtain ⟨rfl, _, rfl⟩ := Value.slice.inj hv
  have hgB : g ≠ B := fun e => by
    rcases hO.2 with ⟨h', _⟩ | ⟨g', cap', cur, h', hb, hg, _⟩
    · simp at h'
    · simp only [Value.slice.injEq, Option.some.injEq, Addr.mk.injEq, and_true, true_and] at h'
      obtain ⟨rfl, _⟩ := h'
      unfold Blk at hB
      rw [e, hB] at hg
      simp at hg
  obtain ⟨p0, p1, p2⟩ := flat_at q n (by omega)
  have hO2 : w.ownsRow base 51 3 (.slice (some ⟨g, 0, none⟩) (n + 1) c) (n + 1) (q.flatMap cNd) := by unfold OwnR at hO; rwa [hq] at hO
  have c0 := (hO2.cellAt (n * 3) (by omega)).trans p0; have c1 := (hO2.cellAt (n * 3 + 1) (by omega)).trans p1; have c2 := (hO2.cellAt (n * 3 + 2) (by omega)).trans p2
  have HB := Lib.hid hB; have HO := Lib.hid hO; have HGB := Lib.hid hgB
  have hnc' : n + 1 ≤ c := by omega
  have HC := Lib.hid (And.intro hnc' hcm)
  clear hB hO hO2 hv hgB p0 p1 p2 hcm hnc hnc'
  have y1 : (0 : Int) ≤ (n : Int) := by omega
  have y2 : (n : Int) < ((n + 1 : Nat) : Int) := by omega
  have y3 : ((n + 1 : Nat) : Int) - 1 = (n : Int) := by omega
  have y5 : IntKind.i64.wrap (n : Int) = (n : Int) := IntWalk.i64_in _ (by omega)
  have y6 : (n : Int) ≤ (c : Int) := by have := HC.out; omega
  have y7 : ¬ (n + 1 = 0) := by omega
  obtain ⟨N, hN⟩ : ∃ N, N = n + 1 := ⟨_, rfl⟩
  rw [← hN] at hcell y2 y3 y7
  replace hN := Lib.hid hN
  go_enter Try.func57, Try.ntmps57
  go_upto_region 3 with fail
  have KB1 := Lib.hid (HB.out.alloc (.cells #[.int .i64 ((at' q n).t : Int), .int .i64 ((at' q n).g : Int), .int .i64 ((at' q n).h : Int)] 51))
  have KN1 := Lib.hid (Blk.new w 51 #[.int .i64 ((at' q n).t : Int), .int .i64 ((at' q n).g : Int), .int .i64 ((at' q n).h : Int)])
  have HE1 := Lib.hid (ext_alloc (Ext.rfl' w) (.cells #[.int .i64 ((at' q n).t : Int), .int .i64 ((at' q n).g : Int), .int .i64 ((at' q n).h : Int)] 51))
  have hBlt := HB.out.lt
  clear hcell hfz c0 c1 c2
  obtain ⟨w1, hw1⟩ : ∃ W, W = w.alloc (.cells #[.int .i64 ((at' q n).t : Int), .int .i64 ((at' q n).g : Int), .int .i64 ((at' q n).h : Int)] 51) := ⟨_, rfl⟩
  rw [← hw1] at KB1 KN1 HE1 ⊢
  clear hw1
  obtain ⟨b, hb⟩ : ∃ b, b = w.heap.size := ⟨_, rfl⟩
  rw [← hb] at KN1 hBlt ⊢
  have HBB := Lib.hid hb
  clear hb
  have hcell := KB1.out.cell 6
  have hfz := KB1.out.frozen 6
  simp only [sC, List.getElem?_toArray, List.getElem?_cons_zero, List.getElem?_cons_succ] at hcell
  rw [← hN.out] at hcell
  go_upto_region 4 with fail
  have KN2 := Lib.hid (KN1.out.far (p := ⟨B, 6, none⟩) (show b ≠ B by omega) (.slice (some ⟨g, 0, none⟩) n c))
  have KB2 := Lib.hid (KB1.out.set_ 6 (.slice (some ⟨g, 0, none⟩) n c))
  have HG2 : Hid (w1.grownBy (w1.setCell ⟨B, 6, none⟩ (.slice (some ⟨g, 0, none⟩) n c)) (some B)) := Lib.hid ⟨rfl, rfl, rfl, by simp [World.setCell], fun k _ hk => Below.heap_setCell w1 ⟨B, 6, none⟩ _ k (fun e => hk (by rw [e]))⟩
  obtain ⟨w2, hw2⟩ : ∃ W, W = w1.setCell ⟨B, 6, none⟩ (.slice (some ⟨g, 0, none⟩) n c) := ⟨_, rfl⟩
  rw [← hw2] at KN2 KB2 HG2 ⊢
  clear hw2 hcell hfz
  have n0 := KN2.out.cell 0; have n1 := KN2.out.cell 1; have n2 := KN2.out.cell 2
  simp only [List.getElem?_toArray, List.getElem?_cons_zero, List.getElem?_cons_succ] at n0 n1 n2
  go_wp2_with fail
  go_ret
  have hgw : w.grownBy w2 (some B) := gbt ⟨HE1.out.os, HE1.out.tape, HE1.out.output, HE1.out.size, fun k hk _ => HE1.out.block k hk⟩ HG2.out
  refine ⟨rfl, KB2.out, ?_, hgw⟩
  refine World.ownsRow.kept (own_cut HO.out hq) hgw (.inr fun e => ?_)
  exact HGB.out (Option.some.inj e)
end Go.Proofs.Ytmceaocknlnmpaa.Pth
