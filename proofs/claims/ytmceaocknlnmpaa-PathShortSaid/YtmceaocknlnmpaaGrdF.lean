/- Contracts of package grid: the tiles next to one. -/
import Derived.Test.YtmceaocknlnmpaaGrdE
import Derived.Deep.DeepCutAuto
namespace Go.Proofs.Ytmceaocknlnmpaa.Grid
open Go.ChangeShapes Go.WideShapes Go.ChangeAt Go.RowKit
set_option linter.unusedVariables false

def nums (zs : List Nat) : List Value := zs.map fun (z : Nat) => Value.int .i64 (z : Int)
theorem nums_app (xs ys : List Nat) : nums (xs ++ ys) = nums xs ++ nums ys := by simp [nums]
/-- A row of numbers of the call's own. -/
def Row (W w : World) (v : Value) (zs : List Nat) : Prop := w.ownsRow W.heap.size 3 1 v zs.length (nums zs)
theorem infoI : (Try.prog.info? 3).map (fun i => (i.zero, i.size, i.bytes)) = some (some (.int .i64 0), 1, 8) := by kernel_rfl
theorem src_num (w : World) (y : Nat) : Src Try.prog 1 22 (.slice (some ⟨w.heap.size, 0, none⟩) 1 1) [y].length (nums [y]) (w.alloc (.cells #[.int .i64 (y : Int)] 3)) :=
  Src.ofSlice (w.alloc (.cells #[.int .i64 (y : Int)] 3)) Try.underlying22 ⟨w.heap.size, 0, none⟩ [y].length 1 (nums [y]) rfl (fun j u hj => by
    match j, hj with
    | 0, hj => simp [nums] at hj; subst hj; simp [Addr.add]) (fun u hu => by simp [nums] at hu; subst hu; rfl)
theorem Row.ext {W w w' : World} {v : Value} {zs : List Nat} (h : Row W w v zs) (e : Ext w w') : Row W w' v zs := by
  rcases h with ⟨hl, hq | ⟨g, cap, cur, hv, hb, hg, hr⟩⟩
  · exact ⟨hl, .inl hq⟩
  · exact ⟨hl, .inr ⟨g, cap, cur, hv, hb, (e.block g (Array.getElem?_eq_some_iff.1 hg).1).trans hg, hr⟩⟩
theorem Row.nil (W w : World) : Row W w (.slice none 0 0) [] := World.ownsRow_nil _ _ _ _
def NxPost (w : World) (zs : List Nat) (e : Ending) (w' : World) : Prop := ∃ v, e = .returned v ∧ Row w w' v zs ∧ Ext w w'
def NxCut (w : World) (zs : List Nat) (v : Value) (w' : World) : Prop := Row w w' v zs ∧ Ext w w'
/-- What an append to a row of the call's own leaves as it was. -/
theorem row_block {W w1 : World} {v : Value} {zs : List Nat} (hr : Row W w1 v zs) : ∀ k, v.ownBlock = some k → W.heap.size ≤ k ∧ ∃ cs fr, w1.heap[k]? = some (Obj.cells cs 3 fr) := by
  intro k hk
  rcases hr.2 with ⟨rfl, _⟩ | ⟨g, cap, cur, rfl, hb, hg, _⟩
  · cases hk
  · obtain rfl := Option.some.inj hk
    exact ⟨hb, cur, _, hg⟩
theorem row_ext {W w1 w9 : World} {v : Value} {zs : List Nat} (hr : Row W w1 v zs) (h : Ext W w1) (g : w1.grownBy w9 v.ownBlock) : Ext W w9 := ext_grown h g (fun k hk => (row_block hr k hk).1)
theorem row_blk {W w1 w9 : World} {v : Value} {zs : List Nat} {b : Nat} {t : TypeId} {cs : Array Value} (hr : Row W w1 v zs) (K : Blk w1 b t cs) (ht : t ≠ 3) (g : w1.grownBy w9 v.ownBlock) : Blk w9 b t cs :=
  (g.block b K.lt (fun e => by
    obtain ⟨_, cs', fr, h2⟩ := row_block hr b e.symm
    unfold Blk at K
    rw [K] at h2
    exact ht (Obj.cells.inj (Option.some.inj h2)).2.1)).trans K
set_option maxHeartbeats 4000000 in
theorem next_no (W H : Nat) (x : Int) (T : ByteArray) (w : World) (hW : 4 ≤ W) (hs : T.size ≤ 5000) (hx : x < 0 ∨ (T.size : Int) ≤ x) : Calls Try.prog 14 #[.agg #[.int .i64 (W : Int), .int .i64 (H : Int), .string T], .int .i64 x] w fun e w' => e = .returned (.slice none 0 0) ∧ Ext w w' := by
  have HX := Lib.hid hx; clear hx
  go_enter Try.func14, Try.ntmps14
  go_wp2_with fail
  refine (on_no W H x T _ hW hs HX.out).mono ?_
  rintro e w1 ⟨rfl, b1⟩
  have HE := Lib.hid (ext_trans (ext_alloc (Ext.rfl' w) _) b1)
  clear b1
  go_wp2_with fail
  go_ret
  exact ⟨rfl, HE.out⟩
set_option maxHeartbeats 4000000 in
set_option maxRecDepth 100000 in
theorem next_yes (W H t : Nat) (T : ByteArray) (w : World) (hW : 4 ≤ W) (hW2 : W ≤ 64) (hH : 4 ≤ H) (hH2 : H ≤ 64) (hs : T.size ≤ 5000) (hx : t < T.size) :
    Calls Try.prog 14 #[.agg #[.int .i64 (W : Int), .int .i64 (H : Int), .string T], .int .i64 (t : Int)] w (NxPost w (nxt W H t)) := by
  have HXY := Lib.hid (fun W1 => xy_yes W H t T W1 hW hW2 hs hx)
  have h1 := Nat.mod_le t W; have h2 := Nat.div_le_self t W
  have hrow := row_pos (W := W) (t := t) (by omega)
  have hn : nxt W H t = (if 0 < t / W then [t - W] else []) ++ (if t % W + 1 < W then [t + 1] else []) ++ (if t / W + 1 < H then [t + W] else []) ++ (if 0 < t % W then [t - 1] else []) := rfl
  have hpos : 0 < t % W → 0 < t := fun h => by omega
  generalize t % W = x at *
  generalize t / W = y at *
  obtain ⟨L1, hL1⟩ : ∃ L1, L1 = (if 0 < y then [t - W] else []) := ⟨_, rfl⟩
  obtain ⟨L2, hL2⟩ : ∃ L2, L2 = L1 ++ (if x + 1 < W then [t + 1] else []) := ⟨_, rfl⟩
  obtain ⟨L3, hL3⟩ : ∃ L3, L3 = L2 ++ (if y + 1 < H then [t + W] else []) := ⟨_, rfl⟩
  obtain ⟨L4, hL4⟩ : ∃ L4, L4 = L3 ++ (if 0 < x then [t - 1] else []) := ⟨_, rfl⟩
  rw [← hL1, ← hL2, ← hL3, ← hL4] at hn
  rw [hn]
  have l1 : L1.length ≤ 1 := by rw [hL1]; split <;> simp
  have l2 : L2.length ≤ 2 := by rw [hL2, List.length_append]; split <;> simp <;> omega
  have l3 : L3.length ≤ 3 := by rw [hL3, List.length_append]; split <;> simp <;> omega
  have HL1 := Lib.hid hL1; have HL2 := Lib.hid hL2; have HL3 := Lib.hid hL3; have HL4 := Lib.hid hL4
  have HROW := Lib.hid hrow
  obtain ⟨i0, hi0, hz0, hz1, hz2⟩ := info_parts infoI
  have HI := Lib.hid (And.intro hi0 (And.intro hz0 (And.intro hz1 hz2))); clear hi0 hz0 hz1 hz2
  have HPOS := Lib.hid hpos
  clear hn hL1 hL2 hL3 hL4 hrow hpos
  go_enter Try.func14, Try.ntmps14
  go_wp2_with fail
  refine (on_yes W H t T _ hW hs hx).mono ?_
  rintro e w1 ⟨rfl, b1⟩
  have K1 := Lib.hid ((Blk.new w 25 #[.int .i64 (W : Int), .int .i64 (H : Int), .string T]).ext b1)
  obtain ⟨c0, c1, c2⟩ := map_cells K1.out
  have HE1 := Lib.hid (ext_trans (ext_alloc (Ext.rfl' w) _) b1)
  clear b1
  go_wp2_with fail
  refine (HXY.out _).mono ?_
  rintro e w2 ⟨rfl, b2⟩
  have K2 := Lib.hid (K1.out.ext b2)
  clear c0 c1 c2
  obtain ⟨c0, c1, c2⟩ := map_cells K2.out
  have HE2 := Lib.hid (ext_trans HE1.out b2)
  clear b2
  have HR2 := Lib.hid (Row.nil w w2)
  go_upto_if 19 with fail
  go_cut [7] (fun v wx => Row w wx v L1 ∧ Ext w wx ∧ Blk wx w.heap.size 25 #[.int .i64 (W : Int), .int .i64 (H : Int), .string T])
  case first =>
    by_cases hc : 0 < y
    · obtain ⟨q, hq⟩ : ∃ q, q = t - W := ⟨_, rfl⟩
      have hqq : q ≤ 10000 := by omega
      have hWt : W ≤ t := HROW.out.1 hc
      have hqe : (t : Int) - (W : Int) = (q : Int) := by omega
      have HLQ : Hid (L1 = ([] : List Nat) ++ [q]) := Lib.hid (by rw [HL1.out, hq, if_pos hc, List.nil_append])
      have HSR := Lib.hid (src_num w2 q)
      have HG := Lib.hid (ext_alloc (Ext.rfl' w2) (.cells #[.int .i64 (q : Int)] 3))
      have HR := Lib.hid (HR2.out.ext HG.out)
      have HX := Lib.hid (ext_trans HE2.out HG.out)
      have HK := Lib.hid (K2.out.ext HG.out)
      clear hq
      go_wp2_with (at_builtin; refine wpList_app_own rfl (.tmp 20) (.tmp 25) 22 22 rfl 3 i0 (.int .i64 0) 1 8 Try.underlying22 HI.out.1 HI.out.2.1 HI.out.2.2.1 HI.out.2.2.2 rfl w.heap.size _ _ ([] : List Nat).length (nums ([] : List Nat)) rfl rfl HR.out [q].length (nums [q]) HSR.out (by unfold maxLen; simp; try omega) (by simp; try omega) HX.out.size ?_; intro v9 w9 hown9 hgr9; have HR9 : Hid (Row w w9 v9 L1) := Lib.hid (by rw [HLQ.out]; unfold Row; rw [List.length_append, nums_app]; exact hown9); have HE9 := Lib.hid (row_ext HR.out HX.out hgr9); have HK9 := Lib.hid (row_blk HR.out HK.out (by decide) hgr9); clear hown9 hgr9)
      go_meet
      exact ⟨HR9.out, HE9.out, HK9.out⟩
    · have HLQ : Hid (L1 = ([] : List Nat)) := Lib.hid (by rw [HL1.out, if_neg hc])
      go_wp2_with fail
      go_meet
      exact ⟨by rw [HLQ.out]; exact HR2.out, HE2.out, K2.out⟩
  case rest =>
  obtain ⟨hr, he, hk⟩ := hcut
  clear c0 c1 c2
  obtain ⟨w3, hw3⟩ : ∃ W9, W9 = wc := ⟨_, rfl⟩
  rw [← hw3] at hr he hk ⊢
  clear hw3
  have HR3 := Lib.hid hr
  have HE3 := Lib.hid he
  have K3 := Lib.hid hk
  obtain ⟨c0, c1, c2⟩ := map_cells hk
  clear hr he hk
  go_upto_if 31 with fail
  go_cut [7] (fun v wx => Row w wx v L2 ∧ Ext w wx ∧ Blk wx w.heap.size 25 #[.int .i64 (W : Int), .int .i64 (H : Int), .string T])
  case first =>
    by_cases hc : x + 1 < W
    · obtain ⟨q, hq⟩ : ∃ q, q = t + 1 := ⟨_, rfl⟩
      have hqq : q ≤ 10000 := by omega
      have hqe : (t : Int) + 1 = (q : Int) := by omega
      have hcy : (x : Int) < (W : Int) - 1 := by omega
      have HLQ : Hid (L2 = L1 ++ [q]) := Lib.hid (by rw [HL2.out, hq, if_pos hc])
      have HSR := Lib.hid (src_num w3 q)
      have HG := Lib.hid (ext_alloc (Ext.rfl' w3) (.cells #[.int .i64 (q : Int)] 3))
      have HR := Lib.hid (HR3.out.ext HG.out)
      have HX := Lib.hid (ext_trans HE3.out HG.out)
      have HK := Lib.hid (K3.out.ext HG.out)
      clear hq
      go_wp2_with (at_builtin; refine wpList_app_own rfl (.tmp 32) (.tmp 35) 22 22 rfl 3 i0 (.int .i64 0) 1 8 Try.underlying22 HI.out.1 HI.out.2.1 HI.out.2.2.1 HI.out.2.2.2 rfl w.heap.size _ _ L1.length (nums L1) rfl rfl HR.out [q].length (nums [q]) HSR.out (by unfold maxLen; simp; try omega) (by simp; try omega) HX.out.size ?_; intro v9 w9 hown9 hgr9; have HR9 : Hid (Row w w9 v9 L2) := Lib.hid (by rw [HLQ.out]; unfold Row; rw [List.length_append, nums_app]; exact hown9); have HE9 := Lib.hid (row_ext HR.out HX.out hgr9); have HK9 := Lib.hid (row_blk HR.out HK.out (by decide) hgr9); clear hown9 hgr9)
      go_meet
      exact ⟨HR9.out, HE9.out, HK9.out⟩
    · have HLQ : Hid (L2 = L1) := Lib.hid (by rw [HL2.out, if_neg hc, List.append_nil])
      have hcn : ¬ (x : Int) < (W : Int) - 1 := by omega
      go_wp2_with fail
      go_meet
      exact ⟨by rw [HLQ.out]; exact HR3.out, HE3.out, K3.out⟩
  case rest =>
  obtain ⟨hr, he, hk⟩ := hcut
  clear c0 c1 c2
  obtain ⟨w4, hw4⟩ : ∃ W9, W9 = wc := ⟨_, rfl⟩
  rw [← hw4] at hr he hk ⊢
  clear hw4
  have HR4 := Lib.hid hr
  have HE4 := Lib.hid he
  have K4 := Lib.hid hk
  obtain ⟨c0, c1, c2⟩ := map_cells hk
  clear hr he hk
  go_upto_if 41 with fail
  go_cut [7] (fun v wx => Row w wx v L3 ∧ Ext w wx ∧ Blk wx w.heap.size 25 #[.int .i64 (W : Int), .int .i64 (H : Int), .string T])
  case first =>
    by_cases hc : y + 1 < H
    · obtain ⟨q, hq⟩ : ∃ q, q = t + W := ⟨_, rfl⟩
      have hqq : q ≤ 10000 := by omega
      have hqe : (t : Int) + (W : Int) = (q : Int) := by omega
      have hcy : (y : Int) < (H : Int) - 1 := by omega
      have HLQ : Hid (L3 = L2 ++ [q]) := Lib.hid (by rw [HL3.out, hq, if_pos hc])
      have HSR := Lib.hid (src_num w4 q)
      have HG := Lib.hid (ext_alloc (Ext.rfl' w4) (.cells #[.int .i64 (q : Int)] 3))
      have HR := Lib.hid (HR4.out.ext HG.out)
      have HX := Lib.hid (ext_trans HE4.out HG.out)
      have HK := Lib.hid (K4.out.ext HG.out)
      clear hq
      go_wp2_with (at_builtin; refine wpList_app_own rfl (.tmp 42) (.tmp 47) 22 22 rfl 3 i0 (.int .i64 0) 1 8 Try.underlying22 HI.out.1 HI.out.2.1 HI.out.2.2.1 HI.out.2.2.2 rfl w.heap.size _ _ L2.length (nums L2) rfl rfl HR.out [q].length (nums [q]) HSR.out (by unfold maxLen; simp; try omega) (by simp; try omega) HX.out.size ?_; intro v9 w9 hown9 hgr9; have HR9 : Hid (Row w w9 v9 L3) := Lib.hid (by rw [HLQ.out]; unfold Row; rw [List.length_append, nums_app]; exact hown9); have HE9 := Lib.hid (row_ext HR.out HX.out hgr9); have HK9 := Lib.hid (row_blk HR.out HK.out (by decide) hgr9); clear hown9 hgr9)
      go_meet
      exact ⟨HR9.out, HE9.out, HK9.out⟩
    · have HLQ : Hid (L3 = L2) := Lib.hid (by rw [HL3.out, if_neg hc, List.append_nil])
      have hcn : ¬ (y : Int) < (H : Int) - 1 := by omega
      go_wp2_with fail
      go_meet
      exact ⟨by rw [HLQ.out]; exact HR4.out, HE4.out, K4.out⟩
  case rest =>
  obtain ⟨hr, he, hk⟩ := hcut
  clear c0 c1 c2
  obtain ⟨w5, hw5⟩ : ∃ W9, W9 = wc := ⟨_, rfl⟩
  rw [← hw5] at hr he hk ⊢
  clear hw5
  have HR5 := Lib.hid hr
  have HE5 := Lib.hid he
  have K5 := Lib.hid hk
  obtain ⟨c0, c1, c2⟩ := map_cells hk
  clear hr he hk
  go_upto_if 50 with fail
  go_cut [7] (fun v wx => Row w wx v L4 ∧ Ext w wx ∧ Blk wx w.heap.size 25 #[.int .i64 (W : Int), .int .i64 (H : Int), .string T])
  case first =>
    by_cases hc : 0 < x
    · obtain ⟨q, hq⟩ : ∃ q, q = t - 1 := ⟨_, rfl⟩
      have hqq : q ≤ 10000 := by omega
      have ht0 : 0 < t := HPOS.out hc
      have hqe : (t : Int) - 1 = (q : Int) := by omega
      have HLQ : Hid (L4 = L3 ++ [q]) := Lib.hid (by rw [HL4.out, hq, if_pos hc])
      have HSR := Lib.hid (src_num w5 q)
      have HG := Lib.hid (ext_alloc (Ext.rfl' w5) (.cells #[.int .i64 (q : Int)] 3))
      have HR := Lib.hid (HR5.out.ext HG.out)
      have HX := Lib.hid (ext_trans HE5.out HG.out)
      have HK := Lib.hid (K5.out.ext HG.out)
      clear hq
      go_wp2_with (at_builtin; refine wpList_app_own rfl (.tmp 51) (.tmp 54) 22 22 rfl 3 i0 (.int .i64 0) 1 8 Try.underlying22 HI.out.1 HI.out.2.1 HI.out.2.2.1 HI.out.2.2.2 rfl w.heap.size _ _ L3.length (nums L3) rfl rfl HR.out [q].length (nums [q]) HSR.out (by unfold maxLen; simp; try omega) (by simp; try omega) HX.out.size ?_; intro v9 w9 hown9 hgr9; have HR9 : Hid (Row w w9 v9 L4) := Lib.hid (by rw [HLQ.out]; unfold Row; rw [List.length_append, nums_app]; exact hown9); have HE9 := Lib.hid (row_ext HR.out HX.out hgr9); have HK9 := Lib.hid (row_blk HR.out HK.out (by decide) hgr9); clear hown9 hgr9)
      go_meet
      exact ⟨HR9.out, HE9.out, HK9.out⟩
    · have HLQ : Hid (L4 = L3) := Lib.hid (by rw [HL4.out, if_neg hc, List.append_nil])
      go_wp2_with fail
      go_meet
      exact ⟨by rw [HLQ.out]; exact HR5.out, HE5.out, K5.out⟩
  case rest =>
  obtain ⟨hr, he, hk⟩ := hcut
  clear c0 c1 c2
  obtain ⟨w6, hw6⟩ : ∃ W9, W9 = wc := ⟨_, rfl⟩
  rw [← hw6] at hr he hk ⊢
  clear hw6
  have HR6 := Lib.hid hr
  have HE6 := Lib.hid he
  have K6 := Lib.hid hk
  obtain ⟨c0, c1, c2⟩ := map_cells hk
  clear hr he hk
  go_wp2_with fail
  go_ret
  exact ⟨_, rfl, HR6.out, HE6.out⟩
end Go.Proofs.Ytmceaocknlnmpaa.Grid
