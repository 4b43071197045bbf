/- Tracks: a bookmark put between others. -/
import Derived.Test.YtlldmpcamdginaaT4
import Derived.Deep.RegionLaw
import Derived.Lib.Overlaps
import Derived.Lib.AppendZerosOnto
import Derived.Laws.CopyOwn
namespace Go.Proofs.Ytlldmpcamdginaa.Trk
open Go.ChangeShapes Go.WideShapes Go.ChangeAt Go.RowKit
open Go.Proofs.Ytlldmpcamdginaa.Rec
set_option linter.unusedVariables false
section
variable {P : Program}
/-- copy, records of k cells. -/
theorem run_copy_rec (w : World) (dT sT ty elem : TypeId) (k g o dLen dCap : Nat) (a : Addr) (sLen sCap n : Nat) (cur : Array Value) (t : TypeId) (cs : List Value)
    (hu : P.underlying dT = some (.slice elem)) (hs : (P.info? elem).map (·.size) = some k)
    (hg : w.heap[g]? = some (.cells cur t (0, 0))) (hn : n = Nat.min sLen dLen) (hcl : cs.length = n * k)
    (hsrc : ∀ j v, cs[j]? = some v → w.cell? (a.add j) = some v) (hfit : o + cs.length ≤ cur.size) (h1 : ∀ v ∈ cs, v.oneCell' = true) :
    (Builtin.copy_ #[dT, sT] ty #[.slice (some ⟨g, o, none⟩) dLen dCap, .slice (some a) sLen sCap]).run P w =
      .ok (goInt n) (w.setRow g (cur.toList.take o ++ cs ++ cur.toList.drop (o + cs.length)).toArray) := by
  have hl := run_loadCells_list (P := P) w a cs hsrc
  have hst := run_storeCells_at P g o t cs 0 cur w hg (by simpa using hfit) h1
  rw [hcl] at hl
  cases hq : P.info? elem with
  | none => simp [hq] at hs
  | some i =>
    have hi : i.size = k := by simpa [hq] using hs
    simp [Builtin.copy_, run_underlying hu, Builtin.lenOf, Builtin.firstCells, sizeOf, typeInfo, hq, hi, ← hn, hl, hst]
theorem wpList_copy_run {w : World} {ops : Array Oper} {rest : List Oper} {o : Oper} {a : Act} {Q : Exit → Act → World → Prop} (hgd : o.guard = none) (d s : Operand) (dT sT : TypeId)
    (ho : o.op = .call { callee := .builtin .copy, args := #[d, s], argTypes := #[dT, sT] }) (vd vs v : Value) (w' : World) (hd : a.eval d = vd) (hs : a.eval s = vs) (hrun : (Builtin.copy_ #[dT, sT] o.type #[vd, vs]).run P w = .ok v w')
    (h : wpList P ops Q rest (a.put o.dst v) w') : wpList P ops Q (o :: rest) a w := by
  refine wpList_plain hgd fun K hK => ?_
  unfold Oper.wp
  simp [execOp, ho, resolve, invoke, builtin, hd, hs, hrun, Result.andThen]
  exact hK _ _ h
theorem step_copy_run {ops : Array Oper} {o : Oper} {a : Act} {w : World} {K : Act → World → Prop} {Q : Exit → Act → World → Prop} {E : Prop} (hgd : o.guard = none) (d s : Operand) (dT sT : TypeId)
    (ho : o.op = .call { callee := .builtin .copy, args := #[d, s], argTypes := #[dT, sT] }) (vd vs v : Value) (w' : World) (hd : a.eval d = vd) (hs : a.eval s = vs) (hrun : (Builtin.copy_ #[dT, sT] o.type #[vd, vs]).run P w = .ok v w')
    (h : K (a.put o.dst v) w') :
    if Region.wanted o (yielded ops a.tmps) = true then Oper.wp P o a w K Q else E := by
  have hw : Region.wanted o (yielded ops a.tmps) = true := by simp [Region.wanted, hgd]
  rw [if_pos hw]
  unfold Oper.wp
  simp [execOp, ho, resolve, invoke, builtin, hd, hs, hrun, Result.andThen]
  exact h
theorem wpList_append_run {w : World} {ops : Array Oper} {rest : List Oper} {o : Oper} {a : Act} {Q : Exit → Act → World → Prop} (hgd : o.guard = none) (d s : Operand) (dT sT : TypeId)
    (ho : o.op = .call { callee := .builtin .append, args := #[d, s], argTypes := #[dT, sT] }) (vd vs v : Value) (w' : World) (hd : a.eval d = vd) (hs : a.eval s = vs) (hrun : (Builtin.append_ #[dT, sT] o.type #[vd, vs]).run P w = .ok v w')
    (h : wpList P ops Q rest (a.put o.dst v) w') : wpList P ops Q (o :: rest) a w := by
  refine wpList_plain hgd fun K hK => ?_
  unfold Oper.wp
  simp [execOp, ho, resolve, invoke, builtin, hd, hs, hrun, Result.andThen]
  exact hK _ _ h
theorem step_append_run {ops : Array Oper} {o : Oper} {a : Act} {w : World} {K : Act → World → Prop} {Q : Exit → Act → World → Prop} {E : Prop} (hgd : o.guard = none) (d s : Operand) (dT sT : TypeId)
    (ho : o.op = .call { callee := .builtin .append, args := #[d, s], argTypes := #[dT, sT] }) (vd vs v : Value) (w' : World) (hd : a.eval d = vd) (hs : a.eval s = vs) (hrun : (Builtin.append_ #[dT, sT] o.type #[vd, vs]).run P w = .ok v w')
    (h : K (a.put o.dst v) w') :
    if Region.wanted o (yielded ops a.tmps) = true then Oper.wp P o a w K Q else E := by
  have hw : Region.wanted o (yielded ops a.tmps) = true := by simp [Region.wanted, hgd]
  rw [if_pos hw]
  unfold Oper.wp
  simp [execOp, ho, resolve, invoke, builtin, hd, hs, hrun, Result.andThen]
  exact h
end
section
variable {α : Type}
theorem shift_list (L X1 X2 Y R : List α) (k : Nat) (hL : L = X1 ++ X2 ++ R) (hY : Y.length = k) (hR : k ≤ R.length) :
    (L.take (X1.length + k) ++ X2 ++ L.drop (X1.length + k + X2.length)).take X1.length ++ Y ++ (L.take (X1.length + k) ++ X2 ++ L.drop (X1.length + k + X2.length)).drop (X1.length + Y.length) = X1 ++ Y ++ X2 ++ R.drop k := by
  have hlen : (L.take (X1.length + k)).length = X1.length + k := by rw [List.length_take, hL]; simp; omega
  have e1 : (L.take (X1.length + k) ++ X2 ++ L.drop (X1.length + k + X2.length)).take X1.length = X1 := by
    rw [List.append_assoc, List.take_append_of_le_length (by omega), List.take_take, hL, Nat.min_eq_left (by omega), List.append_assoc, List.take_left]
  have e2 : (L.take (X1.length + k) ++ X2 ++ L.drop (X1.length + k + X2.length)).drop (X1.length + Y.length) = X2 ++ L.drop (X1.length + k + X2.length) := by
    rw [List.append_assoc, hY]
    exact List.drop_left' hlen
  have e3 : L.drop (X1.length + k + X2.length) = R.drop k := by
    rw [hL, show X1.length + k + X2.length = (X1 ++ X2).length + k by simp; omega, ← List.drop_drop, List.drop_left]
  rw [e1, e2, e3]
  simp
theorem fill_list (L X1 X2 Y Z : List α) (hL : L = X1 ++ Z) (hZ : Y.length + X2.length ≤ Z.length) :
    (L.take X1.length ++ Y ++ L.drop (X1.length + Y.length)).take (X1.length + Y.length) ++ X2 ++ (L.take X1.length ++ Y ++ L.drop (X1.length + Y.length)).drop (X1.length + Y.length + X2.length) = X1 ++ Y ++ X2 ++ Z.drop (Y.length + X2.length) := by
  subst hL
  have e1 : (X1 ++ Z).take X1.length = X1 := List.take_left
  have e2 : (X1 ++ Z).drop (X1.length + Y.length) = Z.drop Y.length := by rw [← List.drop_drop, List.drop_left]
  rw [e1, e2]
  have e3 : (X1 ++ Y ++ Z.drop Y.length).take (X1.length + Y.length) = X1 ++ Y := by rw [← List.length_append, List.take_left]
  have e4 : (X1 ++ Y ++ Z.drop Y.length).drop (X1.length + Y.length + X2.length) = Z.drop (Y.length + X2.length) := by
    rw [← List.length_append, ← List.drop_drop, List.drop_left, List.drop_drop]
  rw [e3, e4]
end
/-- A row of one's own, its block laid open. -/
theorem own_set {base : Nat} {w : World} {e : TypeId} {k : Nat} {α : Type} {f : α → List Value} {xs : List α} {g c : Nat} {cur : Array Value} (hf : ∀ x, (f x).length = k) (hg : w.heap[g]? = some (.cells cur e (0, 0))) (hb : base ≤ g) (hn : xs.length ≤ c) (hc : c ≤ maxLen) (hs : cur.size = c * k) (ht : cur.toList.take (xs.length * k) = xs.flatMap f) : OwnR base w e k f (.slice (some ⟨g, 0, none⟩) xs.length c) xs :=
  ⟨flat_len hf xs, .inr ⟨g, c, cur, rfl, hb, hg, hn, hc, hs, ht⟩⟩
theorem gb_setRow (w : World) (g : Nat) (cs : Array Value) : w.grownBy (w.setRow g cs) (some g) := ⟨rfl, rfl, rfl, by simp [World.setRow], fun k _ hk => setRow_other w g k cs (fun e => hk (by rw [e]))⟩
theorem cM_one (y : Mk) : ∀ v ∈ cM y, v.oneCell' = true := by intro u hu; simp [cM] at hu; rcases hu with rfl | rfl <;> rfl
theorem flatM_one (xs : List Mk) : ∀ v ∈ xs.flatMap cM, v.oneCell' = true := fun v hv => by
  obtain ⟨y, _, h⟩ := List.mem_flatMap.1 hv
  exact cM_one y v h
theorem shape_cells {w : World} {g : Nat} {t : TypeId} {cs : Array Value} {fr : Nat × Nat} (h : w.heap[g]? = some (.cells cs t fr)) : w.shape? g = some (t, cs.size) := by simp [World.shape?, h]
theorem shape_blk {w : World} {g : Nat} {t : TypeId} {cs : Array Value} (h : Blk w g t cs) : w.shape? g = some (t, cs.size) := shape_cells h
theorem sizeMk : (Try.prog.info? 68).map (·.size) = some 2 := by kernel_rfl
theorem flat_take (xs : List Mk) (i : Nat) : xs.flatMap cM = (xs.take i).flatMap cM ++ (xs.drop i).flatMap cM := by rw [← List.flatMap_append, List.take_append_drop]
set_option maxHeartbeats 4000000 in
set_option maxRecDepth 100000 in
theorem insert_mid (base g n c i : Nat) (xs : List Mk) (y : Mk) (vb c1 : Nat) (w : World) (hO : OwnR base w 68 2 cM (.slice (some ⟨g, 0, none⟩) n c) xs) (hbase : base ≤ w.heap.size) (hV : Blk w vb 68 (cM y).toArray) (hne : vb ≠ g) (hn : n ≤ 1000000) (hl : xs.length = n) (hi : i < n) :
    Calls Try.prog 55 #[.slice (some ⟨g, 0, none⟩) n c, .int .i64 (i : Int), .slice (some ⟨vb, 0, none⟩) 1 c1] w (InPost base (.slice (some ⟨g, 0, none⟩) n c) (xs.take i ++ y :: xs.drop i) w) := by
  obtain ⟨cur, hbg, hgg, hnc, hcm, hcs, htake⟩ : ∃ cur, base ≤ g ∧ w.heap[g]? = some (.cells cur 68 (0, 0)) ∧ n ≤ c ∧ c ≤ 9223372036854775807 ∧ cur.size = c * 2 ∧ cur.toList.take (n * 2) = xs.flatMap cM := by
    rcases hO.2 with ⟨h, _⟩ | ⟨g', cap, cur, h1, h2, h3, h4, h5, h6, h7⟩
    · cases h
    · obtain ⟨e1, e2, e3⟩ := Value.slice.inj h1
      cases e1
      subst e3
      rw [hl] at h4 h7
      exact ⟨cur, h2, h3, h4, by unfold maxLen at h5; exact h5, h6, h7⟩
  have HGG := Lib.hid hgg; have HCS := Lib.hid hcs; have HTK := Lib.hid htake; have HBG := Lib.hid hbg; have HV := Lib.hid hV; have HL := Lib.hid hl; have HBS := Lib.hid hbase
  have HLT := Lib.hid (show g < w.heap.size from (Array.getElem?_eq_some_iff.1 hgg).1)
  clear hO hgg hcs htake hbg hV hl hbase
  have y1 : (0 : Int) ≤ (i : Int) := by omega
  have y2 : (i : Int) ≤ (n : Int) := by omega
  have y3 : ¬ (i : Int) = (n : Int) := by omega
  have y4 : (n : Int) ≤ (c : Int) := by omega
  have y5 : ¬ i = n := by omega
  by_cases hroom : n + 1 ≤ c
  · have r1 : ¬ (c : Int) < (n : Int) + 1 := by omega
    have hov : ∀ a lb cb, (callFunc 82 #[.slice (some ⟨vb, 0, none⟩) 1 c1, .slice (some ⟨g, a, none⟩) lb cb]).run Try.prog w = .ok (.value (.bool false)) w := fun a lb cb => by
      rw [run_callFunc_extern Try.func82 (by kernel_rfl) (by kernel_rfl) (by kernel_rfl) (e := Extern.SlicesOverlaps.overlaps #[52, 52] #[4]) (by kernel_rfl),
        Lib.run_overlaps_apart w 52 4 68 Try.underlying52 2 (fun w => by kernel_rfl) ⟨vb, 0, none⟩ ⟨g, a, none⟩ 1 c1 lb cb hne _ _ _ _ (shape_blk HV.out) (shape_cells HGG.out) (by rw [HCS.out]; omega) (HV.out.frozen 0) (HV.out.frozen _)]
      rfl
    go_enter Try.func55, Try.ntmps55
    go_upto_region 15 with fail
    have hX1 : ((xs.take i).flatMap cM).length = i * 2 := by rw [flat_len cM_len, List.length_take, HL.out]; congr 1; omega
    have hX2 : ((xs.drop i).flatMap cM).length = (n - i) * 2 := by rw [flat_len cM_len, List.length_drop, HL.out]
    have hcur : cur.toList = (xs.take i).flatMap cM ++ (xs.drop i).flatMap cM ++ cur.toList.drop (n * 2) := by
      rw [← flat_take, ← HTK.out, List.take_append_drop]
    have hR : (cur.toList.drop (n * 2)).length = (c - n) * 2 := by rw [List.length_drop, Array.length_toList, HCS.out]; omega
    obtain ⟨X1, e1⟩ : ∃ q, q = (xs.take i).flatMap cM := ⟨_, rfl⟩
    obtain ⟨X2, e2⟩ : ∃ q, q = (xs.drop i).flatMap cM := ⟨_, rfl⟩
    obtain ⟨R, e3⟩ : ∃ q, q = cur.toList.drop (n * 2) := ⟨_, rfl⟩
    rw [← e1] at hX1
    rw [← e2] at hX2
    rw [← e3] at hR
    rw [← e1, ← e2, ← e3] at hcur
    obtain ⟨cur1, hc1⟩ : ∃ q, q = (cur.toList.take ((i + 1) * 2) ++ X2 ++ cur.toList.drop ((i + 1) * 2 + X2.length)).toArray := ⟨_, rfl⟩
    have hc1s : cur1.size = c * 2 := by
      rw [hc1]; simp only [List.size_toArray, List.length_append, List.length_take, List.length_drop, Array.length_toList, HCS.out, hX2]; omega
    have h1X : ∀ v ∈ X2, v.oneCell' = true := by rw [e2]; exact flatM_one _
    have HRUN1 := Lib.hid (fun (ty o o2 dl sl dc sc : Nat) (q1 : o = (i + 1) * 2) (q2 : o2 = i * 2) (q3 : dl = n - i) (q4 : sl = n + 1 - i) =>
      (show (Builtin.copy_ #[52, 52] ty #[.slice (some ⟨g, o, none⟩) dl dc, .slice (some ⟨g, o2, none⟩) sl sc]).run Try.prog w.drew = .ok (goInt ((n - i : Nat) : Int)) (w.drew.setRow g cur1) by
        subst q1 q2 q3 q4
        rw [hc1]
        refine run_copy_rec (P := Try.prog) w.drew _ _ ty 68 2 g ((i + 1) * 2) (n - i) dc ⟨g, i * 2, none⟩ (n + 1 - i) sc (n - i) cur 68 X2 Try.underlying52 sizeMk HGG.out (by simp only [Nat.min_def]; split <;> omega) hX2 (fun j v hj => ?_) (by rw [hX2, HCS.out]; omega) h1X
        have hlt : j < X2.length := (List.getElem?_eq_some_iff.1 hj).1
        rw [Addr.add_lit, World.cell?_drew, cell_of_row w g _ cur _ _ HGG.out, ← Array.getElem?_toList, hcur, List.append_assoc, List.getElem?_append_right (by omega), show i * 2 + j - X1.length = j by omega, List.getElem?_append_left hlt]
        exact hj))
    obtain ⟨w1, hw1⟩ : ∃ q, q = w.drew.setRow g cur1 := ⟨_, rfl⟩
    rw [← hw1] at HRUN1
    have hg1 : w1.heap[g]? = some (.cells cur1 68 (0, 0)) := by rw [hw1]; exact setRow_heap _ g cur cur1 _ _ HGG.out
    have hV1 : Blk w1 vb 68 (cM y).toArray := by rw [hw1]; exact (setRow_other _ g vb _ hne).trans HV.out
    obtain ⟨cur2, hc2⟩ : ∃ q, q = (cur1.toList.take (i * 2) ++ cM y ++ cur1.toList.drop (i * 2 + (cM y).length)).toArray := ⟨_, rfl⟩
    have HRUN2 := Lib.hid (fun (ty o dl dc sc : Nat) (q1 : o = i * 2) (q3 : dl = n + 1 - i) =>
      (show (Builtin.copy_ #[52, 52] ty #[.slice (some ⟨g, o, none⟩) dl dc, .slice (some ⟨vb, 0, none⟩) 1 sc]).run Try.prog w1 = .ok (goInt ((1 : Nat) : Int)) (w1.setRow g cur2) by
        subst q1 q3
        rw [hc2]
        refine run_copy_rec (P := Try.prog) w1 _ _ ty 68 2 g (i * 2) (n + 1 - i) dc ⟨vb, 0, none⟩ 1 sc 1 cur1 68 (cM y) Try.underlying52 sizeMk hg1 (by simp only [Nat.min_def]; split <;> omega) (cM_len y) (fun j v hj => ?_) (by rw [cM_len, hc1s]; omega) (cM_one y)
        rw [Addr.add_lit, hV1.cell, Nat.zero_add, List.getElem?_toArray]
        exact hj))
    have HFIN : Hid (InPost base (.slice (some ⟨g, 0, none⟩) n c) (xs.take i ++ y :: xs.drop i) w (.returned (.slice (some ⟨g, 0, none⟩) (n + 1) c)) (w1.setRow g cur2)) := Lib.hid (by
      rw [show xs.take i ++ y :: xs.drop i = xs.take i ++ [y] ++ xs.drop i by simp]
      have hlen : (xs.take i ++ [y] ++ xs.drop i).length = n + 1 := by
        have := HL.out
        simp only [List.length_append, List.length_take, List.length_drop, List.length_singleton]; omega
      refine ⟨_, rfl, ?_, ?_⟩
      · have hls : cur2.toList = X1 ++ cM y ++ X2 ++ R.drop 2 := by
          rw [hc2, hc1]
          have := shift_list cur.toList X1 X2 (cM y) R 2 hcur (cM_len y) (by omega)
          rw [hX1, show i * 2 + 2 = (i + 1) * 2 by omega] at this
          exact this
        rw [← hlen]
        refine own_set cM_len (setRow_heap _ g cur1 cur2 _ _ hg1) HBG.out (by rw [hlen]; exact hroom) (by unfold maxLen; omega) ?_ ?_
        · rw [← Array.length_toList, hls]
          simp only [List.length_append, List.length_drop, hX1, hX2, hR, cM_len]
          omega
        · rw [hlen, hls, List.flatMap_append, List.flatMap_append, ← e1, ← e2]
          have : (X1 ++ cM y ++ X2).length = (n + 1) * 2 := by simp only [List.length_append, hX1, hX2, cM_len]; omega
          rw [← this, List.take_left]
          simp
      · have k1 := gb_setRow w.drew g cur1
        rw [← hw1] at k1
        have k2 := gb_setRow w1 g cur2
        exact ⟨k2.os.trans k1.os, k2.tape.trans k1.tape, k2.output.trans k1.output, Nat.le_trans k1.size k2.size, fun k h1 h2 => (k2.block k (Nat.lt_of_lt_of_le h1 k1.size) h2).trans (k1.block k h1 h2)⟩)
    obtain ⟨w2, hw2⟩ : ∃ q, q = w1.setRow g cur2 := ⟨_, rfl⟩
    rw [← hw2] at HRUN2 HFIN
    clear hw1 hw2 hc1 hc2 hcur hX1 hX2 hR e1 e2 e3 hg1 hV1 h1X hc1s hov
    have u1 : ¬ c = i := by omega
    have u2 : ¬ c = i + 1 := by omega
    have u3 : (i : Int) + 1 ≤ (n : Int) + 1 := by omega
    have u4 : IntKind.i64.wrap ((i : Int) + 1) = (i : Int) + 1 := IntWalk.i64_in _ (by omega)
    have u5 : ((i : Int) + 1).toNat = i + 1 := by omega
    have u6 : (0 : Int) ≤ (i : Int) + 1 := by omega
    have u7 : (i : Int) ≤ (n : Int) + 1 := by omega
    go_region_law (refine step_copy_run rfl (.tmp 73) (.tmp 76) 52 52 rfl (.slice (some ⟨g, (i + 1) * 2, none⟩) (n - i) (c - (i + 1))) (.slice (some ⟨g, i * 2, none⟩) (n + 1 - i) (c - i)) (goInt ((n - i : Nat) : Int)) w1 (by kernel_rfl) (by kernel_rfl) (HRUN1.out 3 ((i + 1) * 2) (i * 2) (n - i) (n + 1 - i) (c - (i + 1)) (c - i) rfl rfl rfl rfl) ?_)
    go_wp2_with (refine wpList_copy_run rfl (.tmp 80) (.tmp 81) 52 52 rfl (.slice (some ⟨g, i * 2, none⟩) (n + 1 - i) (c - i)) (.slice (some ⟨vb, 0, none⟩) 1 c1) (goInt ((1 : Nat) : Int)) w2 (by kernel_rfl) (by kernel_rfl) (HRUN2.out _ _ _ _ _ rfl rfl) ?_)
    go_ret
    exact HFIN.out
  · obtain rfl : n = c := by omega
    have r1 : (n : Int) < (n : Int) + 1 := by omega
    have hX1 : ((xs.take i).flatMap cM).length = i * 2 := by rw [flat_len cM_len, List.length_take, HL.out]; congr 1; omega
    have hX2 : ((xs.drop i).flatMap cM).length = (n - i) * 2 := by rw [flat_len cM_len, List.length_drop, HL.out]
    have hcur : cur.toList = (xs.take i).flatMap cM ++ (xs.drop i).flatMap cM := by
      rw [← flat_take, ← HTK.out, List.take_of_length_le (by rw [Array.length_toList, HCS.out]; omega)]
    obtain ⟨X1, e1⟩ : ∃ q, q = (xs.take i).flatMap cM := ⟨_, rfl⟩
    obtain ⟨X2, e2⟩ : ∃ q, q = (xs.drop i).flatMap cM := ⟨_, rfl⟩
    rw [← e1] at hX1
    rw [← e2] at hX2
    rw [← e1, ← e2] at hcur
    have h1X : ∀ v ∈ X2, v.oneCell' = true := by rw [e2]; exact flatM_one _
    obtain ⟨i0, hi0, hq⟩ := Option.map_eq_some_iff.1 infoM
    simp only [Prod.mk.injEq] at hq
    obtain ⟨hz0, hz1, hz2⟩ := hq
    have hold : (Builtin.firstCells i0.size i (.slice (some ⟨g, 0, none⟩) i n)).run Try.prog w.drew = .ok X1.toArray w.drew := by
      rw [hz1]
      refine run_firstCells_some w.drew 2 i ⟨g, 0, none⟩ i n X1 hX1 (fun j v hj => ?_)
      have hlt : j < X1.length := (List.getElem?_eq_some_iff.1 hj).1
      rw [Addr.add_lit, World.cell?_drew, Nat.zero_add, cell_of_row w g _ cur _ _ HGG.out, ← Array.getElem?_toList, hcur, List.getElem?_append_left hlt]
      exact hj
    obtain ⟨G, hG⟩ : ∃ G, G = grownCap w (n + 1) n 68 := ⟨_, rfl⟩
    have hGn : n + 1 ≤ G := by rw [hG]; exact grownCap_ge w _ _ _
    have hG63 : G ≤ 9223372036854775807 := by
      have := grownCap_le_maxLen w (n + 1) n 68 (by unfold maxLen; omega)
      rw [← hG] at this
      unfold maxLen at this
      exact this
    obtain ⟨ROW, hROW⟩ : ∃ ROW : Array Value, ROW = X1.toArray ++ Builtin.zeroCells (Value.agg #[.int .i64 0, .string ⟨#[]⟩]).cells (n + 1 - i) ++ Builtin.zeroCells (Value.agg #[.int .i64 0, .string ⟨#[]⟩]).cells (G - (n + 1)) := ⟨_, rfl⟩
    have hzc : ∀ m, (Builtin.zeroCells (Value.agg #[.int .i64 0, .string ⟨#[]⟩]).cells m).size = m * 2 := fun m => by rw [size_zeroCells]; rfl
    obtain ⟨Z, hZ⟩ : ∃ Z : List Value, ROW.toList = X1 ++ Z ∧ Z.length = (G - i) * 2 := by
      refine ⟨(Builtin.zeroCells (Value.agg #[.int .i64 0, .string ⟨#[]⟩]).cells (n + 1 - i)).toList ++ (Builtin.zeroCells (Value.agg #[.int .i64 0, .string ⟨#[]⟩]).cells (G - (n + 1))).toList, ?_, ?_⟩
      · rw [hROW, Array.toList_append, Array.toList_append, List.append_assoc]
      · rw [List.length_append, Array.length_toList, Array.length_toList, hzc, hzc]; omega
    have hRs : ROW.size = G * 2 := by rw [← Array.length_toList, hZ.1, List.length_append, hX1, hZ.2]; omega
    have HRZ := Lib.hid (fun (ty : Nat) => (show (Builtin.append_ #[52, 3] ty #[.slice (some ⟨g, 0, none⟩) i n, .int .i64 ((n : Int) + 1 - (i : Int))]).run Try.prog w = .ok (.slice (some ⟨w.heap.size, 0, none⟩) (n + 1) G) (w.drew.alloc (.cells ROW 68)) by
      have h := Lib.run_append_grow_zeros (P := Try.prog) w 52 3 ty 68 i0 _ .i64 .i64 Try.underlying52 Try.underlying3 hi0 hz0 (some ⟨g, 0, none⟩) i n X1 hold (n + 1 - i) (by omega) (by omega) (by omega) (by omega) (by rw [hz2]; omega) (by rw [hz2, show i + (n + 1 - i) = n + 1 by omega]; exact growslice_fits (by omega) (by omega))
      rw [show i + (n + 1 - i) = n + 1 by omega, ← hG, ← hROW] at h
      rw [show (n : Int) + 1 - (i : Int) = ((n + 1 - i : Nat) : Int) by omega]
      exact h))
    obtain ⟨g2, hg2⟩ : ∃ q, q = w.heap.size := ⟨_, rfl⟩
    obtain ⟨w1, hw1⟩ : ∃ q, q = w.drew.alloc (.cells ROW 68) := ⟨_, rfl⟩
    have hg1 : w1.heap[g2]? = some (.cells ROW 68 (0, 0)) := by rw [hw1, hg2]; exact heap_alloc_new w.drew _
    have HXE : Hid (Ext w w1) := Lib.hid (by rw [hw1]; exact ext_alloc (ext_drew (Ext.rfl' w)) _)
    have hV1 : Blk w1 vb 68 (cM y).toArray := HV.out.ext HXE.out
    have hgo : w1.heap[g]? = some (.cells cur 68 (0, 0)) := (HXE.out.block g HLT.out).trans HGG.out
    rw [← hg2, ← hw1] at HRZ
    have hne2 : vb ≠ g2 := by have := HV.out.lt; omega
    have hne3 : g ≠ g2 := by have := HLT.out; omega
    obtain ⟨row1, hr1⟩ : ∃ q, q = (ROW.toList.take (i * 2) ++ cM y ++ ROW.toList.drop (i * 2 + (cM y).length)).toArray := ⟨_, rfl⟩
    have hr1s : row1.size = G * 2 := by
      rw [hr1]; simp only [List.size_toArray, List.length_append, List.length_take, List.length_drop, Array.length_toList, hRs, cM_len]; omega
    have HRUN1 := Lib.hid (fun (ty dc sc : Nat) =>
      (show (Builtin.copy_ #[52, 52] ty #[.slice (some ⟨g2, i * 2, none⟩) (n + 1 - i) dc, .slice (some ⟨vb, 0, none⟩) 1 sc]).run Try.prog w1 = .ok (goInt ((1 : Nat) : Int)) (w1.setRow g2 row1) by
        rw [hr1]
        refine run_copy_rec (P := Try.prog) w1 _ _ ty 68 2 g2 (i * 2) (n + 1 - i) dc ⟨vb, 0, none⟩ 1 sc 1 ROW 68 (cM y) Try.underlying52 sizeMk hg1 (by simp only [Nat.min_def]; split <;> omega) (cM_len y) (fun j v hj => ?_) (by rw [cM_len, hRs]; omega) (cM_one y)
        rw [Addr.add_lit, hV1.cell, Nat.zero_add, List.getElem?_toArray]
        exact hj))
    obtain ⟨w2, hw2⟩ : ∃ q, q = w1.setRow g2 row1 := ⟨_, rfl⟩
    rw [← hw2] at HRUN1
    have hg22 : w2.heap[g2]? = some (.cells row1 68 (0, 0)) := by rw [hw2]; exact setRow_heap _ g2 ROW row1 _ _ hg1
    have hgo2 : w2.heap[g]? = some (.cells cur 68 (0, 0)) := by rw [hw2]; exact (setRow_other _ g2 g _ hne3).trans hgo
    obtain ⟨row2, hr2⟩ : ∃ q, q = (row1.toList.take ((i + 1) * 2) ++ X2 ++ row1.toList.drop ((i + 1) * 2 + X2.length)).toArray := ⟨_, rfl⟩
    have HRUN2 := Lib.hid (fun (ty dc sc : Nat) =>
      (show (Builtin.copy_ #[52, 52] ty #[.slice (some ⟨g2, (i + 1) * 2, none⟩) (n - i) dc, .slice (some ⟨g, i * 2, none⟩) (n - i) sc]).run Try.prog w2.drew = .ok (goInt ((n - i : Nat) : Int)) (w2.drew.setRow g2 row2) by
        rw [hr2]
        refine run_copy_rec (P := Try.prog) w2.drew _ _ ty 68 2 g2 ((i + 1) * 2) (n - i) dc ⟨g, i * 2, none⟩ (n - i) sc (n - i) row1 68 X2 Try.underlying52 sizeMk hg22 (by simp [Nat.min_def]) hX2 (fun j v hj => ?_) (by rw [hX2, hr1s]; omega) h1X
        have hlt : j < X2.length := (List.getElem?_eq_some_iff.1 hj).1
        rw [Addr.add_lit, World.cell?_drew, cell_of_row w2 g _ cur _ _ hgo2, ← Array.getElem?_toList, hcur, List.getElem?_append_right (by omega), show i * 2 + j - X1.length = j by omega]
        exact hj))
    have HFIN : Hid (InPost base (.slice (some ⟨g, 0, none⟩) n n) (xs.take i ++ y :: xs.drop i) w (.returned (.slice (some ⟨g2, 0, none⟩) (n + 1) G)) (w2.drew.setRow g2 row2)) := Lib.hid (by
      rw [show xs.take i ++ y :: xs.drop i = xs.take i ++ [y] ++ xs.drop i by simp]
      have hlen : (xs.take i ++ [y] ++ xs.drop i).length = n + 1 := by
        have := HL.out
        simp only [List.length_append, List.length_take, List.length_drop, List.length_singleton]; omega
      refine ⟨_, rfl, ?_, ?_⟩
      · have hls : row2.toList = X1 ++ cM y ++ X2 ++ Z.drop (2 + X2.length) := by
          rw [hr2, hr1]
          have := fill_list ROW.toList X1 X2 (cM y) Z hZ.1 (by rw [cM_len, hX2, hZ.2]; omega)
          rw [hX1, cM_len, show i * 2 + 2 = (i + 1) * 2 by omega] at this
          rw [cM_len, show i * 2 + 2 = (i + 1) * 2 by omega]
          exact this
        rw [← hlen]
        refine own_set cM_len (setRow_heap _ g2 row1 row2 _ _ hg22) (by have := HBS.out; omega) (by rw [hlen]; exact hGn) (by unfold maxLen; exact hG63) ?_ ?_
        · rw [← Array.length_toList, hls]
          simp only [List.length_append, List.length_drop, hX1, hX2, hZ.2, cM_len]
          omega
        · rw [hlen, hls, List.flatMap_append, List.flatMap_append, ← e1, ← e2]
          have : (X1 ++ cM y ++ X2).length = (n + 1) * 2 := by simp only [List.length_append, hX1, hX2, cM_len]; omega
          rw [← this, List.take_left]
          simp
      · have k1 := gb_setRow w1 g2 row1
        rw [← hw2] at k1
        have k2 := gb_setRow w2.drew g2 row2
        have hx := HXE.out
        exact ⟨k2.os.trans (k1.os.trans hx.os), k2.tape.trans (k1.tape.trans hx.tape), k2.output.trans (k1.output.trans hx.output), Nat.le_trans hx.size (Nat.le_trans k1.size k2.size), fun k h1 h2 => (k2.block k (Nat.lt_of_lt_of_le h1 (Nat.le_trans hx.size k1.size)) (by intro e; cases e; omega)).trans ((k1.block k (Nat.lt_of_lt_of_le h1 hx.size) (by intro e; cases e; omega)).trans (hx.block k h1))⟩)
    obtain ⟨w4, hw4⟩ : ∃ q, q = w2.drew.setRow g2 row2 := ⟨_, rfl⟩
    rw [← hw4] at HRUN2 HFIN
    clear hw1 hw2 hw4 hr1 hr2 hcur hX1 hX2 hZ e1 e2 hg1 hV1 h1X hr1s hgo hg22 hgo2 hne2 hne3 hRs hzc hROW hG hold hi0 hz0 hz1 hz2 hg2
    have u1 : ¬ G = i := by omega
    have u2 : ¬ G = i + 1 := by omega
    have u3 : (i : Int) + 1 ≤ (n : Int) + 1 := by omega
    have u4 : IntKind.i64.wrap ((i : Int) + 1) = (i : Int) + 1 := IntWalk.i64_in _ (by omega)
    have u5 : ((i : Int) + 1).toNat = i + 1 := by omega
    have u6 : (0 : Int) ≤ (i : Int) + 1 := by omega
    have u7 : (i : Int) ≤ (n : Int) + 1 := by omega
    have u8 : ¬ n = i := by omega
    have u9 : (G : Int) ≤ 9223372036854775807 := by omega
    have u10 : (n : Int) + 1 ≤ (G : Int) := by omega
    go_enter Try.func55, Try.ntmps55
    go_upto_region 11 with (first | refine wpList_append_run rfl (.tmp 34) (.tmp 39) 52 3 rfl (.slice (some ⟨g, 0, none⟩) i n) (.int .i64 ((n : Int) + 1 - (i : Int))) _ w1 rfl rfl (HRZ.out _) ?_ | refine wpList_copy_run rfl (.tmp 43) (.tmp 44) 52 52 rfl (.slice (some ⟨g2, i * 2, none⟩) (n + 1 - i) (G - i)) (.slice (some ⟨vb, 0, none⟩) 1 c1) (goInt ((1 : Nat) : Int)) w2 (by kernel_rfl) (by kernel_rfl) (HRUN1.out _ _ _) ?_)
    go_region_law (refine step_copy_run rfl (.tmp 50) (.tmp 53) 52 52 rfl (.slice (some ⟨g2, (i + 1) * 2, none⟩) (n - i) (G - (i + 1))) (.slice (some ⟨g, i * 2, none⟩) (n - i) (n - i)) (goInt ((n - i : Nat) : Int)) w4 (by kernel_rfl) (by kernel_rfl) (HRUN2.out _ _ _) ?_)
    go_wp2_with fail
    go_ret
    exact HFIN.out
end Go.Proofs.Ytlldmpcamdginaa.Trk
