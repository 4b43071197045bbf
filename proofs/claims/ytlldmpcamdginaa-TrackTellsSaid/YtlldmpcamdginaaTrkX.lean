/- Tracks: a bookmark taken out. -/
import Derived.Test.YtlldmpcamdginaaTrkW
namespace Go.Proofs.Ytlldmpcamdginaa.Trk
open Go.ChangeShapes Go.WideShapes Go.ChangeAt Go.RowKit
open Go.Proofs.Ytlldmpcamdginaa.Rec
set_option linter.unusedVariables false
section
variable {P : Program}
/-- append where there is room, whatever the row holds behind. -/
theorem run_app_in (w : World) (t tx ty e : TypeId) (k g n c : Nat) (cur : Array Value) (te : TypeId) (x : Value) (m : Nat) (news : List Value) (ht : P.underlying t = some (.slice e)) (hsz : (P.info? e).map (·.size) = some k)
    (hg : w.heap[g]? = some (.cells cur te (0, 0))) (hs : Src P k tx x m news w) (hroom : n + m ≤ c) (hfit : n * k + news.length ≤ cur.size) :
    (Builtin.append_ #[t, tx] ty #[.slice (some ⟨g, 0, none⟩) n c, x]).run P w = .ok (.slice (some ⟨g, 0, none⟩) (n + m) c) (w.setRow g (cur.toList.take (n * k) ++ news ++ cur.toList.drop (n * k + news.length)).toArray) := by
  cases hi : P.info? e with
  | none => simp [hi] at hsz
  | some i =>
    have hik : i.size = k := by simpa [hi] using hsz
    subst hik
    have hst := run_storeCells_at P g (n * i.size) te news 0 cur w hg (by simpa using hfit) hs.one
    simp only [Nat.add_zero] at hst
    rcases hs.kind with ⟨e', hk⟩ | hk <;> simp [Builtin.append_, run_underlying ht, run_underlying hk, sizeOf, typeInfo, hi, hs.len, hroom, hs.cells, Addr.add_lit, hst]
/-- clear, of one record. -/
theorem run_clear_rec (w : World) (t e ty : TypeId) (z : Value) (k g o n c : Nat) (cur : Array Value) (te : TypeId) (ht : P.underlying t = some (.slice e)) (hz : (P.info? e).map (·.zero) = some (some z)) (h1 : ∀ v ∈ z.cells, v.oneCell' = true) (hk : z.cells.size = k)
    (hg : w.heap[g]? = some (.cells cur te (0, 0))) (hn : 0 < n) (hfit : o + n * k ≤ cur.size) :
    (Builtin.clear_ #[t] ty #[.slice (some ⟨g, o, none⟩) n c]).run P w = .ok (.tuple #[]) (w.setRow g (cur.toList.take o ++ (Builtin.zeroCells z.cells n).toList ++ cur.toList.drop (o + n * k)).toArray) := by
  cases hi : P.info? e with
  | none => simp [hi] at hz
  | some i =>
    have hiz : i.zero = some z := by simpa [hi] using hz
    have hl : (Builtin.zeroCells z.cells n).toList.length = n * k := by rw [Array.length_toList, size_zeroCells, hk]
    have hst := run_storeCells_at P g o te (Builtin.zeroCells z.cells n).toList 0 cur w hg (by rw [hl]; simpa using hfit) (by
      intro v hv
      simp only [Builtin.zeroCells, Array.toList_map, List.mem_map] at hv
      obtain ⟨j, hj, rfl⟩ := hv
      have hj2 : j < n * z.cells.size := by simpa using hj
      have hz0 : 0 < z.cells.size := by
        rcases Nat.eq_zero_or_pos z.cells.size with h | h
        · rw [h] at hj2; omega
        · exact h
      have hm := Nat.mod_lt j hz0
      rw [getElem!_pos z.cells _ hm]
      exact h1 _ (Array.getElem_mem hm))
    rw [hl] at hst
    simp only [Nat.add_zero] at hst
    obtain ⟨m, rfl⟩ : ∃ m, n = m + 1 := ⟨n - 1, by omega⟩
    simp [Builtin.clear_, run_underlying ht, zeroValue, typeInfo, hi, hiz, hst]
theorem wpList_clear_run {w : World} {ops : Array Oper} {rest : List Oper} {o : Oper} {a : Act} {Q : Exit → Act → World → Prop} (hgd : o.guard = none) (d : Operand) (dT : TypeId)
    (ho : o.op = .call { callee := .builtin .clear, args := #[d], argTypes := #[dT] }) (vd v : Value) (w' : World) (hd : a.eval d = vd) (hrun : (Builtin.clear_ #[dT] o.type #[vd]).run P w = .ok v w')
    (h : wpList P ops Q rest (a.put o.dst v) w') : wpList P ops Q (o :: rest) a w := by
  refine wpList_plain hgd fun K hK => ?_
  unfold Oper.wp
  simp [execOp, ho, resolve, invoke, builtin, hd, hrun, Result.andThen]
  exact hK _ _ h
end
def zeroMk : Value := .agg #[.int .i64 0, .string ⟨#[]⟩]
theorem zeroM_info : (Try.prog.info? 68).map (·.zero) = some (some zeroMk) := by kernel_rfl
theorem zero1 : (Builtin.zeroCells zeroMk.cells 1).toList = [.int .i64 0, .string ⟨#[]⟩] := by kernel_rfl
theorem del_list {α : Type} (L X1 Y X2 R Z : List α) (hL : L = X1 ++ Y ++ X2 ++ R) (hY : Y.length = Z.length) :
    (L.take X1.length ++ X2 ++ L.drop (X1.length + X2.length)).take (X1.length + X2.length) ++ Z ++ (L.take X1.length ++ X2 ++ L.drop (X1.length + X2.length)).drop (X1.length + X2.length + Z.length) = X1 ++ X2 ++ Z ++ R := by
  have e1 : L.take X1.length = X1 := by rw [hL, List.append_assoc, List.append_assoc]; exact List.take_left
  have e2 : L.drop (X1.length + X2.length) = (Y ++ X2 ++ R).drop X2.length := by
    rw [hL, ← List.drop_drop, List.append_assoc, List.append_assoc, List.drop_left, List.append_assoc]
  rw [e1, e2]
  have e3 : (X1 ++ X2 ++ (Y ++ X2 ++ R).drop X2.length).take (X1.length + X2.length) = X1 ++ X2 := by rw [← List.length_append, List.take_left]
  have e4 : (X1 ++ X2 ++ (Y ++ X2 ++ R).drop X2.length).drop (X1.length + X2.length + Z.length) = R := by
    rw [← List.length_append, ← List.drop_drop, List.drop_left, List.drop_drop, show X2.length + Z.length = (Y ++ X2).length by simp; omega, List.drop_left]
  rw [e3, e4]
set_option maxHeartbeats 4000000 in
set_option maxRecDepth 100000 in
theorem delete_one (base g n c i : Nat) (xs : List Mk) (w : World) (hO : OwnR base w 68 2 cM (.slice (some ⟨g, 0, none⟩) n c) xs) (hn : n ≤ 1000000) (hl : xs.length = n) (hi : i < n) :
    Calls Try.prog 56 #[.slice (some ⟨g, 0, none⟩) n c, .int .i64 (i : Int), .int .i64 ((i : Int) + 1)] w (InPost base (.slice (some ⟨g, 0, none⟩) n c) (xs.take i ++ xs.drop (i + 1)) w) := by
  obtain ⟨cur, hbg, hgg, hnc, hcm, hcs, htake⟩ : ∃ cur, base ≤ g ∧ w.heap[g]? = some (.cells cur 68 (0, 0)) ∧ n ≤ c ∧ c ≤ 9223372036854775807 ∧ cur.size = c * 2 ∧ cur.toList.take (n * 2) = xs.flatMap cM := by
    rcases hO.2 with ⟨h, _⟩ | ⟨g', cap, cur, h1, h2, h3, h4, h5, h6, h7⟩
    · cases h
    · obtain ⟨e1, e2, e3⟩ := Value.slice.inj h1
      cases e1
      subst e3
      rw [hl] at h4 h7
      exact ⟨cur, h2, h3, h4, by unfold maxLen at h5; exact h5, h6, h7⟩
  have HGG := Lib.hid hgg; have HCS := Lib.hid hcs; have HTK := Lib.hid htake; have HBG := Lib.hid hbg; have HL := Lib.hid hl
  clear hO hgg hcs htake hbg hl
  have hY2 : ∃ y : Mk, xs.drop i = y :: xs.drop (i + 1) := ⟨xs[i]'(by have := HL.out; omega), List.drop_eq_getElem_cons (by have := HL.out; omega)⟩
  obtain ⟨y, hy⟩ := hY2
  have hX1 : ((xs.take i).flatMap cM).length = i * 2 := by rw [flat_len cM_len, List.length_take, HL.out]; congr 1; omega
  have hX2 : ((xs.drop (i + 1)).flatMap cM).length = (n - (i + 1)) * 2 := by rw [flat_len cM_len, List.length_drop, HL.out]
  have hcur : cur.toList = (xs.take i).flatMap cM ++ cM y ++ (xs.drop (i + 1)).flatMap cM ++ cur.toList.drop (n * 2) := by
    have : xs.flatMap cM = (xs.take i).flatMap cM ++ cM y ++ (xs.drop (i + 1)).flatMap cM := by
      rw [flat_take xs i, hy, List.flatMap_cons, List.append_assoc]
    rw [← this, ← HTK.out, List.take_append_drop]
  have hR : (cur.toList.drop (n * 2)).length = (c - n) * 2 := by rw [List.length_drop, Array.length_toList, HCS.out]; omega
  obtain ⟨X1, e1⟩ : ∃ q, q = (xs.take i).flatMap cM := ⟨_, rfl⟩
  obtain ⟨X2, e2⟩ : ∃ q, q = (xs.drop (i + 1)).flatMap cM := ⟨_, rfl⟩
  obtain ⟨R, e3⟩ : ∃ q, q = cur.toList.drop (n * 2) := ⟨_, rfl⟩
  rw [← e1] at hX1
  rw [← e2] at hX2
  rw [← e3] at hR
  rw [← e1, ← e2, ← e3] at hcur
  have h1X : ∀ v ∈ X2, v.oneCell' = true := by rw [e2]; exact flatM_one _
  obtain ⟨cur1, hc1⟩ : ∃ q, q = (cur.toList.take (i * 2) ++ X2 ++ cur.toList.drop (i * 2 + X2.length)).toArray := ⟨_, rfl⟩
  have hc1s : cur1.size = c * 2 := by
    rw [hc1]; simp only [List.size_toArray, List.length_append, List.length_take, List.length_drop, Array.length_toList, HCS.out, hX2]; omega
  have hcell : ∀ (W : World), W.heap[g]? = some (.cells cur 68 (0, 0)) → ∀ j v, X2[j]? = some v → W.cell? ⟨g, (i + 1) * 2 + j, none⟩ = some v := fun W hW j v hj => by
    have hlt : j < X2.length := (List.getElem?_eq_some_iff.1 hj).1
    rw [cell_of_row W g _ cur _ _ hW, ← Array.getElem?_toList, hcur, List.append_assoc, List.getElem?_append_right (by simp only [List.length_append, hX1, cM_len]; omega)]
    rw [show (i + 1) * 2 + j - (X1 ++ cM y).length = j by simp only [List.length_append, hX1, cM_len]; omega, List.getElem?_append_left hlt]
    exact hj
  have HRUN1 := Lib.hid (fun (ty o sc : Nat) (q : o = (i + 1) * 2 ∨ n = i + 1) =>
    (show (Builtin.append_ #[52, 52] ty #[.slice (some ⟨g, 0, none⟩) i c, .slice (some ⟨g, o, none⟩) (n - (i + 1)) sc]).run Try.prog w.drew = .ok (.slice (some ⟨g, 0, none⟩) (n - 1) c) (w.drew.setRow g cur1) by
      rw [hc1, show n - 1 = i + (n - (i + 1)) by omega]
      refine run_app_in (P := Try.prog) w.drew _ _ ty 68 2 g i c cur 68 _ (n - (i + 1)) X2 Try.underlying52 sizeMk HGG.out ?_ (by omega) (by rw [hX2, HCS.out]; omega)
      refine Src.ofSlice _ Try.underlying52 _ _ _ X2 hX2 (fun j v hj => ?_) h1X
      rcases q with rfl | q
      · rw [Addr.add_lit]; exact hcell _ HGG.out j v hj
      · have hlt : j < X2.length := (List.getElem?_eq_some_iff.1 hj).1
        rw [hX2] at hlt; omega))
  obtain ⟨w1, hw1⟩ : ∃ q, q = w.drew.setRow g cur1 := ⟨_, rfl⟩
  rw [← hw1] at HRUN1
  have hg1 : w1.heap[g]? = some (.cells cur1 68 (0, 0)) := by rw [hw1]; exact setRow_heap _ g cur cur1 _ _ HGG.out
  obtain ⟨cur2, hc2⟩ : ∃ q, q = (cur1.toList.take ((n - 1) * 2) ++ (Builtin.zeroCells zeroMk.cells 1).toList ++ cur1.toList.drop ((n - 1) * 2 + 1 * 2)).toArray := ⟨_, rfl⟩
  have HRUN2 := Lib.hid (fun (ty dc : Nat) =>
    (show (Builtin.clear_ #[52] ty #[.slice (some ⟨g, (n - 1) * 2, none⟩) 1 dc]).run Try.prog w1 = .ok (.tuple #[]) (w1.setRow g cur2) by
      rw [hc2]
      exact run_clear_rec (P := Try.prog) w1 _ 68 ty zeroMk 2 g ((n - 1) * 2) 1 dc cur1 68 Try.underlying52 zeroM_info (by intro u hu; simp [zeroMk, Value.cells] at hu; rcases hu with rfl | rfl <;> rfl) rfl hg1 (by omega) (by rw [hc1s]; omega)))
  have HFIN : Hid (InPost base (.slice (some ⟨g, 0, none⟩) n c) (xs.take i ++ xs.drop (i + 1)) w (.returned (.slice (some ⟨g, 0, none⟩) (n - 1) c)) (w1.setRow g cur2)) := Lib.hid (by
    have hlen : (xs.take i ++ xs.drop (i + 1)).length = n - 1 := by
      have := HL.out
      simp only [List.length_append, List.length_take, List.length_drop]; omega
    refine ⟨_, rfl, ?_, ?_⟩
    · have hls : cur2.toList = X1 ++ X2 ++ [.int .i64 0, .string ⟨#[]⟩] ++ R := by
        rw [hc2, hc1, zero1]
        have := del_list cur.toList X1 (cM y) X2 R [.int .i64 0, .string ⟨#[]⟩] hcur (cM_len y)
        rw [hX1, show i * 2 + X2.length = (n - 1) * 2 by omega] at this
        rw [show i * 2 + X2.length = (n - 1) * 2 by omega]
        exact this
      rw [← hlen]
      refine own_set cM_len (setRow_heap _ g cur1 cur2 _ _ hg1) HBG.out (by rw [hlen]; omega) (by unfold maxLen; omega) ?_ ?_
      · rw [← Array.length_toList, hls]
        simp only [List.length_append, hX1, hX2, hR, List.length_cons, List.length_nil]
        omega
      · rw [hlen, hls, List.flatMap_append, ← e1, ← e2, List.append_assoc]
        have : (X1 ++ X2).length = (n - 1) * 2 := by simp only [List.length_append, hX1, hX2]; omega
        rw [← this, List.take_left]
    · have k1 := gb_setRow w.drew g cur1
      rw [← hw1] at k1
      have k2 := gb_setRow w1 g cur2
      exact ⟨k2.os.trans k1.os, k2.tape.trans k1.tape, k2.output.trans k1.output, Nat.le_trans k1.size k2.size, fun k h1 h2 => (k2.block k (Nat.lt_of_lt_of_le h1 k1.size) h2).trans (k1.block k h1 h2)⟩)
  obtain ⟨w2, hw2⟩ : ∃ q, q = w1.setRow g cur2 := ⟨_, rfl⟩
  rw [← hw2] at HRUN2 HFIN
  clear hw1 hw2 hc1 hc2 hcur hX1 hX2 hR e1 e2 e3 hg1 h1X hc1s hcell hy
  have y1 : (0 : Int) ≤ (i : Int) := by omega
  have y2 : (i : Int) + 1 ≤ (n : Int) := by omega
  have y3 : ¬ (i : Int) = (i : Int) + 1 := by omega
  have y4 : (n : Int) ≤ (c : Int) := by omega
  have y5 : (i : Int) ≤ (i : Int) + 1 := by omega
  have y6 : IntKind.i64.wrap ((i : Int) + 1) = (i : Int) + 1 := IntWalk.i64_in _ (by omega)
  have y7 : ((i : Int) + 1).toNat = i + 1 := by omega
  have y8 : (0 : Int) ≤ (i : Int) + 1 := by omega
  have y9 : (i : Int) ≤ (c : Int) := by omega
  go_enter Try.func56, Try.ntmps56
  obtain ⟨p, hp⟩ : ∃ p, p = n - 1 := ⟨_, rfl⟩
  rw [← hp] at HRUN1 HFIN
  have hp2 : (p : Int) ≤ (n : Int) := by omega
  have hp3 : n - p = 1 := by omega
  have hp4 : ¬ c = p := by omega
  have hp5 : (p : Int) ≤ (c : Int) := by omega
  have hp6 : (0 : Int) ≤ (p : Int) := by omega
  have HRUN3 := Lib.hid (fun ty dc => HRUN2.out ty dc)
  rw [← hp] at HRUN3
  clear HRUN2 hp
  go_upto_region 5 with fail
  by_cases hci : c = i + 1
  · have hni : Hid (n = i + 1) := Lib.hid (by omega)
    have HRUNA := Lib.hid (fun ty sc => HRUN1.out ty 0 sc (.inr hni.out))
    rw [show n - (i + 1) = 0 by omega] at HRUNA
    subst hci
    have u1 : (i : Int) ≤ (i : Int) + 1 := by omega
    go_region_law (refine step_append_run rfl (.tmp 22) (.tmp 25) 52 52 rfl (.slice (some ⟨g, 0, none⟩) i (i + 1)) (.slice (some ⟨g, 0, none⟩) 0 0) (.slice (some ⟨g, 0, none⟩) p (i + 1)) w1 (by kernel_rfl) (by kernel_rfl) (HRUNA.out _ _) ?_)
    go_wp2_with (refine wpList_clear_run rfl (.tmp 31) 52 rfl (.slice (some ⟨g, p * 2, none⟩) 1 (i + 1 - p)) (.tuple #[]) w2 (by kernel_rfl) (HRUN3.out _ _) ?_)
    go_ret
    exact HFIN.out
  · go_region_law (refine step_append_run rfl (.tmp 22) (.tmp 25) 52 52 rfl (.slice (some ⟨g, 0, none⟩) i c) (.slice (some ⟨g, (i + 1) * 2, none⟩) (n - (i + 1)) (c - (i + 1))) (.slice (some ⟨g, 0, none⟩) p c) w1 (by kernel_rfl) (by kernel_rfl) (HRUN1.out _ _ _ (.inl rfl)) ?_)
    go_wp2_with (refine wpList_clear_run rfl (.tmp 31) 52 rfl (.slice (some ⟨g, p * 2, none⟩) 1 (c - p)) (.tuple #[]) w2 (by kernel_rfl) (HRUN3.out _ _) ?_)
    go_ret
    exact HFIN.out
end Go.Proofs.Ytlldmpcamdginaa.Trk
