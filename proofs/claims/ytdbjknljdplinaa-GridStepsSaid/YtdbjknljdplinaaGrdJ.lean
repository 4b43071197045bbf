/- Contracts of package grid: the tiles around one. -/
import Derived.Test.YtdbjknljdplinaaGrdI
namespace Go.Proofs.Ytdbjknljdplinaa.Grid
open Go.ChangeShapes Go.WideShapes Go.ChangeAt Go.RowKit Go.Shelf
set_option linter.unusedVariables false
attribute [local go_sem] Oper.semAt_some

/-- Something is appended, in a round. -/
theorem wpListIn_of_append {F : Fence} {n : Nat} {P : Program} {w : World} {ops : Array Oper} {rest : List Oper} {o : Oper} {a : Act} {Q : Exit → Act → World → Prop} (hgd : o.guard = none) (s x : Operand) (t tx : TypeId)
    (ho : o.op = .call { callee := .builtin .append, args := #[s, x], argTypes := #[t, tx] }) (vs vx : Value) (hs : a.eval s = vs) (hx : a.eval x = vx) {v' : Value} {w' : World}
    (hr : (Builtin.append_ #[t, tx] o.type #[vs, vx]).run P w = .ok v' w') (h : wpListIn F n P ops Q rest (a.put o.dst v') w') : wpListIn F n P ops Q (o :: rest) a w := by
  refine wpListIn_plain hgd fun K hK => ?_
  unfold Oper.wpIn
  refine ⟨?_, ?_⟩
  · simp [Oper.about, ho, resolve, Target.leads, Sem.run_pure]
  · rw [Oper.semAt_plain F _ _ (by rw [ho]; intro c hc'; cases hc')]
    simp [execOp, ho, resolve, invoke, builtin, hs, hx, hr, Result.andThen]
    exact hK _ _ h
def Three (w : World) (W H : Nat) (T : ByteArray) (t : Int) (f : Int) : World := ((w.alloc (.cells #[.int .i64 (W : Int), .int .i64 (H : Int), .string T] 52)).alloc (.cells #[.int .i64 t] 3)).alloc (.cells #[.int .i64 f] 3)
theorem within_in (n W H : Nat) (t f : Int) (T : ByteArray) (w : World) :
    CallsIn Fence.wide n Try.prog 68 #[.agg #[.int .i64 (W : Int), .int .i64 (H : Int), .string T], .int .i64 t, .int .i64 f] w fun e w' => e = .returned (.func (.func 73) #[] #[.pointer (some ⟨w.heap.size, 0, none⟩), .pointer (some ⟨w.heap.size + 1, 0, none⟩), .pointer (some ⟨w.heap.size + 2, 0, none⟩)]) ∧ w' = Three w W H T t f := by
  refine callsIn_of_wp Try.func68 rfl trivial ?_ rfl
  simp only [Try.ntmps68, List.size_toArray, List.length_cons, List.length_nil, Nat.reduceAdd, Nat.reduceSub, Array.replicate_succ, Array.replicate_zero, List.push_toArray, List.append_toArray, List.nil_append, List.cons_append]
  gi_wp2
  go_ret
  exact ⟨rfl, rfl⟩
/-- What holds between rounds. -/
def AIn (w : World) (D base : Nat) (pre : List Nat) (W : World) : Prop :=
  (∃ v, Boxed W D 66 v ∧ W.ownsRow base 3 1 v pre.length (nums pre) ∧ True) ∧ Ext w W ∧ base ≤ W.heap.size
theorem aIn_own (w : World) (D base B : Nat) (hB : w.heap.size ≤ B) : OwnFrom B (AIn w D base) :=
  OwnFrom.and (Own.from (holdsRow_own base D 66 3 1 (fun pre => pre.length) (fun pre => nums pre) (fun _ _ => True)) _) (OwnFrom.and (ownFrom_below (Nat.le_refl _) hB) (fun _ _ _ _ h hg _ => Nat.le_trans h hg.size))
theorem aIn_store {w : World} {D base b : Nat} (hb : w.heap.size ≤ b) (hbb : b < base) (hD : D ≠ b) : StoreAt b (AIn w D base) := by
  rintro pre W u ⟨⟨v, hv, hr, _⟩, hE, hs⟩
  exact ⟨⟨v, hv.other hD u, hr.kept (grownBy_setCell' W b u) (.inr (fun e => by
    have := own_ge hr b e
    omega)), trivial⟩, ext_set hE hb u, by simpa [World.setCell] using hs⟩
theorem aIn_put {w W w9 : World} {D base bm bf x : Nat} {pre : List Nat} {v v9 : Value} (hv : Boxed W D 66 v) (hr : W.ownsRow base 3 1 v pre.length (nums pre)) (hE : Ext w W) (hD : w.heap.size ≤ D) (hDb : D < base) (hbm : bm < base) (hbf : bf < base) (hDm : D ≠ bm) (hDf : D ≠ bf) (hm : bm < W.heap.size) (hf : bf < W.heap.size) (hbw : w.heap.size ≤ base) (hbs : base ≤ W.heap.size)
    (ho : w9.ownsRow base 3 1 v9 (pre.length + [x].length) (nums pre ++ nums [x])) (hg : (W.alloc (.cells #[.int .i64 (x : Int)] 3)).grownBy w9 v.ownBlock) :
    (w9.cell? ⟨D, 0, none⟩ = some v ∧ w9.frozen? ⟨D, 0, none⟩ = false) ∧ AIn w D base (pre ++ [x]) (w9.setCell ⟨D, 0, none⟩ v9) ∧ KeepsOthers W (w9.setCell ⟨D, 0, none⟩ v9) ∧ KpA bm bf W (w9.setCell ⟨D, 0, none⟩ v9) := by
  have nv : ∀ k, k < base → some k ≠ v.ownBlock := fun k hk e => by have := own_ge hr k e.symm; omega
  have hv1 := hv.alloc (.cells #[.int .i64 (x : Int)] 3)
  have hv9 := hv1.kept hg (nv D hDb)
  refine ⟨⟨hv9.cell, hv9.frozen⟩, ⟨⟨v9, hv9.set v9, ?_, trivial⟩, ?_⟩, ?_, ?_⟩
  · rw [List.length_append, nums_app]
    exact ho.kept (grownBy_setCell' w9 D v9) (.inr (fun e => by have := own_ge ho D e; omega))
  · have hsz := hg.size
    rw [World.size_alloc] at hsz
    exact ⟨ext_set (ext_grown (ext_alloc hE _) hg (fun k hk => by have := own_ge hr k hk; omega)) hD _, by simpa [World.setCell] using (by omega : base ≤ w9.heap.size)⟩
  · refine ((KeepsOthers.alloc W _).trans (KeepsOthers.of_grownBy hg fun j o ej hj => ?_)).trans (KeepsOthers.setCell _ _ _)
    have hr1 := hr.kept (World.grownBy_alloc W (.cells #[.int .i64 (x : Int)] 3) none) (by
      rcases hr.2 with ⟨rfl, _⟩ | ⟨g', cap, cur, rfl, _⟩
      · exact .inl rfl
      · exact .inr (by simp [Value.ownBlock]))
    rcases hr1.2 with ⟨rfl, _⟩ | ⟨g', cap, cur, rfl, _, hgb, _⟩
    · simp [Value.ownBlock] at ej
    · obtain rfl : g' = j := by simpa [Value.ownBlock] using ej
      rw [hgb] at hj; cases hj; rfl
  · have hsz := hg.size
    rw [World.size_alloc] at hsz
    refine ⟨by simpa [World.setCell] using (by omega : W.heap.size ≤ w9.heap.size), fun k hk hl => ?_⟩
    have h1 : (w9.setCell ⟨D, 0, none⟩ v9).heap[k]? = w9.heap[k]? := Below.heap_setCell w9 ⟨D, 0, none⟩ v9 k (by rcases hk with rfl | rfl <;> simp only <;> omega)
    rw [h1, hg.block k (by rw [World.size_alloc]; omega) (nv k (by rcases hk with rfl | rfl <;> omega))]
    exact Below.heap_alloc W _ k hl
/-- What the iterator must do. -/
def Tells (W H P : Nat) (t f : Int) (T : ByteArray) (R : List Nat) : Prop :=
  ∀ (l bm bt bf : Nat) (J : List Nat → World → Prop),
    (∀ pre x W1, J pre W1 → pre.length < P → YieldAt Fence.wide (5 - 1) Try.prog l #[.int .i64 ((x : Nat) : Int)] W1 fun e W' => e = .returned (.bool true) ∧ J (pre ++ [x]) W' ∧ KpA bm bf W1 W') →
    (∀ pre A B, J pre A → Ext A B → J pre B) → StoreAt bf J → ∀ (W0 : World), bm ≠ bf →
    Blk W0 bm 52 #[.int .i64 (W : Int), .int .i64 (H : Int), .string T] → Blk W0 bt 3 #[.int .i64 t] → Blk W0 bf 3 #[.int .i64 f] → bt ≠ bf → J [] W0 →
    CallsIn Fence.wide 5 Try.prog 73 #[.func (.yield l) #[] #[], .pointer (some ⟨bm, 0, none⟩), .pointer (some ⟨bt, 0, none⟩), .pointer (some ⟨bf, 0, none⟩)] W0 fun e W' => (∃ v, e = .returned v) ∧ ∃ xs, xs = R ∧ J xs W'
set_option maxHeartbeats 4000000 in
set_option maxRecDepth 100000 in
theorem around_of (W H P : Nat) (t f : Int) (T : ByteArray) (R : List Nat) (w : World) (hP2 : P ≤ 4096) (hit : Tells W H P t f T R) :
    Calls Try.prog 45 #[.agg #[.int .i64 (W : Int), .int .i64 (H : Int), .string T], .int .i64 t, .int .i64 f] w (NxPost w R) := by
  refine (callsIn_wide (n := 6)).1 ?_
  refine callsIn_of_wp_marks Try.func45 rfl trivial ?_ rfl
  simp only [Try.ntmps45, List.size_toArray, List.length_cons, List.length_nil, Nat.reduceAdd, Nat.reduceSub, Array.replicate_succ, Array.replicate_zero, List.push_toArray, List.append_toArray, List.nil_append, List.cons_append]
  gi_wp2_with fail
  refine ⟨trivial, (within_in _ _ _ _ _ _ _).mono ?_⟩
  rintro e w' ⟨rfl, rfl⟩
  gi_wp2_with fail
  obtain ⟨G, hG⟩ : ∃ G, G = w.heap.size := ⟨_, rfl⟩
  have hE0 : Ext w (Three ((w.alloc (.cells #[.int .i64 (W : Int), .int .i64 (H : Int), .string T] 52)).alloc (.cells #[.slice none 0 0] 66)) W H T t f) := by
    unfold Three
    exact ext_alloc (ext_alloc (ext_alloc (ext_alloc (ext_alloc (Ext.rfl' w) _) _) _) _) _
  have hS0 : (Three ((w.alloc (.cells #[.int .i64 (W : Int), .int .i64 (H : Int), .string T] 52)).alloc (.cells #[.slice none 0 0] 66)) W H T t f).heap.size = G + 5 := by
    rw [hG]; unfold Three; simp only [World.size_alloc]
  have hD0 : Boxed (Three ((w.alloc (.cells #[.int .i64 (W : Int), .int .i64 (H : Int), .string T] 52)).alloc (.cells #[.slice none 0 0] 66)) W H T t f) (G + 1) 66 (.slice none 0 0) := by
    have h := Boxed.new (w.alloc (.cells #[.int .i64 (W : Int), .int .i64 (H : Int), .string T] 52)) 66 (.slice none 0 0)
    rw [World.size_alloc, ← hG] at h
    unfold Three
    exact ((h.alloc _).alloc _).alloc _
  have hM0 : Blk (Three ((w.alloc (.cells #[.int .i64 (W : Int), .int .i64 (H : Int), .string T] 52)).alloc (.cells #[.slice none 0 0] 66)) W H T t f) (G + 2) 52 #[.int .i64 (W : Int), .int .i64 (H : Int), .string T] := by
    have h := Blk.new ((w.alloc (.cells #[.int .i64 (W : Int), .int .i64 (H : Int), .string T] 52)).alloc (.cells #[.slice none 0 0] 66)) 52 #[.int .i64 (W : Int), .int .i64 (H : Int), .string T]
    simp only [World.size_alloc, ← hG] at h
    unfold Three
    exact (h.alloc _).alloc _
  have hT0 : Blk (Three ((w.alloc (.cells #[.int .i64 (W : Int), .int .i64 (H : Int), .string T] 52)).alloc (.cells #[.slice none 0 0] 66)) W H T t f) (G + 3) 3 #[.int .i64 t] := by
    have h := Blk.new (((w.alloc (.cells #[.int .i64 (W : Int), .int .i64 (H : Int), .string T] 52)).alloc (.cells #[.slice none 0 0] 66)).alloc (.cells #[.int .i64 (W : Int), .int .i64 (H : Int), .string T] 52)) 3 #[.int .i64 t]
    simp only [World.size_alloc, ← hG] at h
    unfold Three
    exact h.alloc _
  have hF0 : Blk (Three ((w.alloc (.cells #[.int .i64 (W : Int), .int .i64 (H : Int), .string T] 52)).alloc (.cells #[.slice none 0 0] 66)) W H T t f) (G + 4) 3 #[.int .i64 f] := by
    have h := Blk.new ((((w.alloc (.cells #[.int .i64 (W : Int), .int .i64 (H : Int), .string T] 52)).alloc (.cells #[.slice none 0 0] 66)).alloc (.cells #[.int .i64 (W : Int), .int .i64 (H : Int), .string T] 52)).alloc (.cells #[.int .i64 t] 3)) 3 #[.int .i64 f]
    simp only [World.size_alloc, ← hG] at h
    unfold Three
    exact h
  have HG := Lib.hid hG
  rw [← hG]
  clear hG
  simp only [Nat.add_assoc, Nat.reduceAdd]
  generalize Three ((w.alloc (.cells #[.int .i64 (W : Int), .int .i64 (H : Int), .string T] 52)).alloc (.cells #[.slice none 0 0] 66)) W H T t f = wA at *
  have hGw : w.heap.size ≤ G := by rw [HG.out]; exact Nat.le_refl _
  refine range_rounds rfl (by omega) (gf := 73) (lb := #[.pointer (some ⟨G + 2, 0, none⟩), .pointer (some ⟨G + 3, 0, none⟩), .pointer (some ⟨G + 4, 0, none⟩)]) rfl trivial (enters_of Try.func73 (by kernel_rfl) rfl)
    (encs := fun (x : Nat) => #[.int .i64 (x : Int)]) (b := G + 4) (Kp := KpA (G + 2) (G + 4)) (S := fun xs => xs = R) (N := P) (by rw [hS0]; omega)
    (fun l J W1 hbel hab hst hY h0 => hit l (G + 2) (G + 3) (G + 4) J hY (fun pre A B hj he => hab pre A B none hj ⟨he.os, he.tape, he.output, he.size, fun k hk _ => he.block k hk⟩ (fun r e => by cases e)) hst W1 (by omega)
      ((hbel.block _ hM0.lt).trans hM0) ((hbel.block _ hT0.lt).trans hT0) ((hbel.block _ hF0.lt).trans hF0) (by omega) h0) (fun h k => h.trans k)
    (fun W1 l o o' hl ho _ _ => ⟨by simp, fun k hk hlt => World.putObj_heap_other (by rw [hS0] at hl; rcases hk with rfl | rfl <;> omega)⟩) (fun _ => rfl)
    (AIn w (G + 1) (G + 5)) (aIn_own _ _ _ _ hE0.size) (aIn_store (by omega) (by omega) (by omega))
    ⟨⟨_, hD0, World.ownsRow_nil _ _ _ _, trivial⟩, hE0, by rw [hS0]; exact Nat.le_refl _⟩ ?a1 ?assign ?body ?done
  case a1 => exact fun x => { tmps := #[.agg #[.int .i64 (W : Int), .int .i64 (H : Int), .string T], .int .i64 t, .int .i64 f, .pointer (some ⟨G, 0, none⟩), undef, undef, .slice none 0 0, .pointer (some ⟨G + 1, 0, none⟩), .int .i64 (x : Int), .agg #[.int .i64 (W : Int), .int .i64 (H : Int), .string T], .int .i64 t, .int .i64 f, .func (.func 73) #[] #[.pointer (some ⟨G + 2, 0, none⟩), .pointer (some ⟨G + 3, 0, none⟩), .pointer (some ⟨G + 4, 0, none⟩)], .int .i64 (x : Int), undef, undef, undef, undef, undef], defers := [] }
  case assign =>
    intro l x W1 K hK
    gi_wp2
    exact hK
  case body =>
    rintro l pre x W1 ⟨⟨v, hv, hr, _⟩, hE, hs⟩ hlt
    obtain ⟨i0, hi0, hz0, hz1, hz2⟩ := info_parts infoI
    have hr1 := hr.kept (World.grownBy_alloc W1 (.cells #[.int .i64 (x : Int)] 3) none) (by
      rcases hr.2 with ⟨rfl, _⟩ | ⟨g', cap, cur, rfl, _⟩
      · exact .inl rfl
      · exact .inr (by simp [Value.ownBlock]))
    obtain ⟨v9, w9, hrun, ho, hg⟩ := run_app_own (P := Try.prog) 66 66 66 3 i0 (.int .i64 0) 1 8 Try.underlying66 hi0 hz0 hz1 hz2 rfl (G + 5) v pre.length (nums pre) hr1 _ [x].length (nums [x]) (src_num W1 x) (by unfold maxLen; simp; omega) (by simp; omega) (by rw [World.size_alloc]; omega)
    obtain ⟨⟨hc9, hf9⟩, hA, hKO, hKA⟩ := aIn_put (bm := G + 2) (bf := G + 4) hv hr hE (by omega) (by omega) (by omega) (by omega) (by omega) (by omega) (by omega) (by omega) (by omega) hs ho hg
    obtain ⟨A9, k9, rfl, _⟩ := own_shape ho
    have hc := hv.cell
    have HA := Lib.hid hA; have HKO := Lib.hid hKO; have HKA := Lib.hid hKA; have HRUN := Lib.hid hrun
    clear hA hKO hKA hrun ho hg hr1 hv hr hE hi0 hz0 hz1 hz2
    gi_wp2_with (gi_at_builtin; refine wpListIn_of_append rfl (.tmp 14) (.tmp 16) 66 66 rfl _ _ rfl rfl HRUN.out ?_)
    exact ⟨HKO.out, HKA.out, HA.out⟩
  case done =>
    rintro D xs W1 hD rfl ⟨⟨v, hv, hr, _⟩, hE, _⟩ hK
    have hc := hv.cell
    gi_wp2
    refine ⟨by simp, .inl ⟨_, _, rfl, run_takeDeferred hK, ?_⟩⟩
    refine ⟨_, results_tmp rfl _ _ _, ?_⟩
    have hlow : W1.ownsRow w.heap.size 3 1 v xs.length (nums xs) := by
      rcases hr with ⟨hl, hq | ⟨g, cap, cur, hv', hb, r⟩⟩
      · exact ⟨hl, .inl hq⟩
      · exact ⟨hl, .inr ⟨g, cap, cur, hv', by omega, r⟩⟩
    exact ⟨v, rfl, ownsRow_putObj hlow _ hK rfl, hE.trans (belowK_b (w := w) (Nat.le_refl _) W1 D _ _ (by have := hE0.size; omega) hK rfl rfl)⟩
theorem around (W H P t : Nat) (f : Int) (T : ByteArray) (w : World) (hW : 4 ≤ W) (hW2 : W ≤ 64) (hH : 4 ≤ H) (hH2 : H ≤ 64) (hP : P = W * H) (hT : T.size = P) (ht : t < P) (hf1 : -9223372036854775808 ≤ f) (hf2 : f ≤ 9223372036854775807) :
    Calls Try.prog 45 #[.agg #[.int .i64 (W : Int), .int .i64 (H : Int), .string T], .int .i64 (t : Int), .int .i64 f] w (NxPost w (upto W t f P)) :=
  around_of W H P (t : Int) f T _ w (by rw [hP]; exact Nat.mul_le_mul hW2 hH2) (fun l bm bt bf J hY hA hSt W0 hne hm hbt hbf hne2 h0 => within1_in 5 (by omega) l bm bt bf W H P t f T J hW hW2 hH hH2 hP hT ht hf1 hf2 hY hA hSt W0 hne hm hbt hbf hne2 h0)
set_option maxHeartbeats 4000000 in
set_option maxRecDepth 100000 in
theorem around_no (W H : Nat) (x f : Int) (T : ByteArray) (w : World) (hW : 4 ≤ W) (hs : T.size ≤ 5000) (hx : x < 0 ∨ (T.size : Int) ≤ x) :
    Calls Try.prog 45 #[.agg #[.int .i64 (W : Int), .int .i64 (H : Int), .string T], .int .i64 x, .int .i64 f] w (NxPost w []) := by
  refine around_of W H 0 x f T [] w (by omega) (fun l bm bt bf J hY hA hSt W0 hne hm hbt hbf hne2 h0 => ?_)
  have HON := Lib.hid (fun w1 => on_no W H x T w1 hW hs hx)
  have HA := Lib.hid hA
  obtain ⟨m0, m1, m2⟩ := map_cells hm
  have t0 : W0.cell? ⟨bt, 0, none⟩ = some (.int .i64 x) := hbt.cell 0
  have HJ0 := Lib.hid h0
  clear hY hA hSt hm hbt hbf h0 hx
  refine callsIn_of_wp Try.func73 rfl trivial ?_ rfl
  simp only [Try.ntmps73, List.size_toArray, List.length_cons, List.length_nil, Nat.reduceAdd, Nat.reduceSub, Array.replicate_succ, Array.replicate_zero, List.push_toArray, List.append_toArray, List.nil_append, List.cons_append]
  gi_wp2_with fail
  refine ⟨trivial, (callsIn_wide.2 (HON.out _)).mono ?_⟩
  rintro e w1 ⟨rfl, b1⟩
  have HJ1 := Lib.hid (HA.out _ _ _ HJ0.out b1)
  clear b1
  gi_wp2_with fail
  refine bodyPost_ret (results_none rfl _ _ _) rfl ?_
  exact ⟨⟨_, rfl⟩, [], rfl, HJ1.out⟩
end Go.Proofs.Ytdbjknljdplinaa.Grid
