/- Path: Push of the heap of open tiles. -/
import Derived.Test.YtmceaocknlnmpaaPthG
import Derived.Test.YtmceaocknlnmpaaP1
import Derived.Test.YtmceaocknlnmpaaRnd
namespace Go.Proofs.Ytmceaocknlnmpaa.Pth
open Go.ChangeShapes Go.WideShapes Go.ChangeAt Go.RowKit
open Go.Proofs.Ytmceaocknlnmpaa.Rec
set_option linter.unusedVariables false
theorem infoN : (Try.prog.info? 51).map (fun i => (i.zero, i.size, i.bytes)) = some (some (.agg #[.int .i64 0, .int .i64 0, .int .i64 0]), 3, 24) := by kernel_rfl
theorem own_off {base B : Nat} {q : List Nd} {w : World} {v : Value} {cs : Array Value} (hO : OwnR base w 51 3 cNd v q) (hB : Blk w B 48 cs) : Off v B := fun e => by
  rcases hO.2 with ⟨h', _⟩ | ⟨g', cap', cur, h', hb, hg, _⟩
  · rw [h'] at e; simp [Value.ownBlock] at e
  · rw [h'] at e
    obtain rfl : g' = B := Option.some.inj e
    unfold Blk at hB
    rw [hB] at hg
    simp at hg
/-- What is done to the heap of open tiles: only the variable's block and the row's own have changed; the row stands there still, or in a new block. -/
structure HS (w w' : World) (B : Nat) (v v' : Value) : Prop where
  os : w'.os = w.os
  tape : w'.tape = w.tape
  output : w'.output = w.output
  size : w.heap.size ≤ w'.heap.size
  block : ∀ b, b < w.heap.size → b ≠ B → Off v b → w'.heap[b]? = w.heap[b]?
  own : v'.ownBlock = v.ownBlock ∨ ∀ k, v'.ownBlock = some k → w.heap.size ≤ k
theorem HS.off {w w' : World} {B b : Nat} {v v' : Value} (h : HS w w' B v v') (ho : Off v b) (hb : b < w.heap.size) : Off v' b := by
  rcases h.own with h1 | h1
  · unfold Off; rw [h1]; exact ho
  · intro e; have := h1 b e; omega
theorem HS.trans {a b c : World} {B : Nat} {v v' v'' : Value} (h : HS a b B v v') (k : HS b c B v' v'') : HS a c B v v'' := by
  refine ⟨k.os.trans h.os, k.tape.trans h.tape, k.output.trans h.output, Nat.le_trans h.size k.size, fun i hi hne ho => (k.block i (Nat.lt_of_lt_of_le hi h.size) hne (h.off ho hi)).trans (h.block i hi hne ho), ?_⟩
  rcases k.own with e | e
  · rw [e]; exact h.own
  · exact .inr fun i hi => Nat.le_trans h.size (e i hi)
theorem HS.ext {a b : World} (h : Ext a b) (B : Nat) (v : Value) : HS a b B v v := ⟨h.os, h.tape, h.output, h.size, fun i hi _ _ => h.block i hi, .inl rfl⟩
theorem HS.grew {a b : World} {v v' : Value} (h : Grew a b v v') (B : Nat) : HS a b B v v' := ⟨h.1.os, h.1.tape, h.1.output, h.1.size, fun i hi _ ho => h.1.block i hi (Ne.symm ho), h.2⟩
theorem HS.var {a b : World} {B : Nat} (h : a.grownBy b (some B)) (v v' : Value) (hv : v'.ownBlock = v.ownBlock) : HS a b B v v' := ⟨h.os, h.tape, h.output, h.size, fun i hi hne _ => h.block i hi (fun e => hne (Option.some.inj e)), .inl hv⟩
theorem HS.row {a b : World} {v : Value} (h : a.grownBy b v.ownBlock) (B : Nat) : HS a b B v v := ⟨h.os, h.tape, h.output, h.size, fun i hi _ ho => h.block i hi (Ne.symm ho), .inl rfl⟩
section
variable {base B b A n c : Nat} {m0 m1 m2 bu tv nv mp v : Value} {W : World}
theorem c6 (h : Blk W B 48 (sC m0 m1 m2 bu tv nv mp v)) : W.cell? ⟨B, 6, none⟩ = some v := h.cell 6
theorem c3 {x y z : Value} (h : Blk W b 51 #[x, y, z]) : W.cell? ⟨b, 0, none⟩ = some x ∧ W.cell? ⟨b, 1, none⟩ = some y ∧ W.cell? ⟨b, 2, none⟩ = some z := ⟨h.cell 0, h.cell 1, h.cell 2⟩
end
def HX (base B b : Nat) (m0 m1 m2 bu tv nv mp v : Value) (q : List Nd) (cs : Array Value) (w W : World) : Prop :=
  Blk W B 48 (sC m0 m1 m2 bu tv nv mp v) ∧ Blk W b 51 cs ∧ OwnR base W 51 3 cNd v q ∧ base ≤ W.heap.size ∧ Ext w W
theorem hx_alloc {base B b : Nat} {m0 m1 m2 bu tv nv mp v : Value} {q : List Nd} {cs : Array Value} {w W : World} (h : HX base B b m0 m1 m2 bu tv nv mp v q cs w W) (o : Obj) : HX base B b m0 m1 m2 bu tv nv mp v q cs w (W.alloc o) :=
  ⟨h.1.alloc o, h.2.1.alloc o, h.2.2.1.ext (ext_alloc (Ext.rfl' W) o), Nat.le_trans h.2.2.2.1 (ext_alloc (Ext.rfl' W) o).size, ext_alloc h.2.2.2.2 o⟩
theorem hx_end {base B b : Nat} {m0 m1 m2 bu tv nv mp v v' : Value} {q q' : List Nd} {cs : Array Value} {w W W' : World} (h : HX base B b m0 m1 m2 bu tv nv mp v q cs w W) (hO : OwnR base W' 51 3 cNd v' q') (hG : Grew W W' v v') :
    Blk W' B 48 (sC m0 m1 m2 bu tv nv mp v) ∧ (∃ A n c, v' = .slice A n c) ∧ Blk (W'.setCell ⟨B, 6, none⟩ v') B 48 (sC m0 m1 m2 bu tv nv mp v') ∧ OwnR base (W'.setCell ⟨B, 6, none⟩ v') 51 3 cNd v' q' ∧ HS w (W'.setCell ⟨B, 6, none⟩ v') B v v' := by
  have hB : Blk W' B 48 (sC m0 m1 m2 bu tv nv mp v) := hG.blk (own_off h.2.2.1 h.1) h.1
  have hg : W'.grownBy (W'.setCell ⟨B, 6, none⟩ v') (some B) := ⟨rfl, rfl, rfl, by simp [World.setCell], fun k _ hk => Below.heap_setCell W' ⟨B, 6, none⟩ _ k (fun e => hk (by rw [e]))⟩
  obtain ⟨A, c, hv, _⟩ := hO.shape
  refine ⟨hB, ⟨A, _, c, hv⟩, hB.set_ 6 v', World.ownsRow.kept hO hg (.inr (own_off hO hB)), ((HS.ext h.2.2.2.2 B v).trans (HS.grew hG B)).trans (HS.var hg _ _ rfl)⟩
theorem ta_node (v : Value) (w : World) : (Instr.typeAssert (.iface 51 v) 20 51 true).run Try.prog w = .ok (.tuple #[v, .bool true]) w := by kernel_rfl
set_option maxHeartbeats 4000000 in
set_option maxRecDepth 100000 in
theorem push_st (base B n c : Nat) (A : Option Addr) (m0 m1 m2 bu tv nv mp : Value) (q : List Nd) (xt xg xh : Nat) (w : World) (hB : Blk w B 48 (sC m0 m1 m2 bu tv nv mp (.slice A n c))) (hO : OwnR base w 51 3 cNd (.slice A n c) q) (hb : base ≤ w.heap.size) (hn : q.length ≤ 100000) :
    Calls Try.prog 58 #[.pointer (some ⟨B, 6, none⟩), .iface 51 (.agg #[.int .i64 (xt : Int), .int .i64 (xg : Int), .int .i64 (xh : Int)])] w fun e w' => e = .returned (.tuple #[]) ∧ ∃ v', Blk w' B 48 (sC m0 m1 m2 bu tv nv mp v') ∧ OwnR base w' 51 3 cNd v' (q ++ [(xt, xg, xh)]) ∧ HS w w' B (.slice A n c) v' := by
  have HX0 : Hid (HX base B w.heap.size m0 m1 m2 bu tv nv mp (.slice A n c) q #[.int .i64 (xt : Int), .int .i64 (xg : Int), .int .i64 (xh : Int)] w (w.alloc (.cells #[.int .i64 (xt : Int), .int .i64 (xg : Int), .int .i64 (xh : Int)] 51))) :=
    Lib.hid ⟨hB.alloc _, Blk.new w _ _, hO.ext (ext_alloc (Ext.rfl' w) _), Nat.le_trans hb (ext_alloc (Ext.rfl' w) _).size, ext_alloc (Ext.rfl' w) _⟩
  clear hB hO hb
  have hta := ta_node (.agg #[.int .i64 (xt : Int), .int .i64 (xg : Int), .int .i64 (xh : Int)])
  go_enter Try.func58, Try.ntmps58
  go_upto_region 2 with fail
  generalize w.alloc (.cells #[.int .i64 (xt : Int), .int .i64 (xg : Int), .int .i64 (xh : Int)] 51) = w1 at *
  obtain ⟨b, hb⟩ : ∃ b, b = w.heap.size := ⟨_, rfl⟩
  rw [← hb] at HX0 ⊢
  clear hb
  have HX : Hid (HX base B b m0 m1 m2 bu tv nv mp (.slice A n c) q #[.int .i64 (xt : Int), .int .i64 (xg : Int), .int .i64 (xh : Int)] w w1.drew) := Lib.hid ⟨HX0.out.1, HX0.out.2.1, HX0.out.2.2.1, HX0.out.2.2.2.1, ext_drew HX0.out.2.2.2.2⟩
  clear HX0
  refine wp_region_held_drew (S := fun _ => True) hmxP trivial (fun _ => ?_)
  generalize w1.drew = WA at *
  (refine wpAnyH_take (i := 0) (oi := { dst := some 12, op := Go.Op.move (Go.Operand.tmp 0), type := 68, pos := "path.go:38", after := #[], guard := none }) (v := ?_) rfl (by kernel_rfl) (by kernel_rfl) (by kernel_rfl) (fun _ _ _ h => h) (Or.inl ⟨by rfl, ?_⟩) trivial ?_); rotate_left
  · (intro w' hSw; go_simp; try with_reducible rfl)
  (try simp only [Act.put, List.setIfInBounds_toArray, List.set_cons_zero, List.set_cons_succ])
  (refine wpAnyH_take (i := 1) (oi := { dst := some 13, op := Go.Op.move (Go.Operand.tmp 0), type := 68, pos := "path.go:38", after := #[], guard := none }) (v := ?_) rfl (by kernel_rfl) (by kernel_rfl) (by kernel_rfl) (fun _ _ _ h => h) (Or.inl ⟨by rfl, ?_⟩) trivial ?_); rotate_left
  · (intro w' hSw; go_simp; try with_reducible rfl)
  (try simp only [Act.put, List.setIfInBounds_toArray, List.set_cons_zero, List.set_cons_succ])
  (refine wpAnyH_take (i := 2) (oi := { dst := some 14, op := Go.Op.nilCheck (Go.Operand.tmp 13), type := 0, pos := "path.go:38", after := #[{ on := 1, ground := Go.Ground.data }], guard := none }) (v := ?_) rfl (by kernel_rfl) (by kernel_rfl) (by kernel_rfl) (fun _ _ _ h => h) (Or.inl ⟨by rfl, ?_⟩) trivial ?_); rotate_left
  · (intro w' hSw; go_simp; try with_reducible rfl)
  (try simp only [Act.put, List.setIfInBounds_toArray, List.set_cons_zero, List.set_cons_succ])
  refine wpAnyH_ready (rs := [3, 4]) (by kernel_rfl) (by simp) ?_
  refine AllReadyH.cons (o := { dst := some 15, op := Go.Op.load 46 (Go.Operand.tmp 14), type := 46, pos := "path.go:38", after := #[{ on := 2, ground := Go.Ground.data }], guard := none }) (by kernel_rfl) (fun K hK => ?_) (AllReadyH.cons (o := { dst := some 16, op := Go.Op.load 51 (Go.Operand.tmp 4), type := 51, pos := "path.go:38", after := #[], guard := none }) (by kernel_rfl) (fun K hK => ?_) AllReadyH.nil)
  · have b6 := c6 HX.out.1
    go_simp
    clear b6
    refine hK.out _ _ trivial (fun _ => ?_)
    clear hK K
    (try simp only [Act.put, List.setIfInBounds_toArray, List.set_cons_zero, List.set_cons_succ])
    refine wpAnyH_ready (rs := [4]) (by kernel_rfl) (by simp) ?_
    refine AllReadyH.cons (o := { dst := some 16, op := Go.Op.load 51 (Go.Operand.tmp 4), type := 51, pos := "path.go:38", after := #[], guard := none }) (by kernel_rfl) (fun K hK => ?_) AllReadyH.nil
    obtain ⟨n0, n1, n2⟩ := c3 HX.out.2.1
    go_simp
    clear n0 n1 n2
    refine hK.out _ _ trivial (fun _ => ?_)
    clear hK K
    (try simp only [Act.put, List.setIfInBounds_toArray, List.set_cons_zero, List.set_cons_succ])
    refine wpAnyH_ready (rs := [5]) (by kernel_rfl) (by simp) ?_
    refine AllReadyH.cons (o := { dst := some 17, op := Go.Op.buildSlice 46 1 #[(0, Go.Operand.tmp 16)], type := 46, pos := "path.go:38", after := #[{ on := 4, ground := Go.Ground.data }], guard := none }) (by kernel_rfl) (fun K hK => ?_) AllReadyH.nil
    go_simp
    have HSRC := Lib.hid (src_rec (P := Try.prog) (e' := 51) Try.underlying46 WA (cNd (xt, xg, xh)) rfl (by intro u hu; simp [cNd] at hu; rcases hu with rfl | rfl | rfl <;> rfl) 1)
    have HX := Lib.hid (hx_alloc HX.out (.cells #[.int .i64 (xt : Int), .int .i64 (xg : Int), .int .i64 (xh : Int)] 51))
    have hWD : WA.alloc (.cells (cNd (xt, xg, xh)).toArray 51) = WA.alloc (.cells #[.int .i64 (xt : Int), .int .i64 (xg : Int), .int .i64 (xh : Int)] 51) := rfl
    rw [hWD] at HSRC
    clear hWD
    generalize WA.alloc (.cells #[.int .i64 (xt : Int), .int .i64 (xg : Int), .int .i64 (xh : Int)] 51) = WB at *
    refine hK.out _ _ trivial (fun _ => ?_)
    clear hK K
    (try simp only [Act.put, List.setIfInBounds_toArray, List.set_cons_zero, List.set_cons_succ])
    refine wpAnyH_ready (rs := [6]) (by kernel_rfl) (by simp) ?_
    refine AllReadyH.cons (o := { dst := some 18, op := Go.Op.call { callee := Go.Callee.builtin Go.Builtin.append, args := #[Go.Operand.tmp 15, Go.Operand.tmp 17], argTypes := #[46, 46] }, type := 46, pos := "path.go:38", after := #[{ on := 3, ground := Go.Ground.data }, { on := 5, ground := Go.Ground.data }], guard := none }) (by kernel_rfl) (fun K hK => ?_) AllReadyH.nil
    obtain ⟨v3, w3, hrun, hO3, hG3⟩ := run_rec3 (P := Try.prog) (base := base) 46 51 46 3 24 _ cNd Try.underlying46 infoN rfl (by decide) (.slice A n c) _ q (xt, xg, xh) HX.out.2.2.1 HX.out.2.2.2.1 HSRC.out (by omega)
    have HY := Lib.hid (And.intro hO3 hG3)
    have HRUN := Lib.hid hrun
    have HF := Lib.hid (hx_end HX.out hO3 hG3)
    clear hrun hO3 hG3
    refine wanted_append rfl (.tmp 15) (.tmp 17) 46 46 rfl (.slice A n c) _ rfl rfl HRUN.out ?_
    refine hK.out _ _ trivial (fun _ => ?_)
    clear hK K
    (try simp only [Act.put, List.setIfInBounds_toArray, List.set_cons_zero, List.set_cons_succ])
    (refine wpAnyH_take (i := 7) (oi := { dst := some 19, op := Go.Op.nilCheck (Go.Operand.tmp 12), type := 0, pos := "path.go:38", after := #[{ on := 0, ground := Go.Ground.data }, { on := 0, ground := Go.Ground.phase }, { on := 1, ground := Go.Ground.phase }, { on := 2, ground := Go.Ground.phase }, { on := 3, ground := Go.Ground.phase }, { on := 4, ground := Go.Ground.phase }, { on := 5, ground := Go.Ground.phase }, { on := 6, ground := Go.Ground.phase }], guard := none }) (v := ?_) rfl (by kernel_rfl) (by kernel_rfl) (by kernel_rfl) (fun _ _ _ h => h) (Or.inl ⟨by rfl, ?_⟩) trivial ?_); rotate_left
    · (intro w' hSw; go_simp; try with_reducible rfl)
    (try simp only [Act.put, List.setIfInBounds_toArray, List.set_cons_zero, List.set_cons_succ])
    refine wpAnyH_ready (rs := [8]) (by kernel_rfl) (by simp) ?_
    refine AllReadyH.cons (o := { dst := none, op := Go.Op.store 46 (Go.Operand.tmp 19) (Go.Operand.tmp 18), type := 0, pos := "path.go:38", after := #[{ on := 7, ground := Go.Ground.data }, { on := 6, ground := Go.Ground.data }, { on := 6, ground := Go.Ground.chain }, { on := 0, ground := Go.Ground.phase }, { on := 1, ground := Go.Ground.phase }, { on := 2, ground := Go.Ground.phase }, { on := 3, ground := Go.Ground.phase }, { on := 4, ground := Go.Ground.phase }, { on := 5, ground := Go.Ground.phase }, { on := 6, ground := Go.Ground.phase }], guard := none }) (by kernel_rfl) (fun K hK => ?_) AllReadyH.nil
    have b6 := c6 HF.out.1
    have f6 := HF.out.1.frozen 6
    obtain ⟨Ay, ny, cy, rfl⟩ := HF.out.2.1
    go_simp
    refine hK.out _ _ trivial (fun _ => ?_)
    clear hK K
    (try simp only [Act.put, List.setIfInBounds_toArray, List.set_cons_zero, List.set_cons_succ])
    refine wpAnyH_done (by kernel_rfl) ?_ _
    go_wp2_with fail
    go_end0
    exact ⟨rfl, _, HF.out.2.2⟩
  · obtain ⟨n0, n1, n2⟩ := c3 HX.out.2.1
    go_simp
    clear n0 n1 n2
    refine hK.out _ _ trivial (fun _ => ?_)
    clear hK K
    (try simp only [Act.put, List.setIfInBounds_toArray, List.set_cons_zero, List.set_cons_succ])
    refine wpAnyH_ready (rs := [3, 5]) (by kernel_rfl) (by simp) ?_
    refine AllReadyH.cons (o := { dst := some 15, op := Go.Op.load 46 (Go.Operand.tmp 14), type := 46, pos := "path.go:38", after := #[{ on := 2, ground := Go.Ground.data }], guard := none }) (by kernel_rfl) (fun K hK => ?_) (AllReadyH.cons (o := { dst := some 17, op := Go.Op.buildSlice 46 1 #[(0, Go.Operand.tmp 16)], type := 46, pos := "path.go:38", after := #[{ on := 4, ground := Go.Ground.data }], guard := none }) (by kernel_rfl) (fun K hK => ?_) AllReadyH.nil)
    · have b6 := c6 HX.out.1
      go_simp
      clear b6
      refine hK.out _ _ trivial (fun _ => ?_)
      clear hK K
      (try simp only [Act.put, List.setIfInBounds_toArray, List.set_cons_zero, List.set_cons_succ])
      refine wpAnyH_ready (rs := [5]) (by kernel_rfl) (by simp) ?_
      refine AllReadyH.cons (o := { dst := some 17, op := Go.Op.buildSlice 46 1 #[(0, Go.Operand.tmp 16)], type := 46, pos := "path.go:38", after := #[{ on := 4, ground := Go.Ground.data }], guard := none }) (by kernel_rfl) (fun K hK => ?_) AllReadyH.nil
      go_simp
      have HSRC := Lib.hid (src_rec (P := Try.prog) (e' := 51) Try.underlying46 WA (cNd (xt, xg, xh)) rfl (by intro u hu; simp [cNd] at hu; rcases hu with rfl | rfl | rfl <;> rfl) 1)
      have HX := Lib.hid (hx_alloc HX.out (.cells #[.int .i64 (xt : Int), .int .i64 (xg : Int), .int .i64 (xh : Int)] 51))
      have hWD : WA.alloc (.cells (cNd (xt, xg, xh)).toArray 51) = WA.alloc (.cells #[.int .i64 (xt : Int), .int .i64 (xg : Int), .int .i64 (xh : Int)] 51) := rfl
      rw [hWD] at HSRC
      clear hWD
      generalize WA.alloc (.cells #[.int .i64 (xt : Int), .int .i64 (xg : Int), .int .i64 (xh : Int)] 51) = WB at *
      refine hK.out _ _ trivial (fun _ => ?_)
      clear hK K
      (try simp only [Act.put, List.setIfInBounds_toArray, List.set_cons_zero, List.set_cons_succ])
      refine wpAnyH_ready (rs := [6]) (by kernel_rfl) (by simp) ?_
      refine AllReadyH.cons (o := { dst := some 18, op := Go.Op.call { callee := Go.Callee.builtin Go.Builtin.append, args := #[Go.Operand.tmp 15, Go.Operand.tmp 17], argTypes := #[46, 46] }, type := 46, pos := "path.go:38", after := #[{ on := 3, ground := Go.Ground.data }, { on := 5, ground := Go.Ground.data }], guard := none }) (by kernel_rfl) (fun K hK => ?_) AllReadyH.nil
      obtain ⟨v3, w3, hrun, hO3, hG3⟩ := run_rec3 (P := Try.prog) (base := base) 46 51 46 3 24 _ cNd Try.underlying46 infoN rfl (by decide) (.slice A n c) _ q (xt, xg, xh) HX.out.2.2.1 HX.out.2.2.2.1 HSRC.out (by omega)
      have HY := Lib.hid (And.intro hO3 hG3)
      have HRUN := Lib.hid hrun
      have HF := Lib.hid (hx_end HX.out hO3 hG3)
      clear hrun hO3 hG3
      refine wanted_append rfl (.tmp 15) (.tmp 17) 46 46 rfl (.slice A n c) _ rfl rfl HRUN.out ?_
      refine hK.out _ _ trivial (fun _ => ?_)
      clear hK K
      (try simp only [Act.put, List.setIfInBounds_toArray, List.set_cons_zero, List.set_cons_succ])
      (refine wpAnyH_take (i := 7) (oi := { dst := some 19, op := Go.Op.nilCheck (Go.Operand.tmp 12), type := 0, pos := "path.go:38", after := #[{ on := 0, ground := Go.Ground.data }, { on := 0, ground := Go.Ground.phase }, { on := 1, ground := Go.Ground.phase }, { on := 2, ground := Go.Ground.phase }, { on := 3, ground := Go.Ground.phase }, { on := 4, ground := Go.Ground.phase }, { on := 5, ground := Go.Ground.phase }, { on := 6, ground := Go.Ground.phase }], guard := none }) (v := ?_) rfl (by kernel_rfl) (by kernel_rfl) (by kernel_rfl) (fun _ _ _ h => h) (Or.inl ⟨by rfl, ?_⟩) trivial ?_); rotate_left
      · (intro w' hSw; go_simp; try with_reducible rfl)
      (try simp only [Act.put, List.setIfInBounds_toArray, List.set_cons_zero, List.set_cons_succ])
      refine wpAnyH_ready (rs := [8]) (by kernel_rfl) (by simp) ?_
      refine AllReadyH.cons (o := { dst := none, op := Go.Op.store 46 (Go.Operand.tmp 19) (Go.Operand.tmp 18), type := 0, pos := "path.go:38", after := #[{ on := 7, ground := Go.Ground.data }, { on := 6, ground := Go.Ground.data }, { on := 6, ground := Go.Ground.chain }, { on := 0, ground := Go.Ground.phase }, { on := 1, ground := Go.Ground.phase }, { on := 2, ground := Go.Ground.phase }, { on := 3, ground := Go.Ground.phase }, { on := 4, ground := Go.Ground.phase }, { on := 5, ground := Go.Ground.phase }, { on := 6, ground := Go.Ground.phase }], guard := none }) (by kernel_rfl) (fun K hK => ?_) AllReadyH.nil
      have b6 := c6 HF.out.1
      have f6 := HF.out.1.frozen 6
      obtain ⟨Ay, ny, cy, rfl⟩ := HF.out.2.1
      go_simp
      refine hK.out _ _ trivial (fun _ => ?_)
      clear hK K
      (try simp only [Act.put, List.setIfInBounds_toArray, List.set_cons_zero, List.set_cons_succ])
      refine wpAnyH_done (by kernel_rfl) ?_ _
      go_wp2_with fail
      go_end0
      exact ⟨rfl, _, HF.out.2.2⟩
    · go_simp
      have HSRC := Lib.hid (src_rec (P := Try.prog) (e' := 51) Try.underlying46 WA (cNd (xt, xg, xh)) rfl (by intro u hu; simp [cNd] at hu; rcases hu with rfl | rfl | rfl <;> rfl) 1)
      have HX := Lib.hid (hx_alloc HX.out (.cells #[.int .i64 (xt : Int), .int .i64 (xg : Int), .int .i64 (xh : Int)] 51))
      have hWD : WA.alloc (.cells (cNd (xt, xg, xh)).toArray 51) = WA.alloc (.cells #[.int .i64 (xt : Int), .int .i64 (xg : Int), .int .i64 (xh : Int)] 51) := rfl
      rw [hWD] at HSRC
      clear hWD
      generalize WA.alloc (.cells #[.int .i64 (xt : Int), .int .i64 (xg : Int), .int .i64 (xh : Int)] 51) = WB at *
      refine hK.out _ _ trivial (fun _ => ?_)
      clear hK K
      (try simp only [Act.put, List.setIfInBounds_toArray, List.set_cons_zero, List.set_cons_succ])
      refine wpAnyH_ready (rs := [3]) (by kernel_rfl) (by simp) ?_
      refine AllReadyH.cons (o := { dst := some 15, op := Go.Op.load 46 (Go.Operand.tmp 14), type := 46, pos := "path.go:38", after := #[{ on := 2, ground := Go.Ground.data }], guard := none }) (by kernel_rfl) (fun K hK => ?_) AllReadyH.nil
      have b6 := c6 HX.out.1
      go_simp
      clear b6
      refine hK.out _ _ trivial (fun _ => ?_)
      clear hK K
      (try simp only [Act.put, List.setIfInBounds_toArray, List.set_cons_zero, List.set_cons_succ])
      refine wpAnyH_ready (rs := [6]) (by kernel_rfl) (by simp) ?_
      refine AllReadyH.cons (o := { dst := some 18, op := Go.Op.call { callee := Go.Callee.builtin Go.Builtin.append, args := #[Go.Operand.tmp 15, Go.Operand.tmp 17], argTypes := #[46, 46] }, type := 46, pos := "path.go:38", after := #[{ on := 3, ground := Go.Ground.data }, { on := 5, ground := Go.Ground.data }], guard := none }) (by kernel_rfl) (fun K hK => ?_) AllReadyH.nil
      obtain ⟨v3, w3, hrun, hO3, hG3⟩ := run_rec3 (P := Try.prog) (base := base) 46 51 46 3 24 _ cNd Try.underlying46 infoN rfl (by decide) (.slice A n c) _ q (xt, xg, xh) HX.out.2.2.1 HX.out.2.2.2.1 HSRC.out (by omega)
      have HY := Lib.hid (And.intro hO3 hG3)
      have HRUN := Lib.hid hrun
      have HF := Lib.hid (hx_end HX.out hO3 hG3)
      clear hrun hO3 hG3
      refine wanted_append rfl (.tmp 15) (.tmp 17) 46 46 rfl (.slice A n c) _ rfl rfl HRUN.out ?_
      refine hK.out _ _ trivial (fun _ => ?_)
      clear hK K
      (try simp only [Act.put, List.setIfInBounds_toArray, List.set_cons_zero, List.set_cons_succ])
      (refine wpAnyH_take (i := 7) (oi := { dst := some 19, op := Go.Op.nilCheck (Go.Operand.tmp 12), type := 0, pos := "path.go:38", after := #[{ on := 0, ground := Go.Ground.data }, { on := 0, ground := Go.Ground.phase }, { on := 1, ground := Go.Ground.phase }, { on := 2, ground := Go.Ground.phase }, { on := 3, ground := Go.Ground.phase }, { on := 4, ground := Go.Ground.phase }, { on := 5, ground := Go.Ground.phase }, { on := 6, ground := Go.Ground.phase }], guard := none }) (v := ?_) rfl (by kernel_rfl) (by kernel_rfl) (by kernel_rfl) (fun _ _ _ h => h) (Or.inl ⟨by rfl, ?_⟩) trivial ?_); rotate_left
      · (intro w' hSw; go_simp; try with_reducible rfl)
      (try simp only [Act.put, List.setIfInBounds_toArray, List.set_cons_zero, List.set_cons_succ])
      refine wpAnyH_ready (rs := [8]) (by kernel_rfl) (by simp) ?_
      refine AllReadyH.cons (o := { dst := none, op := Go.Op.store 46 (Go.Operand.tmp 19) (Go.Operand.tmp 18), type := 0, pos := "path.go:38", after := #[{ on := 7, ground := Go.Ground.data }, { on := 6, ground := Go.Ground.data }, { on := 6, ground := Go.Ground.chain }, { on := 0, ground := Go.Ground.phase }, { on := 1, ground := Go.Ground.phase }, { on := 2, ground := Go.Ground.phase }, { on := 3, ground := Go.Ground.phase }, { on := 4, ground := Go.Ground.phase }, { on := 5, ground := Go.Ground.phase }, { on := 6, ground := Go.Ground.phase }], guard := none }) (by kernel_rfl) (fun K hK => ?_) AllReadyH.nil
      have b6 := c6 HF.out.1
      have f6 := HF.out.1.frozen 6
      obtain ⟨Ay, ny, cy, rfl⟩ := HF.out.2.1
      go_simp
      refine hK.out _ _ trivial (fun _ => ?_)
      clear hK K
      (try simp only [Act.put, List.setIfInBounds_toArray, List.set_cons_zero, List.set_cons_succ])
      refine wpAnyH_done (by kernel_rfl) ?_ _
      go_wp2_with fail
      go_end0
      exact ⟨rfl, _, HF.out.2.2⟩
end Go.Proofs.Ytmceaocknlnmpaa.Pth
