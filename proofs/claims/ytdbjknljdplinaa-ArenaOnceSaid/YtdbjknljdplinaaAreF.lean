/- The code's arena and the document's are the same. -/
import Derived.Test.YtdbjknljdplinaaAreE
namespace Go.Proofs.Ytdbjknljdplinaa.Arena
open Go.ChangeShapes Go.WideShapes Go.ChangeAt Go.RowKit
set_option linter.unusedVariables false

theorem wpList_load_rowW {P : Program} {ops : Array Oper} {rest : List Oper} {o : Oper} {a : Act} {w : World} {Q : Exit → Act → World → Prop} (hw : Region.wanted o (yielded ops a.tmps) = true) (ty : TypeId) (x : Operand) (ho : o.op = .load ty x)
    (g : Nat) (hx : a.eval x = .pointer (some ⟨g, 0, none⟩)) (t : TypeId) (cs : Array Value) (fr : Nat × Nat) (d : TypeDesc) (hg : w.heap[g]? = some (.cells cs t fr))
    (hu : P.underlying ty = some d) (hd : (match d with | .struct _ | .array _ _ => true | _ => false) = true) (hi : (P.info? ty).map (·.size) = some cs.size)
    (h : wpList P ops Q rest (a.put o.dst (.agg cs)) w) : wpList P ops Q (o :: rest) a w :=
  BigFrame.wpList_want hw fun _ hK => wp_load_row ty x ho g hx t cs fr d hg hu hd hi (hK _ _ h)
/-- A slice reads as these ids. -/
def N16 (w : World) (A : Option Addr) (n : Nat) (zs : List Nat) : Prop :=
  zs.length = n ∧ (0 < n → ∃ b o, A = some ⟨b, o, none⟩ ∧ b < w.heap.size ∧ ∀ j, j < n → w.cell? ⟨b, o + j, none⟩ = some (.int .u16 ((zs.getD j 0 : Nat) : Int)))
theorem N16.ext {w w' : World} {A : Option Addr} {n : Nat} {zs : List Nat} (h : N16 w A n zs) (e : Ext w w') : N16 w' A n zs :=
  ⟨h.1, fun hn => by
    obtain ⟨b, o, he, hl, hc⟩ := h.2 hn
    exact ⟨b, o, he, Nat.lt_of_lt_of_le hl e.size, fun j hj => (e.cell (p := ⟨b, o + j, none⟩) hl).trans (hc j hj)⟩⟩
theorem Row16.ns {base : Nat} {w : World} {A : Option Addr} {n c : Nat} {zs : List Nat} (h : Row16 base w (.slice A n c) zs) : n = zs.length ∧ N16 w A zs.length zs := by
  have hl : (u16s zs).length = zs.length := by simp [u16s]
  rcases h.2 with ⟨hv, hq⟩ | ⟨g, cap, cur, hv, hb, hg, h1, h2, h3, h4⟩
  · obtain ⟨h1, h2, h3⟩ := Value.slice.inj hv
    have hz : zs.length = 0 := hq
    exact ⟨by omega, rfl, fun h0 => by omega⟩
  · obtain ⟨e1, e2, e3⟩ := Value.slice.inj hv
    refine ⟨e2, rfl, fun h0 => ⟨g, 0, e1, (Array.getElem?_eq_some_iff.1 hg).1, fun j hj => ?_⟩⟩
    rw [Nat.zero_add, cell_of_row w g j cur _ (0, 0) hg]
    have := congrArg (fun l => l[j]?) h4
    rw [Nat.mul_one] at this
    simp only [List.getElem?_take, if_pos hj] at this
    rw [← Array.getElem?_toList, this]
    simp [u16s, List.getD_eq_getElem?_getD, List.getElem?_eq_getElem hj]
theorem idk_get {g : Nat → Nat} {t : Nat → Bool} {i n : Nat} (hi : i < n) (h : t i = true) : (idk g t n).getD (idk g t i).length 0 = i + 128 * g i ∧ (idk g t i).length < (idk g t n).length := by
  obtain ⟨m, rfl⟩ : ∃ m, n = i + 1 + m := ⟨n - (i + 1), by omega⟩
  have hp : ∀ m, ∃ R, idk g t (i + 1 + m) = idk g t i ++ (i + 128 * g i) :: R := by
    intro m
    induction m with
    | zero => exact ⟨[], idk_yes h⟩
    | succ m ih =>
      obtain ⟨R, hR⟩ := ih
      by_cases hk : t (i + 1 + m) = true
      · exact ⟨R ++ [i + 1 + m + 128 * g (i + 1 + m)], by rw [← Nat.add_assoc, idk_yes hk, hR]; simp⟩
      · exact ⟨R, by rw [← Nat.add_assoc, idk_no (by simpa using hk), hR]⟩
  obtain ⟨R, hR⟩ := hp m
  rw [hR]
  exact ⟨by simp [List.getD_eq_getElem?_getD], by simp⟩
def SE (w0 w : World) : Prop := Ext w0 w
def SmRel (w2 : World) (g : Nat → Nat) (t : Nat → Bool) (nv iv : Value) (wr : World) : Prop :=
  ∃ i : Nat, i ≤ 128 ∧ iv = .int .i64 ((i : Nat) : Int) ∧ nv = .int .i64 (((idk g t i).length : Nat) : Int) ∧ Ext w2 wr
set_option maxHeartbeats 8000000 in
set_option maxRecDepth 100000 in
theorem same (g : Nat → Nat) (t : Nat → Bool) (x : Nat → Int) (w : World) (hg : ∀ i, i < 128 → g i ≤ 512) (hgt : ∀ i, i < 128 → t i = true → g i ≤ 511) :
    Calls Try.prog 58 #[.agg (cA g t x), .agg (cR g t x)] w fun e w' => e = .returned (.bool true) ∧ Ext w w' := by
  have HG := Lib.hid hg; have HGT := Lib.hid hgt
  obtain ⟨CA, hCA⟩ : ∃ CA, CA = cA g t x := ⟨_, rfl⟩
  obtain ⟨CR, hCR⟩ : ∃ CR, CR = cR g t x := ⟨_, rfl⟩
  have HZA : Hid (CA.size = 384) := Lib.hid (by rw [hCA]; exact cA_size)
  have HIDS : Hid (∀ w, Calls Try.prog 59 #[.agg CA] w (IdPost w (idk g t 128))) := Lib.hid (fun w => by rw [hCA]; exact ids g t x w hgt)
  have HGEN : Hid (∀ i : Nat, i < 128 → ∀ w, Calls Try.prog 69 #[.agg CA, .int .i64 (i : Int)] w fun e w' => e = .returned (.int .i64 ((g i : Nat) : Int)) ∧ Ext w w') := Lib.hid (fun i hi w => by rw [hCA]; exact generation g t x i w hi (by have := hg i hi; omega))
  have HFR : Hid (∀ i : Nat, i < 128 → ∀ w, Calls Try.prog 70 #[.agg CA, .int .i64 (i : Int)] w fun e w' => e = .returned (.bool (!t i)) ∧ Ext w w') := Lib.hid (fun i hi w => by rw [hCA]; exact free g t x i w hi)
  have HGET : Hid (∀ i : Nat, i < 128 → t i = true → ∀ w, Calls Try.prog 56 #[.agg CA, .int .u16 ((i + 128 * g i : Nat) : Int)] w fun e w' => e = .returned (.tuple #[.int .i64 (x i), .bool true]) ∧ Ext w w') := Lib.hid (fun i hi ht w => by
    have h5 := hgt i hi ht
    have e1 : (i + 128 * g i) % 128 = i := by omega
    have e2 : (i + 128 * g i) / 128 = g i := by omega
    have h := get g t x (i + 128 * g i) w (by omega) (by rw [e1]; omega)
    have e3 : hs g t (i + 128 * g i) = true := by unfold hs; rw [e1, e2, ht]; simp
    rw [e3, if_pos rfl, e1] at h
    rw [hCA]; exact h)
  have HRG : Hid (∀ i : Nat, i < 128 → CR[i]? = some (.int .i64 ((g i : Nat) : Int))) := Lib.hid (fun i hi => by rw [hCR]; exact cR_g hi)
  have HRX : Hid (∀ i : Nat, i < 128 → CR[128 + i]? = some (.int .i64 (x i))) := Lib.hid (fun i hi => by rw [hCR]; exact cR_x hi)
  have HRT : Hid (∀ i : Nat, i < 128 → CR[256 + i]? = some (.bool (t i))) := Lib.hid (fun i hi => by rw [hCR]; exact cR_t hi)
  rw [← hCA, ← hCR]
  clear hCA hCR hg hgt
  go_enter Try.func58, Try.ntmps58
  go_upto_region 1 with fail
  try simp only [Act.put, List.setIfInBounds_toArray, List.set_cons_zero, List.set_cons_succ, World.size_alloc]
  obtain ⟨w1, hw1⟩ : ∃ W1, W1 = (w.alloc (.cells CA 78)).alloc (.cells CR 82) := ⟨_, rfl⟩
  have B0 := Lib.hid ((Blk.new w 78 CA).alloc (.cells CR 82))
  have B1 := Lib.hid (Blk.new1 w (.cells CA 78) 82 CR)
  have HE := Lib.hid (ext_alloc (ext_alloc (Ext.rfl' w) (.cells CA 78)) (.cells CR 82))
  rw [← hw1] at B0 B1 HE ⊢
  obtain ⟨n0, hn0⟩ : ∃ n, n = w.heap.size := ⟨_, rfl⟩
  rw [← hn0] at B0 B1 ⊢
  clear hw1 hn0
  go_wp2_with (refine wpList_load_row rfl 78 (.tmp 2) rfl n0 rfl 78 CA (0, 0) _ B0.out Try.underlying78 rfl (by rw [HZA.out]; exact sizeA) ?_)
  refine (HIDS.out _).mono ?_
  rintro e w2 ⟨v2, rfl, hR2, b2⟩
  obtain ⟨A2, c2, rfl, _⟩ := own_shape hR2
  have HN2 := Lib.hid (Row16.ns hR2).2
  have B0 := Lib.hid (B0.out.ext b2); have B1 := Lib.hid (B1.out.ext b2); have HE := Lib.hid (ext_trans HE.out b2)
  have hl2 := idk_len g t 128
  clear hR2 b2
  generalize hm : (idk g t 128).length = m at hl2 HN2 ⊢
  have HMM := Lib.hid hm
  clear hm
  go_wp2_with fail
  go_loopw [6, 7] (fun nv iv wr => SmRel w2 g t nv iv wr) (fun _ iv _ => 128 - (intOf iv).toNat)
  case atStart => exact ⟨0, by omega, rfl, rfl, Ext.rfl' _⟩
  case round =>
    obtain ⟨i, hi, rfl, rfl, hE2⟩ := hrel
    obtain ⟨wi, rfl⟩ : ∃ wi : World, wi = wr := ⟨_, rfl⟩
    have KA := Lib.hid (B0.out.ext hE2); have KR := Lib.hid (B1.out.ext hE2); have HEI := Lib.hid hE2
    clear hE2
    by_cases hlt : i < 128
    · have q1 : (0 : Int) ≤ (i : Int) := by omega
      have q2 : (i : Int) < 128 := by omega
      have hgi := HG.out i hlt
      have hni := idk_len g t i
      have HGE := Lib.hid (HGEN.out i hlt)
      have HRGi := Lib.hid (HRG.out i hlt); have HRXi := Lib.hid (HRX.out i hlt)
      cases hti : t i with
      | false =>
        have HFE := Lib.hid (HFR.out i hlt)
        have HRTi := Lib.hid (HRT.out i hlt)
        rw [hti] at HFE HRTi
        have HL := Lib.hid (idk_no (g := g) hti)
        clear hti
        generalize g i = gi at *
        go_wp2_with fail
        have HX0 := Lib.hid (show SE wi wi.drew from ext_drew (Ext.rfl' wi))
        refine wp_region_held_drew (S := SE wi) hmx HX0.out (fun _ => ?_)
        refine wpAnyH_take (i := 0) (oi := { dst := some 17, op := Go.Op.load 78 (Go.Operand.tmp 2), type := 78, pos := "law.go:34", after := #[], guard := none }) rfl (by kernel_rfl) (by kernel_rfl) (by kernel_rfl) (fun _ _ _ h => h) (yields_row (by rfl) 78 (.tmp 2) rfl n0 rfl 78 CA _ (fun _ h => KA.out.ext h) Try.underlying78 rfl (by rw [HZA.out]; exact sizeA)) HX0.out ?_
        (try simp only [Act.put, List.setIfInBounds_toArray, List.set_cons_zero, List.set_cons_succ])
        (refine wpAnyH_take (i := 1) (oi := { dst := some 18, op := Go.Op.move (Go.Operand.tmp 7), type := 3, pos := "law.go:34", after := #[], guard := none }) (v := ?_) rfl (by kernel_rfl) (by kernel_rfl) (by kernel_rfl) (fun _ _ _ h => h) (Or.inl ⟨by rfl, ?_⟩) HX0.out ?_); rotate_left
        · (intro w' hSw; have c0 := ((KR.out.ext hSw).cell i).trans HRGi.out; have c1 := ((KR.out.ext hSw).cell (256 + i)).trans HRTi.out; go_simp; try with_reducible rfl)
        (try simp only [Act.put, List.setIfInBounds_toArray, List.set_cons_zero, List.set_cons_succ])
        (refine wpAnyH_take (i := 3) (oi := { dst := some 20, op := Go.Op.move (Go.Operand.tmp 7), type := 3, pos := "law.go:34", after := #[], guard := none }) (v := ?_) rfl (by kernel_rfl) (by kernel_rfl) (by kernel_rfl) (fun _ _ _ h => h) (Or.inl ⟨by rfl, ?_⟩) HX0.out ?_); rotate_left
        · (intro w' hSw; have c0 := ((KR.out.ext hSw).cell i).trans HRGi.out; have c1 := ((KR.out.ext hSw).cell (256 + i)).trans HRTi.out; go_simp; try with_reducible rfl)
        (try simp only [Act.put, List.setIfInBounds_toArray, List.set_cons_zero, List.set_cons_succ])
        (refine wpAnyH_take (i := 4) (oi := { dst := some 21, op := Go.Op.fieldAddr 82 (Go.Operand.tmp 3) 0, type := 0, pos := "law.go:34", after := #[], guard := none }) (v := ?_) rfl (by kernel_rfl) (by kernel_rfl) (by kernel_rfl) (fun _ _ _ h => h) (Or.inl ⟨by rfl, ?_⟩) HX0.out ?_); rotate_left
        · (intro w' hSw; have c0 := ((KR.out.ext hSw).cell i).trans HRGi.out; have c1 := ((KR.out.ext hSw).cell (256 + i)).trans HRTi.out; go_simp; try with_reducible rfl)
        (try simp only [Act.put, List.setIfInBounds_toArray, List.set_cons_zero, List.set_cons_succ])
        (refine wpAnyH_take (i := 5) (oi := { dst := some 22, op := Go.Op.indexAddr 79 (Go.Operand.tmp 21) (Go.Operand.tmp 20), type := 0, pos := "law.go:34", after := #[{ on := 4, ground := Go.Ground.data }, { on := 3, ground := Go.Ground.data }], guard := none }) (v := ?_) rfl (by kernel_rfl) (by kernel_rfl) (by kernel_rfl) (fun _ _ _ h => h) (Or.inl ⟨by rfl, ?_⟩) HX0.out ?_); rotate_left
        · (intro w' hSw; have c0 := ((KR.out.ext hSw).cell i).trans HRGi.out; have c1 := ((KR.out.ext hSw).cell (256 + i)).trans HRTi.out; go_simp; try with_reducible rfl)
        (try simp only [Act.put, List.setIfInBounds_toArray, List.set_cons_zero, List.set_cons_succ])
        (refine wpAnyH_take (i := 6) (oi := { dst := some 23, op := Go.Op.load 3 (Go.Operand.tmp 22), type := 3, pos := "law.go:34", after := #[{ on := 5, ground := Go.Ground.data }], guard := none }) (v := ?_) rfl (by kernel_rfl) (by kernel_rfl) (by kernel_rfl) (fun _ _ _ h => h) (Or.inl ⟨by rfl, ?_⟩) HX0.out ?_); rotate_left
        · (intro w' hSw; have c0 := ((KR.out.ext hSw).cell i).trans HRGi.out; have c1 := ((KR.out.ext hSw).cell (256 + i)).trans HRTi.out; go_simp; try with_reducible rfl)
        (try simp only [Act.put, List.setIfInBounds_toArray, List.set_cons_zero, List.set_cons_succ])
        refine wpAnyH_ready (rs := [2]) (by kernel_rfl) (by simp) ?_
        refine AllReadyH.cons (o := { dst := some 19, op := Go.Op.call { callee := Go.Callee.value (Go.Operand.func 69), args := #[Go.Operand.tmp 17, Go.Operand.tmp 18], argTypes := #[78, 3] }, type := 3, pos := "law.go:34", after := #[{ on := 0, ground := Go.Ground.data }, { on := 1, ground := Go.Ground.data }], guard := none }) (by kernel_rfl) (fun K hK => ?_) AllReadyH.nil
        go_simp
        refine (HGE.out _).mono ?_
        rintro e x1 ⟨rfl, b9⟩
        have HX1 := Lib.hid (show SE wi x1 from ext_trans HX0.out b9)
        clear b9
        (try go_wp2_with fail)
        refine hK.out _ _ HX1.out (fun _ => ?_)
        clear hK K
        (try simp only [Act.put, List.setIfInBounds_toArray, List.set_cons_zero, List.set_cons_succ])
        (refine wpAnyH_take (i := 7) (oi := { dst := some 24, op := Go.Op.binOp Go.BinOp.neq 3 (Go.Operand.tmp 19) (Go.Operand.tmp 23) 3, type := 4, pos := "law.go:34", after := #[{ on := 2, ground := Go.Ground.data }, { on := 6, ground := Go.Ground.data }], guard := none }) (v := ?_) rfl (by kernel_rfl) (by kernel_rfl) (by kernel_rfl) (fun _ _ _ h => h) (Or.inl ⟨by rfl, ?_⟩) HX1.out ?_); rotate_left
        · (intro w' hSw; have c0 := ((KR.out.ext hSw).cell i).trans HRGi.out; have c1 := ((KR.out.ext hSw).cell (256 + i)).trans HRTi.out; go_simp; try with_reducible rfl)
        (try simp only [Act.put, List.setIfInBounds_toArray, List.set_cons_zero, List.set_cons_succ])
        (refine wpAnyH_take (i := 8) (oi := { dst := some 25, op := Go.Op.move (Go.Operand.tmp 24), type := 4, pos := "law.go:34", after := #[{ on := 7, ground := Go.Ground.data }, { on := 2, ground := Go.Ground.chain }], guard := none }) (v := ?_) rfl (by kernel_rfl) (by kernel_rfl) (by kernel_rfl) (fun _ _ _ h => h) (Or.inl ⟨by rfl, ?_⟩) HX1.out ?_); rotate_left
        · (intro w' hSw; have c0 := ((KR.out.ext hSw).cell i).trans HRGi.out; have c1 := ((KR.out.ext hSw).cell (256 + i)).trans HRTi.out; go_simp; try with_reducible rfl)
        (try simp only [Act.put, List.setIfInBounds_toArray, List.set_cons_zero, List.set_cons_succ])
        refine wpAnyH_take (i := 9) (oi := { dst := some 26, op := Go.Op.load 78 (Go.Operand.tmp 2), type := 78, pos := "law.go:34", after := #[{ on := 8, ground := Go.Ground.guard }], guard := some (8, false) }) rfl (by kernel_rfl) (by kernel_rfl) (by kernel_rfl) (fun _ _ _ h => h) (yields_row (by rfl) 78 (.tmp 2) rfl n0 rfl 78 CA _ (fun _ h => KA.out.ext h) Try.underlying78 rfl (by rw [HZA.out]; exact sizeA)) HX1.out ?_
        (try simp only [Act.put, List.setIfInBounds_toArray, List.set_cons_zero, List.set_cons_succ])
        (refine wpAnyH_take (i := 10) (oi := { dst := some 27, op := Go.Op.move (Go.Operand.tmp 7), type := 3, pos := "law.go:34", after := #[{ on := 8, ground := Go.Ground.guard }], guard := some (8, false) }) (v := ?_) rfl (by kernel_rfl) (by kernel_rfl) (by kernel_rfl) (fun _ _ _ h => h) (Or.inl ⟨by rfl, ?_⟩) HX1.out ?_); rotate_left
        · (intro w' hSw; have c0 := ((KR.out.ext hSw).cell i).trans HRGi.out; have c1 := ((KR.out.ext hSw).cell (256 + i)).trans HRTi.out; go_simp; try with_reducible rfl)
        (try simp only [Act.put, List.setIfInBounds_toArray, List.set_cons_zero, List.set_cons_succ])
        (refine wpAnyH_take (i := 12) (oi := { dst := some 29, op := Go.Op.move (Go.Operand.tmp 7), type := 3, pos := "law.go:34", after := #[{ on := 8, ground := Go.Ground.guard }], guard := some (8, false) }) (v := ?_) rfl (by kernel_rfl) (by kernel_rfl) (by kernel_rfl) (fun _ _ _ h => h) (Or.inl ⟨by rfl, ?_⟩) HX1.out ?_); rotate_left
        · (intro w' hSw; have c0 := ((KR.out.ext hSw).cell i).trans HRGi.out; have c1 := ((KR.out.ext hSw).cell (256 + i)).trans HRTi.out; go_simp; try with_reducible rfl)
        (try simp only [Act.put, List.setIfInBounds_toArray, List.set_cons_zero, List.set_cons_succ])
        (refine wpAnyH_take (i := 13) (oi := { dst := some 30, op := Go.Op.fieldAddr 82 (Go.Operand.tmp 3) 2, type := 0, pos := "law.go:34", after := #[{ on := 8, ground := Go.Ground.guard }], guard := some (8, false) }) (v := ?_) rfl (by kernel_rfl) (by kernel_rfl) (by kernel_rfl) (fun _ _ _ h => h) (Or.inl ⟨by rfl, ?_⟩) HX1.out ?_); rotate_left
        · (intro w' hSw; have c0 := ((KR.out.ext hSw).cell i).trans HRGi.out; have c1 := ((KR.out.ext hSw).cell (256 + i)).trans HRTi.out; go_simp; try with_reducible rfl)
        (try simp only [Act.put, List.setIfInBounds_toArray, List.set_cons_zero, List.set_cons_succ])
        (refine wpAnyH_take (i := 14) (oi := { dst := some 31, op := Go.Op.indexAddr 80 (Go.Operand.tmp 30) (Go.Operand.tmp 29), type := 0, pos := "law.go:34", after := #[{ on := 13, ground := Go.Ground.data }, { on := 12, ground := Go.Ground.data }, { on := 8, ground := Go.Ground.guard }], guard := some (8, false) }) (v := ?_) rfl (by kernel_rfl) (by kernel_rfl) (by kernel_rfl) (fun _ _ _ h => h) (Or.inl ⟨by rfl, ?_⟩) HX1.out ?_); rotate_left
        · (intro w' hSw; have c0 := ((KR.out.ext hSw).cell i).trans HRGi.out; have c1 := ((KR.out.ext hSw).cell (256 + i)).trans HRTi.out; go_simp; try with_reducible rfl)
        (try simp only [Act.put, List.setIfInBounds_toArray, List.set_cons_zero, List.set_cons_succ])
        (refine wpAnyH_take (i := 15) (oi := { dst := some 32, op := Go.Op.load 4 (Go.Operand.tmp 31), type := 4, pos := "law.go:34", after := #[{ on := 14, ground := Go.Ground.data }, { on := 8, ground := Go.Ground.guard }], guard := some (8, false) }) (v := ?_) rfl (by kernel_rfl) (by kernel_rfl) (by kernel_rfl) (fun _ _ _ h => h) (Or.inl ⟨by rfl, ?_⟩) HX1.out ?_); rotate_left
        · (intro w' hSw; have c0 := ((KR.out.ext hSw).cell i).trans HRGi.out; have c1 := ((KR.out.ext hSw).cell (256 + i)).trans HRTi.out; go_simp; try with_reducible rfl)
        (try simp only [Act.put, List.setIfInBounds_toArray, List.set_cons_zero, List.set_cons_succ])
        refine wpAnyH_ready (rs := [11]) (by kernel_rfl) (by simp) ?_
        refine AllReadyH.cons (o := { dst := some 28, op := Go.Op.call { callee := Go.Callee.value (Go.Operand.func 70), args := #[Go.Operand.tmp 26, Go.Operand.tmp 27], argTypes := #[78, 3] }, type := 4, pos := "law.go:34", after := #[{ on := 9, ground := Go.Ground.data }, { on := 10, ground := Go.Ground.data }, { on := 8, ground := Go.Ground.chain }, { on := 8, ground := Go.Ground.guard }], guard := some (8, false) }) (by kernel_rfl) (fun K hK => ?_) AllReadyH.nil
        go_simp
        refine (HFE.out _).mono ?_
        rintro e x2 ⟨rfl, b9⟩
        have HX2 := Lib.hid (show SE wi x2 from ext_trans HX1.out b9)
        clear b9
        (try go_wp2_with fail)
        refine hK.out _ _ HX2.out (fun _ => ?_)
        clear hK K
        (try simp only [Act.put, List.setIfInBounds_toArray, List.set_cons_zero, List.set_cons_succ])
        (refine wpAnyH_take (i := 16) (oi := { dst := some 33, op := Go.Op.binOp Go.BinOp.eql 4 (Go.Operand.tmp 28) (Go.Operand.tmp 32) 4, type := 4, pos := "law.go:34", after := #[{ on := 11, ground := Go.Ground.data }, { on := 15, ground := Go.Ground.data }, { on := 8, ground := Go.Ground.guard }], guard := some (8, false) }) (v := ?_) rfl (by kernel_rfl) (by kernel_rfl) (by kernel_rfl) (fun _ _ _ h => h) (Or.inl ⟨by rfl, ?_⟩) HX2.out ?_); rotate_left
        · (intro w' hSw; have c0 := ((KR.out.ext hSw).cell i).trans HRGi.out; have c1 := ((KR.out.ext hSw).cell (256 + i)).trans HRTi.out; go_simp; try with_reducible rfl)
        (try simp only [Act.put, List.setIfInBounds_toArray, List.set_cons_zero, List.set_cons_succ])
        (refine wpAnyH_take (i := 17) (oi := { dst := some 34, op := Go.Op.pick (Go.Operand.tmp 25) (Go.Operand.const (Go.Value.bool true)) (Go.Operand.tmp 33), type := 4, pos := "law.go:34", after := #[{ on := 8, ground := Go.Ground.data }, { on := 16, ground := Go.Ground.data }], guard := none }) (v := ?_) rfl (by kernel_rfl) (by kernel_rfl) (by kernel_rfl) (fun _ _ _ h => h) (Or.inl ⟨by rfl, ?_⟩) HX2.out ?_); rotate_left
        · (intro w' hSw; have c0 := ((KR.out.ext hSw).cell i).trans HRGi.out; have c1 := ((KR.out.ext hSw).cell (256 + i)).trans HRTi.out; go_simp; try with_reducible rfl)
        (try simp only [Act.put, List.setIfInBounds_toArray, List.set_cons_zero, List.set_cons_succ])
        refine wpAnyH_done (by kernel_rfl) ?_ _
        have KR1 := Lib.hid (KR.out.ext HX2.out)
        have c1 := (KR1.out.cell (256 + i)).trans HRTi.out
        go_wp2_with fail
        go_roundw
        case rel => exact ⟨i + 1, by omega, by go_num, by rw [HL.out], ext_trans HEI.out HX2.out⟩
        case measure => simp [intOf]; omega
      | true =>
        have HFE := Lib.hid (HFR.out i hlt)
        have HRTi := Lib.hid (HRT.out i hlt)
        have HGTi := Lib.hid (HGET.out i hlt hti)
        obtain ⟨hget, hltn⟩ := idk_get (g := g) hlt hti
        rw [HMM.out] at hltn
        have hg5 := HGT.out i hlt hti
        rw [hti] at HFE HRTi
        have HL : Hid ((idk g t (i + 1)).length = (idk g t i).length + 1) := Lib.hid (by rw [idk_yes hti, List.length_append]; rfl)
        clear hti
        obtain ⟨y, hy⟩ : ∃ y, y = i + 128 * g i := ⟨_, rfl⟩
        rw [← hy] at HGTi hget
        have HGY := Lib.hid hget
        have hy2 : y ≤ 65535 := by omega
        generalize g i = gi at *
        generalize x i = xi at *
        generalize (idk g t i).length = n at *
        have r2 : IntKind.i64.wrap (128 * (gi : Int)) = 128 * (gi : Int) := IntWalk.i64_in _ (by omega)
        have r3 : IntKind.i64.wrap ((i : Int) + 128 * (gi : Int)) = (i : Int) + 128 * (gi : Int) := IntWalk.i64_in _ (by omega)
        have r4 : (i : Int) + 128 * (gi : Int) = (y : Int) := by omega
        have r5 : IntKind.u16.wrap (y : Int) = (y : Int) := IntWalk.u16_in _ (by omega)
        clear hy hget
        have HRR := Lib.hid (And.intro r2 (And.intro r3 (And.intro r4 r5)))
        clear r2 r3 r4 r5
        go_wp2_with fail
        have HX0 := Lib.hid (show SE wi wi.drew from ext_drew (Ext.rfl' wi))
        refine wp_region_held_drew (S := SE wi) hmx HX0.out (fun _ => ?_)
        refine wpAnyH_take (i := 0) (oi := { dst := some 17, op := Go.Op.load 78 (Go.Operand.tmp 2), type := 78, pos := "law.go:34", after := #[], guard := none }) rfl (by kernel_rfl) (by kernel_rfl) (by kernel_rfl) (fun _ _ _ h => h) (yields_row (by rfl) 78 (.tmp 2) rfl n0 rfl 78 CA _ (fun _ h => KA.out.ext h) Try.underlying78 rfl (by rw [HZA.out]; exact sizeA)) HX0.out ?_
        (try simp only [Act.put, List.setIfInBounds_toArray, List.set_cons_zero, List.set_cons_succ])
        (refine wpAnyH_take (i := 1) (oi := { dst := some 18, op := Go.Op.move (Go.Operand.tmp 7), type := 3, pos := "law.go:34", after := #[], guard := none }) (v := ?_) rfl (by kernel_rfl) (by kernel_rfl) (by kernel_rfl) (fun _ _ _ h => h) (Or.inl ⟨by rfl, ?_⟩) HX0.out ?_); rotate_left
        · (intro w' hSw; have c0 := ((KR.out.ext hSw).cell i).trans HRGi.out; have c1 := ((KR.out.ext hSw).cell (256 + i)).trans HRTi.out; go_simp; try with_reducible rfl)
        (try simp only [Act.put, List.setIfInBounds_toArray, List.set_cons_zero, List.set_cons_succ])
        (refine wpAnyH_take (i := 3) (oi := { dst := some 20, op := Go.Op.move (Go.Operand.tmp 7), type := 3, pos := "law.go:34", after := #[], guard := none }) (v := ?_) rfl (by kernel_rfl) (by kernel_rfl) (by kernel_rfl) (fun _ _ _ h => h) (Or.inl ⟨by rfl, ?_⟩) HX0.out ?_); rotate_left
        · (intro w' hSw; have c0 := ((KR.out.ext hSw).cell i).trans HRGi.out; have c1 := ((KR.out.ext hSw).cell (256 + i)).trans HRTi.out; go_simp; try with_reducible rfl)
        (try simp only [Act.put, List.setIfInBounds_toArray, List.set_cons_zero, List.set_cons_succ])
        (refine wpAnyH_take (i := 4) (oi := { dst := some 21, op := Go.Op.fieldAddr 82 (Go.Operand.tmp 3) 0, type := 0, pos := "law.go:34", after := #[], guard := none }) (v := ?_) rfl (by kernel_rfl) (by kernel_rfl) (by kernel_rfl) (fun _ _ _ h => h) (Or.inl ⟨by rfl, ?_⟩) HX0.out ?_); rotate_left
        · (intro w' hSw; have c0 := ((KR.out.ext hSw).cell i).trans HRGi.out; have c1 := ((KR.out.ext hSw).cell (256 + i)).trans HRTi.out; go_simp; try with_reducible rfl)
        (try simp only [Act.put, List.setIfInBounds_toArray, List.set_cons_zero, List.set_cons_succ])
        (refine wpAnyH_take (i := 5) (oi := { dst := some 22, op := Go.Op.indexAddr 79 (Go.Operand.tmp 21) (Go.Operand.tmp 20), type := 0, pos := "law.go:34", after := #[{ on := 4, ground := Go.Ground.data }, { on := 3, ground := Go.Ground.data }], guard := none }) (v := ?_) rfl (by kernel_rfl) (by kernel_rfl) (by kernel_rfl) (fun _ _ _ h => h) (Or.inl ⟨by rfl, ?_⟩) HX0.out ?_); rotate_left
        · (intro w' hSw; have c0 := ((KR.out.ext hSw).cell i).trans HRGi.out; have c1 := ((KR.out.ext hSw).cell (256 + i)).trans HRTi.out; go_simp; try with_reducible rfl)
        (try simp only [Act.put, List.setIfInBounds_toArray, List.set_cons_zero, List.set_cons_succ])
        (refine wpAnyH_take (i := 6) (oi := { dst := some 23, op := Go.Op.load 3 (Go.Operand.tmp 22), type := 3, pos := "law.go:34", after := #[{ on := 5, ground := Go.Ground.data }], guard := none }) (v := ?_) rfl (by kernel_rfl) (by kernel_rfl) (by kernel_rfl) (fun _ _ _ h => h) (Or.inl ⟨by rfl, ?_⟩) HX0.out ?_); rotate_left
        · (intro w' hSw; have c0 := ((KR.out.ext hSw).cell i).trans HRGi.out; have c1 := ((KR.out.ext hSw).cell (256 + i)).trans HRTi.out; go_simp; try with_reducible rfl)
        (try simp only [Act.put, List.setIfInBounds_toArray, List.set_cons_zero, List.set_cons_succ])
        refine wpAnyH_ready (rs := [2]) (by kernel_rfl) (by simp) ?_
        refine AllReadyH.cons (o := { dst := some 19, op := Go.Op.call { callee := Go.Callee.value (Go.Operand.func 69), args := #[Go.Operand.tmp 17, Go.Operand.tmp 18], argTypes := #[78, 3] }, type := 3, pos := "law.go:34", after := #[{ on := 0, ground := Go.Ground.data }, { on := 1, ground := Go.Ground.data }], guard := none }) (by kernel_rfl) (fun K hK => ?_) AllReadyH.nil
        go_simp
        refine (HGE.out _).mono ?_
        rintro e x1 ⟨rfl, b9⟩
        have HX1 := Lib.hid (show SE wi x1 from ext_trans HX0.out b9)
        clear b9
        (try go_wp2_with fail)
        refine hK.out _ _ HX1.out (fun _ => ?_)
        clear hK K
        (try simp only [Act.put, List.setIfInBounds_toArray, List.set_cons_zero, List.set_cons_succ])
        (refine wpAnyH_take (i := 7) (oi := { dst := some 24, op := Go.Op.binOp Go.BinOp.neq 3 (Go.Operand.tmp 19) (Go.Operand.tmp 23) 3, type := 4, pos := "law.go:34", after := #[{ on := 2, ground := Go.Ground.data }, { on := 6, ground := Go.Ground.data }], guard := none }) (v := ?_) rfl (by kernel_rfl) (by kernel_rfl) (by kernel_rfl) (fun _ _ _ h => h) (Or.inl ⟨by rfl, ?_⟩) HX1.out ?_); rotate_left
        · (intro w' hSw; have c0 := ((KR.out.ext hSw).cell i).trans HRGi.out; have c1 := ((KR.out.ext hSw).cell (256 + i)).trans HRTi.out; go_simp; try with_reducible rfl)
        (try simp only [Act.put, List.setIfInBounds_toArray, List.set_cons_zero, List.set_cons_succ])
        (refine wpAnyH_take (i := 8) (oi := { dst := some 25, op := Go.Op.move (Go.Operand.tmp 24), type := 4, pos := "law.go:34", after := #[{ on := 7, ground := Go.Ground.data }, { on := 2, ground := Go.Ground.chain }], guard := none }) (v := ?_) rfl (by kernel_rfl) (by kernel_rfl) (by kernel_rfl) (fun _ _ _ h => h) (Or.inl ⟨by rfl, ?_⟩) HX1.out ?_); rotate_left
        · (intro w' hSw; have c0 := ((KR.out.ext hSw).cell i).trans HRGi.out; have c1 := ((KR.out.ext hSw).cell (256 + i)).trans HRTi.out; go_simp; try with_reducible rfl)
        (try simp only [Act.put, List.setIfInBounds_toArray, List.set_cons_zero, List.set_cons_succ])
        refine wpAnyH_take (i := 9) (oi := { dst := some 26, op := Go.Op.load 78 (Go.Operand.tmp 2), type := 78, pos := "law.go:34", after := #[{ on := 8, ground := Go.Ground.guard }], guard := some (8, false) }) rfl (by kernel_rfl) (by kernel_rfl) (by kernel_rfl) (fun _ _ _ h => h) (yields_row (by rfl) 78 (.tmp 2) rfl n0 rfl 78 CA _ (fun _ h => KA.out.ext h) Try.underlying78 rfl (by rw [HZA.out]; exact sizeA)) HX1.out ?_
        (try simp only [Act.put, List.setIfInBounds_toArray, List.set_cons_zero, List.set_cons_succ])
        (refine wpAnyH_take (i := 10) (oi := { dst := some 27, op := Go.Op.move (Go.Operand.tmp 7), type := 3, pos := "law.go:34", after := #[{ on := 8, ground := Go.Ground.guard }], guard := some (8, false) }) (v := ?_) rfl (by kernel_rfl) (by kernel_rfl) (by kernel_rfl) (fun _ _ _ h => h) (Or.inl ⟨by rfl, ?_⟩) HX1.out ?_); rotate_left
        · (intro w' hSw; have c0 := ((KR.out.ext hSw).cell i).trans HRGi.out; have c1 := ((KR.out.ext hSw).cell (256 + i)).trans HRTi.out; go_simp; try with_reducible rfl)
        (try simp only [Act.put, List.setIfInBounds_toArray, List.set_cons_zero, List.set_cons_succ])
        (refine wpAnyH_take (i := 12) (oi := { dst := some 29, op := Go.Op.move (Go.Operand.tmp 7), type := 3, pos := "law.go:34", after := #[{ on := 8, ground := Go.Ground.guard }], guard := some (8, false) }) (v := ?_) rfl (by kernel_rfl) (by kernel_rfl) (by kernel_rfl) (fun _ _ _ h => h) (Or.inl ⟨by rfl, ?_⟩) HX1.out ?_); rotate_left
        · (intro w' hSw; have c0 := ((KR.out.ext hSw).cell i).trans HRGi.out; have c1 := ((KR.out.ext hSw).cell (256 + i)).trans HRTi.out; go_simp; try with_reducible rfl)
        (try simp only [Act.put, List.setIfInBounds_toArray, List.set_cons_zero, List.set_cons_succ])
        (refine wpAnyH_take (i := 13) (oi := { dst := some 30, op := Go.Op.fieldAddr 82 (Go.Operand.tmp 3) 2, type := 0, pos := "law.go:34", after := #[{ on := 8, ground := Go.Ground.guard }], guard := some (8, false) }) (v := ?_) rfl (by kernel_rfl) (by kernel_rfl) (by kernel_rfl) (fun _ _ _ h => h) (Or.inl ⟨by rfl, ?_⟩) HX1.out ?_); rotate_left
        · (intro w' hSw; have c0 := ((KR.out.ext hSw).cell i).trans HRGi.out; have c1 := ((KR.out.ext hSw).cell (256 + i)).trans HRTi.out; go_simp; try with_reducible rfl)
        (try simp only [Act.put, List.setIfInBounds_toArray, List.set_cons_zero, List.set_cons_succ])
        (refine wpAnyH_take (i := 14) (oi := { dst := some 31, op := Go.Op.indexAddr 80 (Go.Operand.tmp 30) (Go.Operand.tmp 29), type := 0, pos := "law.go:34", after := #[{ on := 13, ground := Go.Ground.data }, { on := 12, ground := Go.Ground.data }, { on := 8, ground := Go.Ground.guard }], guard := some (8, false) }) (v := ?_) rfl (by kernel_rfl) (by kernel_rfl) (by kernel_rfl) (fun _ _ _ h => h) (Or.inl ⟨by rfl, ?_⟩) HX1.out ?_); rotate_left
        · (intro w' hSw; have c0 := ((KR.out.ext hSw).cell i).trans HRGi.out; have c1 := ((KR.out.ext hSw).cell (256 + i)).trans HRTi.out; go_simp; try with_reducible rfl)
        (try simp only [Act.put, List.setIfInBounds_toArray, List.set_cons_zero, List.set_cons_succ])
        (refine wpAnyH_take (i := 15) (oi := { dst := some 32, op := Go.Op.load 4 (Go.Operand.tmp 31), type := 4, pos := "law.go:34", after := #[{ on := 14, ground := Go.Ground.data }, { on := 8, ground := Go.Ground.guard }], guard := some (8, false) }) (v := ?_) rfl (by kernel_rfl) (by kernel_rfl) (by kernel_rfl) (fun _ _ _ h => h) (Or.inl ⟨by rfl, ?_⟩) HX1.out ?_); rotate_left
        · (intro w' hSw; have c0 := ((KR.out.ext hSw).cell i).trans HRGi.out; have c1 := ((KR.out.ext hSw).cell (256 + i)).trans HRTi.out; go_simp; try with_reducible rfl)
        (try simp only [Act.put, List.setIfInBounds_toArray, List.set_cons_zero, List.set_cons_succ])
        refine wpAnyH_ready (rs := [11]) (by kernel_rfl) (by simp) ?_
        refine AllReadyH.cons (o := { dst := some 28, op := Go.Op.call { callee := Go.Callee.value (Go.Operand.func 70), args := #[Go.Operand.tmp 26, Go.Operand.tmp 27], argTypes := #[78, 3] }, type := 4, pos := "law.go:34", after := #[{ on := 9, ground := Go.Ground.data }, { on := 10, ground := Go.Ground.data }, { on := 8, ground := Go.Ground.chain }, { on := 8, ground := Go.Ground.guard }], guard := some (8, false) }) (by kernel_rfl) (fun K hK => ?_) AllReadyH.nil
        go_simp
        refine (HFE.out _).mono ?_
        rintro e x2 ⟨rfl, b9⟩
        have HX2 := Lib.hid (show SE wi x2 from ext_trans HX1.out b9)
        clear b9
        (try go_wp2_with fail)
        refine hK.out _ _ HX2.out (fun _ => ?_)
        clear hK K
        (try simp only [Act.put, List.setIfInBounds_toArray, List.set_cons_zero, List.set_cons_succ])
        (refine wpAnyH_take (i := 16) (oi := { dst := some 33, op := Go.Op.binOp Go.BinOp.eql 4 (Go.Operand.tmp 28) (Go.Operand.tmp 32) 4, type := 4, pos := "law.go:34", after := #[{ on := 11, ground := Go.Ground.data }, { on := 15, ground := Go.Ground.data }, { on := 8, ground := Go.Ground.guard }], guard := some (8, false) }) (v := ?_) rfl (by kernel_rfl) (by kernel_rfl) (by kernel_rfl) (fun _ _ _ h => h) (Or.inl ⟨by rfl, ?_⟩) HX2.out ?_); rotate_left
        · (intro w' hSw; have c0 := ((KR.out.ext hSw).cell i).trans HRGi.out; have c1 := ((KR.out.ext hSw).cell (256 + i)).trans HRTi.out; go_simp; try with_reducible rfl)
        (try simp only [Act.put, List.setIfInBounds_toArray, List.set_cons_zero, List.set_cons_succ])
        (refine wpAnyH_take (i := 17) (oi := { dst := some 34, op := Go.Op.pick (Go.Operand.tmp 25) (Go.Operand.const (Go.Value.bool true)) (Go.Operand.tmp 33), type := 4, pos := "law.go:34", after := #[{ on := 8, ground := Go.Ground.data }, { on := 16, ground := Go.Ground.data }], guard := none }) (v := ?_) rfl (by kernel_rfl) (by kernel_rfl) (by kernel_rfl) (fun _ _ _ h => h) (Or.inl ⟨by rfl, ?_⟩) HX2.out ?_); rotate_left
        · (intro w' hSw; have c0 := ((KR.out.ext hSw).cell i).trans HRGi.out; have c1 := ((KR.out.ext hSw).cell (256 + i)).trans HRTi.out; go_simp; try with_reducible rfl)
        (try simp only [Act.put, List.setIfInBounds_toArray, List.set_cons_zero, List.set_cons_succ])
        refine wpAnyH_done (by kernel_rfl) ?_ _
        obtain ⟨r2, r3, r4, r5⟩ := HRR.out
        have KR1 := Lib.hid (KR.out.ext HX2.out); have KA1 := Lib.hid (KA.out.ext HX2.out)
        have c1 := (KR1.out.cell (256 + i)).trans HRTi.out
        have c2 := (KR1.out.cell i).trans HRGi.out
        go_wp2_with (refine wpList_load_row rfl 78 (.tmp 2) rfl n0 rfl 78 CA (0, 0) _ KA1.out Try.underlying78 rfl (by rw [HZA.out]; exact sizeA) ?_)
        refine (HGTi.out _).mono ?_
        rintro e w5 ⟨rfl, b5⟩
        have KR5 := Lib.hid (KR1.out.ext b5)
        have HE5 := Lib.hid (ext_trans (ext_trans HEI.out HX2.out) b5)
        clear b5 c1 c2 r2 r3 r4 r5
        obtain ⟨g6, o6, rfl, _, hc6⟩ := (HN2.out.ext HE5.out).2 (by omega)
        have c3 := hc6 n hltn
        rw [HGY.out] at c3
        have c4 := (KR5.out.cell (128 + i)).trans HRXi.out
        have y4 : (n : Int) < (m : Int) := by omega
        have y5 : (0 : Int) ≤ (n : Int) := by omega
        clear hc6
        go_wp2_with fail
        go_roundw
        case rel => exact ⟨i + 1, by omega, by go_num, by rw [HL.out]; go_num, HE5.out⟩
        case measure => simp [intOf]; omega
    · obtain rfl : i = 128 := by omega
      rw [HMM.out]
      go_wp2_with (refine wpList_load_rowW (by rfl) 78 (.tmp 2) rfl n0 rfl 78 CA (0, 0) _ KA.out Try.underlying78 rfl (by rw [HZA.out]; exact sizeA) ?_)
      refine (generation_no CA 128 _ (.inr (by omega))).mono ?_
      rintro e w6 ⟨rfl, b6⟩
      have KA6 := Lib.hid (KA.out.ext b6); have HE6 := Lib.hid (ext_trans HEI.out b6)
      clear b6
      go_wp2_with (refine wpList_load_rowW (by rfl) 78 (.tmp 2) rfl n0 rfl 78 CA (0, 0) _ KA6.out Try.underlying78 rfl (by rw [HZA.out]; exact sizeA) ?_)
      refine (generation_no CA (-1) _ (.inl (by omega))).mono ?_
      rintro e w7 ⟨rfl, b7⟩
      have KA7 := Lib.hid (KA6.out.ext b7); have HE7 := Lib.hid (ext_trans HE6.out b7)
      clear b7
      go_wp2_with (refine wpList_load_rowW (by rfl) 78 (.tmp 2) rfl n0 rfl 78 CA (0, 0) _ KA7.out Try.underlying78 rfl (by rw [HZA.out]; exact sizeA) ?_)
      refine (free_no CA (-1) _ (.inl (by omega))).mono ?_
      rintro e w8 ⟨rfl, b8⟩
      have HE8 := Lib.hid (ext_trans HE7.out b8)
      clear b8
      go_wp2_with fail
      go_ret
      exact ⟨rfl, ext_trans HE.out HE8.out⟩
end Go.Proofs.Ytdbjknljdplinaa.Arena
