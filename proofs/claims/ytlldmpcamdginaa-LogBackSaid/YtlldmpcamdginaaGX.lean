/- LogBack's own functions, walked. -/
import Derived.Test.YtlldmpcamdginaaG9
import Derived.Test.YtlldmpcamdginaaG7
import Derived.StillTailTactics
import Derived.BigQuiet
import Derived.Test.YtlldmpcamdginaaG3
import Derived.OrdersHeld
import Derived.Deep.RegionHeld
import Derived.Test.YtlldmpcamdginaaG8
namespace Go.Proofs.Ytlldmpcamdginaa.Log
open Go.ChangeShapes Go.WideShapes Go.ChangeAt Go.RowKit
open Go.Proofs.Ytlldmpcamdginaa.Wire
open Go.Proofs.Ytlldmpcamdginaa.Rec
set_option linter.unusedVariables false

theorem great_st (x : Hv) (A : Option Addr) (m c : Nat) (hs : x.tiles.size ≤ 9223372036854775807) (w : World) (hm : m ≤ 9223372036854775807) :
    Calls Try.prog 6 #[.agg (cH x (.slice A m c))] w fun e w' => e = .returned (.bool (decide (4200 < x.tiles.size ∨ 200 < m))) ∧ Ext w w' := by
  generalize hb : decide (4200 < x.tiles.size ∨ 200 < m) = b
  have HE := Lib.hid (ext_alloc (Ext.rfl' w) (.cells (cH x (.slice A m c)) 25))
  obtain ⟨xw, xh, xp, xs, xt, us⟩ := x
  simp only [cH] at *
  by_cases h1 : 4200 < xt.size
  · have hb' : Hid (b = true) := Lib.hid (by rw [← hb]; exact decide_eq_true (.inl h1))
    have h1' : (4200 : Int) < (xt.size : Int) := by omega
    clear hb
    go_enter Try.func6, Try.ntmps6
    go_wp2_with fail
    go_ret
    exact ⟨by rw [hb'.out]; rfl, HE.out⟩
  · have h1' : ¬ (4200 : Int) < (xt.size : Int) := by omega
    by_cases h2 : 200 < m
    · have hb' : Hid (b = true) := Lib.hid (by rw [← hb]; exact decide_eq_true (.inr h2))
      have h2' : (200 : Int) < (m : Int) := by omega
      clear hb
      go_enter Try.func6, Try.ntmps6
      go_wp2_with fail
      go_ret
      exact ⟨by rw [hb'.out]; rfl, HE.out⟩
    · have hb' : Hid (b = false) := Lib.hid (by rw [← hb]; exact decide_eq_false (by omega))
      have h2' : ¬ (200 : Int) < (m : Int) := by omega
      clear hb
      go_enter Try.func6, Try.ntmps6
      go_wp2_with fail
      go_ret
      exact ⟨by rw [hb'.out]; rfl, HE.out⟩
theorem hmxL : Try.prog.follows .mixedOrders = true := by kernel_rfl
def SE (w : World) : World → Prop := fun w' => Ext w w'
/-- A log, its entries put one behind the other. -/
def VRel (w : World) (evs : List Ev) (gh : Nat) (ov iv : Value) (wr : World) : Prop :=
  ∃ (k : Nat), k + gh = evs.length ∧ iv = .int .i64 (k : Int) ∧ OwnR w.heap.size wr 85 7 cV ov (evs.take k) ∧ Ext w wr
set_option maxHeartbeats 4000000 in
set_option maxRecDepth 100000 in
theorem of_law (A : Option Addr) (m c : Nat) (evs : List Ev) (w : World) (hB : RowR w A m 7 cV evs) (hm : m ≤ 1000000) :
    Calls Try.prog 13 #[.slice A m c] w fun e w' => ∃ v, e = .returned v ∧ OwnR w.heap.size w' 85 7 cV v evs ∧ Ext w w' := by
  have HB := Lib.hid hB; have HLEN := Lib.hid hB.1
  clear hB
  go_enter Try.func13, Try.ntmps13
  go_wp2_with fail
  go_loopg [3, 4] m (fun gh ov iv wr => VRel w evs gh ov iv wr)
  case atStart => exact ⟨0, by rw [HLEN.out]; omega, rfl, by simpa using OwnR.nil _ _ _ _ _, Ext.rfl' _⟩
  case round =>
    obtain ⟨k, hk, rfl, hO, hE⟩ := hrel
    obtain ⟨wi, rfl⟩ : ∃ wi : World, wi = wr := ⟨_, rfl⟩
    obtain ⟨vi, rfl⟩ : ∃ vi : Value, vi = u3 := ⟨_, rfl⟩
    obtain ⟨gh, rfl⟩ : ∃ gh : Nat, gh = gk := ⟨_, rfl⟩
    have HO := Lib.hid hO; have HE := Lib.hid hE
    have hkm : k + gh = m := by rw [hk, HLEN.out]
    clear hO hE hk
    have y1 : (0 : Int) ≤ (k : Int) := by omega
    by_cases hlt : k < m
    · have hke : k < evs.length := by rw [HLEN.out]; exact hlt
      obtain ⟨b, o, rfl, hbw, hc⟩ := HB.out.2 (by omega)
      have hcx := hc k hke
      have htk : evs.take (k + 1) = evs.take k ++ [evs[k]] := (List.take_append_getElem hke).symm
      obtain ⟨x, hx⟩ : ∃ x, x = evs[k] := ⟨_, rfl⟩
      rw [← hx] at hcx htk
      have HTK := Lib.hid htk
      obtain ⟨x0, x1, x2, x3, x4, x5, x6⟩ := x
      have HCC : Hid (∀ w', SE w w' → w'.cell? ⟨b, o + k * 7, none⟩ = some (.int .i64 x0) ∧ w'.cell? ⟨b, o + k * 7 + 1, none⟩ = some (.int .u8 (x1 : Int)) ∧ w'.cell? ⟨b, o + k * 7 + 2, none⟩ = some (.int .u8 (x2 : Int)) ∧ w'.cell? ⟨b, o + k * 7 + 3, none⟩ = some (.int .u16 (x3 : Int)) ∧ w'.cell? ⟨b, o + k * 7 + 4, none⟩ = some (.int .u16 (x4 : Int)) ∧ w'.cell? ⟨b, o + k * 7 + 5, none⟩ = some (.int .u16 (x5 : Int)) ∧ w'.cell? ⟨b, o + k * 7 + 6, none⟩ = some (.int .u8 (x6 : Int))) := Lib.hid (fun w' e =>
        ⟨(Below.cell e (p := ⟨b, o + k * 7 + 0, none⟩) hbw).trans (hcx 0 (by omega)), (Below.cell e (p := ⟨b, o + k * 7 + 1, none⟩) hbw).trans (hcx 1 (by omega)), (Below.cell e (p := ⟨b, o + k * 7 + 2, none⟩) hbw).trans (hcx 2 (by omega)), (Below.cell e (p := ⟨b, o + k * 7 + 3, none⟩) hbw).trans (hcx 3 (by omega)), (Below.cell e (p := ⟨b, o + k * 7 + 4, none⟩) hbw).trans (hcx 4 (by omega)), (Below.cell e (p := ⟨b, o + k * 7 + 5, none⟩) hbw).trans (hcx 5 (by omega)), (Below.cell e (p := ⟨b, o + k * 7 + 6, none⟩) hbw).trans (hcx 6 (by omega))⟩)
      have y2 : (k : Int) < (m : Int) := by omega
      clear hc hcx hx hke htk
      go_upto_region 5 with fail
      have HX := Lib.hid (show SE w wi.drew from ext_drew HE.out)
      have HOA := Lib.hid (HO.out.ext (ext_drew (Ext.rfl' wi)))
      have HDL : Hid ((evs.take k).length ≤ 100000000) := Lib.hid (by rw [List.length_take]; omega)
      refine wp_region_held_drew (S := SE w) hmxL HX.out (fun _ => ?_)
      generalize wi.drew = WA at *
      clear HO HE
      (refine wpAnyH_take (i := 0) (oi := { dst := some 11, op := Go.Op.move (Go.Operand.tmp 3), type := 37, pos := "law.go:27", after := #[], guard := none }) (v := ?_) rfl (by kernel_rfl) (by kernel_rfl) (by kernel_rfl) (fun _ _ _ h => h) (Or.inl ⟨by rfl, ?_⟩) HX.out ?_); rotate_left
      · (intro w' hSw; obtain ⟨c0, c1, c2, c3, c4, c5, c6⟩ := HCC.out w' hSw; go_simp; try with_reducible rfl)
      (try simp only [Act.put, List.setIfInBounds_toArray, List.set_cons_zero, List.set_cons_succ])
      (refine wpAnyH_take (i := 1) (oi := { dst := some 12, op := Go.Op.move (Go.Operand.tmp 0), type := 26, pos := "law.go:27", after := #[], guard := none }) (v := ?_) rfl (by kernel_rfl) (by kernel_rfl) (by kernel_rfl) (fun _ _ _ h => h) (Or.inl ⟨by rfl, ?_⟩) HX.out ?_); rotate_left
      · (intro w' hSw; obtain ⟨c0, c1, c2, c3, c4, c5, c6⟩ := HCC.out w' hSw; go_simp; try with_reducible rfl)
      (try simp only [Act.put, List.setIfInBounds_toArray, List.set_cons_zero, List.set_cons_succ])
      (refine wpAnyH_take (i := 2) (oi := { dst := some 13, op := Go.Op.move (Go.Operand.tmp 4), type := 3, pos := "law.go:27", after := #[], guard := none }) (v := ?_) rfl (by kernel_rfl) (by kernel_rfl) (by kernel_rfl) (fun _ _ _ h => h) (Or.inl ⟨by rfl, ?_⟩) HX.out ?_); rotate_left
      · (intro w' hSw; obtain ⟨c0, c1, c2, c3, c4, c5, c6⟩ := HCC.out w' hSw; go_simp; try with_reducible rfl)
      (try simp only [Act.put, List.setIfInBounds_toArray, List.set_cons_zero, List.set_cons_succ])
      (refine wpAnyH_take (i := 3) (oi := { dst := some 14, op := Go.Op.indexAddr 26 (Go.Operand.tmp 12) (Go.Operand.tmp 13), type := 0, pos := "law.go:27", after := #[{ on := 1, ground := Go.Ground.data }, { on := 2, ground := Go.Ground.data }], guard := none }) (v := ?_) rfl (by kernel_rfl) (by kernel_rfl) (by kernel_rfl) (fun _ _ _ h => h) (Or.inl ⟨by rfl, ?_⟩) HX.out ?_); rotate_left
      · (intro w' hSw; obtain ⟨c0, c1, c2, c3, c4, c5, c6⟩ := HCC.out w' hSw; go_simp; try with_reducible rfl)
      (try simp only [Act.put, List.setIfInBounds_toArray, List.set_cons_zero, List.set_cons_succ])
      (refine wpAnyH_take (i := 4) (oi := { dst := some 15, op := Go.Op.fieldAddr 109 (Go.Operand.tmp 14) 0, type := 0, pos := "law.go:27", after := #[{ on := 3, ground := Go.Ground.data }], guard := none }) (v := ?_) rfl (by kernel_rfl) (by kernel_rfl) (by kernel_rfl) (fun _ _ _ h => h) (Or.inl ⟨by rfl, ?_⟩) HX.out ?_); rotate_left
      · (intro w' hSw; obtain ⟨c0, c1, c2, c3, c4, c5, c6⟩ := HCC.out w' hSw; go_simp; try with_reducible rfl)
      (try simp only [Act.put, List.setIfInBounds_toArray, List.set_cons_zero, List.set_cons_succ])
      (refine wpAnyH_take (i := 5) (oi := { dst := some 16, op := Go.Op.load 3 (Go.Operand.tmp 15), type := 3, pos := "law.go:27", after := #[{ on := 4, ground := Go.Ground.data }], guard := none }) (v := ?_) rfl (by kernel_rfl) (by kernel_rfl) (by kernel_rfl) (fun _ _ _ h => h) (Or.inl ⟨by rfl, ?_⟩) HX.out ?_); rotate_left
      · (intro w' hSw; obtain ⟨c0, c1, c2, c3, c4, c5, c6⟩ := HCC.out w' hSw; go_simp; try with_reducible rfl)
      (try simp only [Act.put, List.setIfInBounds_toArray, List.set_cons_zero, List.set_cons_succ])
      (refine wpAnyH_take (i := 6) (oi := { dst := some 17, op := Go.Op.move (Go.Operand.tmp 0), type := 26, pos := "law.go:27", after := #[], guard := none }) (v := ?_) rfl (by kernel_rfl) (by kernel_rfl) (by kernel_rfl) (fun _ _ _ h => h) (Or.inl ⟨by rfl, ?_⟩) HX.out ?_); rotate_left
      · (intro w' hSw; obtain ⟨c0, c1, c2, c3, c4, c5, c6⟩ := HCC.out w' hSw; go_simp; try with_reducible rfl)
      (try simp only [Act.put, List.setIfInBounds_toArray, List.set_cons_zero, List.set_cons_succ])
      (refine wpAnyH_take (i := 7) (oi := { dst := some 18, op := Go.Op.move (Go.Operand.tmp 4), type := 3, pos := "law.go:27", after := #[], guard := none }) (v := ?_) rfl (by kernel_rfl) (by kernel_rfl) (by kernel_rfl) (fun _ _ _ h => h) (Or.inl ⟨by rfl, ?_⟩) HX.out ?_); rotate_left
      · (intro w' hSw; obtain ⟨c0, c1, c2, c3, c4, c5, c6⟩ := HCC.out w' hSw; go_simp; try with_reducible rfl)
      (try simp only [Act.put, List.setIfInBounds_toArray, List.set_cons_zero, List.set_cons_succ])
      (refine wpAnyH_take (i := 8) (oi := { dst := some 19, op := Go.Op.indexAddr 26 (Go.Operand.tmp 17) (Go.Operand.tmp 18), type := 0, pos := "law.go:27", after := #[{ on := 6, ground := Go.Ground.data }, { on := 7, ground := Go.Ground.data }], guard := none }) (v := ?_) rfl (by kernel_rfl) (by kernel_rfl) (by kernel_rfl) (fun _ _ _ h => h) (Or.inl ⟨by rfl, ?_⟩) HX.out ?_); rotate_left
      · (intro w' hSw; obtain ⟨c0, c1, c2, c3, c4, c5, c6⟩ := HCC.out w' hSw; go_simp; try with_reducible rfl)
      (try simp only [Act.put, List.setIfInBounds_toArray, List.set_cons_zero, List.set_cons_succ])
      (refine wpAnyH_take (i := 9) (oi := { dst := some 20, op := Go.Op.fieldAddr 109 (Go.Operand.tmp 19) 1, type := 0, pos := "law.go:27", after := #[{ on := 8, ground := Go.Ground.data }], guard := none }) (v := ?_) rfl (by kernel_rfl) (by kernel_rfl) (by kernel_rfl) (fun _ _ _ h => h) (Or.inl ⟨by rfl, ?_⟩) HX.out ?_); rotate_left
      · (intro w' hSw; obtain ⟨c0, c1, c2, c3, c4, c5, c6⟩ := HCC.out w' hSw; go_simp; try with_reducible rfl)
      (try simp only [Act.put, List.setIfInBounds_toArray, List.set_cons_zero, List.set_cons_succ])
      (refine wpAnyH_take (i := 10) (oi := { dst := some 21, op := Go.Op.load 83 (Go.Operand.tmp 20), type := 83, pos := "law.go:27", after := #[{ on := 9, ground := Go.Ground.data }], guard := none }) (v := ?_) rfl (by kernel_rfl) (by kernel_rfl) (by kernel_rfl) (fun _ _ _ h => h) (Or.inl ⟨by rfl, ?_⟩) HX.out ?_); rotate_left
      · (intro w' hSw; obtain ⟨c0, c1, c2, c3, c4, c5, c6⟩ := HCC.out w' hSw; go_simp; try with_reducible rfl)
      (try simp only [Act.put, List.setIfInBounds_toArray, List.set_cons_zero, List.set_cons_succ])
      (refine wpAnyH_take (i := 11) (oi := { dst := some 22, op := Go.Op.build 85 #[(0, Go.Operand.tmp 16), (1, Go.Operand.tmp 21)], type := 85, pos := "law.go:27", after := #[{ on := 5, ground := Go.Ground.data }, { on := 10, ground := Go.Ground.data }], guard := none }) (v := ?_) rfl (by kernel_rfl) (by kernel_rfl) (by kernel_rfl) (fun _ _ _ h => h) (Or.inl ⟨by rfl, ?_⟩) HX.out ?_); rotate_left
      · (intro w' hSw; obtain ⟨c0, c1, c2, c3, c4, c5, c6⟩ := HCC.out w' hSw; go_simp; try with_reducible rfl)
      (try simp only [Act.put, List.setIfInBounds_toArray, List.set_cons_zero, List.set_cons_succ])
      refine wpAnyH_ready (rs := [12]) (by kernel_rfl) (by simp) ?_
      refine AllReadyH.cons (o := { dst := some 23, op := Go.Op.buildSlice 37 1 #[(0, Go.Operand.tmp 22)], type := 37, pos := "law.go:27", after := #[{ on := 11, ground := Go.Ground.data }], guard := none }) (by kernel_rfl) (fun K hK => ?_) AllReadyH.nil
      go_simp
      have HX := Lib.hid (show SE w (WA.alloc (.cells (cV ⟨x0, x1, x2, x3, x4, x5, x6⟩).toArray 85)) from ext_alloc HX.out _)
      refine hK.out _ _ HX.out (fun _ => ?_)
      clear hK K
      (try simp only [Act.put, List.setIfInBounds_toArray, List.set_cons_zero, List.set_cons_succ])
      refine wpAnyH_ready (rs := [13]) (by kernel_rfl) (by simp) ?_
      refine AllReadyH.cons (o := { dst := some 24, op := Go.Op.call { callee := Go.Callee.builtin Go.Builtin.append, args := #[Go.Operand.tmp 11, Go.Operand.tmp 23], argTypes := #[37, 37] }, type := 37, pos := "law.go:27", after := #[{ on := 0, ground := Go.Ground.data }, { on := 12, ground := Go.Ground.data }], guard := none }) (by kernel_rfl) (fun K hK => ?_) AllReadyH.nil
      have HSRC := Lib.hid (src_rec (P := Try.prog) (e' := 85) Try.underlying37 WA (cV ⟨x0, x1, x2, x3, x4, x5, x6⟩) rfl (by intro u hu; simp [cV] at hu; rcases hu with rfl | rfl | rfl | rfl | rfl | rfl | rfl <;> rfl) 1)
      obtain ⟨v3, w3, hrun, hO3, hG3⟩ := run_rec (P := Try.prog) (base := w.heap.size) 37 85 37 7 24 _ cV Try.underlying37 infoE rfl (by decide) vi _ (evs.take k) ⟨x0, x1, x2, x3, x4, x5, x6⟩ (HOA.out.ext (ext_alloc (Ext.rfl' WA) (.cells (cV ⟨x0, x1, x2, x3, x4, x5, x6⟩).toArray 85))) HX.out.size HSRC.out HDL.out
      have HRUN := Lib.hid hrun; have HO3 := Lib.hid hO3
      have HX := Lib.hid (show SE w w3 from ext_grown HX.out hG3 (fun q e => (World.ownsRow.lt HOA.out q e).1))
      clear hrun hO3 hG3
      refine wanted_append rfl (.tmp 11) (.tmp 23) 37 37 rfl vi _ rfl rfl HRUN.out ?_
      refine hK.out _ _ HX.out (fun _ => ?_)
      clear hK K
      (try simp only [Act.put, List.setIfInBounds_toArray, List.set_cons_zero, List.set_cons_succ])
      (refine wpAnyH_take (i := 14) (oi := { dst := some 3, op := Go.Op.assign (Go.Operand.tmp 24), type := 37, pos := "law.go:27", after := #[{ on := 13, ground := Go.Ground.data }, { on := 13, ground := Go.Ground.chain }, { on := 0, ground := Go.Ground.phase }, { on := 1, ground := Go.Ground.phase }, { on := 2, ground := Go.Ground.phase }, { on := 3, ground := Go.Ground.phase }, { on := 4, ground := Go.Ground.phase }, { on := 5, ground := Go.Ground.phase }, { on := 6, ground := Go.Ground.phase }, { on := 7, ground := Go.Ground.phase }, { on := 8, ground := Go.Ground.phase }, { on := 9, ground := Go.Ground.phase }, { on := 10, ground := Go.Ground.phase }, { on := 11, ground := Go.Ground.phase }, { on := 12, ground := Go.Ground.phase }, { on := 13, ground := Go.Ground.phase }], guard := none }) (v := ?_) rfl (by kernel_rfl) (by kernel_rfl) (by kernel_rfl) (fun _ _ _ h => h) (Or.inl ⟨by rfl, ?_⟩) HX.out ?_); rotate_left
      · (intro w' hSw; obtain ⟨c0, c1, c2, c3, c4, c5, c6⟩ := HCC.out w' hSw; go_simp; try with_reducible rfl)
      (try simp only [Act.put, List.setIfInBounds_toArray, List.set_cons_zero, List.set_cons_succ])
      refine wpAnyH_done (by kernel_rfl) ?_ _
      go_wp2_with fail
      go_roundg (gh - 1)
      case measure => omega
      case rel =>
        refine ⟨k + 1, by rw [HLEN.out]; omega, by go_num, by rw [HTK.out]; exact HO3.out, HX.out⟩
    · obtain rfl : gh = 0 := by omega
      obtain rfl : k = m := by omega
      have y2 : ¬ (k : Int) < (k : Int) := by omega
      go_wp2_with fail
      go_ret
      exact ⟨_, rfl, by have := HO.out; rwa [List.take_of_length_le (by rw [HLEN.out]; omega)] at this, HE.out⟩
end Go.Proofs.Ytlldmpcamdginaa.Log
namespace Go.Proofs.Ytlldmpcamdginaa.Log
open Go.ChangeShapes Go.WideShapes Go.ChangeAt Go.RowKit
open Go.Proofs.Ytlldmpcamdginaa.Wire
open Go.Proofs.Ytlldmpcamdginaa.Rec
set_option linter.unusedVariables false

set_option maxHeartbeats 4000000 in
set_option maxRecDepth 100000 in
theorem same_st (x : Hv) (A1 A2 : Option Addr) (m c1 c2 : Nat) (w : World) (hB1 : RowR w A1 m 3 cS x.starts) (hB2 : RowR w A2 m 3 cS x.starts) (hm : m ≤ 1000000) :
    Calls Try.prog 11 #[.agg (cH x (.slice A1 m c1)), .agg (cH x (.slice A2 m c2))] w fun e w' => e = .returned (.bool true) ∧ Ext w w' := by
  have HB1 := Lib.hid hB1; have HB2 := Lib.hid hB2; have HLEN := Lib.hid hB1.1
  clear hB1 hB2
  have HE0 := Lib.hid (ext_alloc (ext_alloc (Ext.rfl' w) (.cells (cH x (.slice A1 m c1)) 25)) (.cells (cH x (.slice A2 m c2)) 25))
  have HH1 := Lib.hid ((Blk.new w 25 (cH x (.slice A1 m c1))).alloc (.cells (cH x (.slice A2 m c2)) 25))
  have HH2 := Lib.hid (Blk.new1 w (.cells (cH x (.slice A1 m c1)) 25) 25 (cH x (.slice A2 m c2)))
  obtain ⟨xw, xh, xp, xs, xt, us⟩ := x
  simp only [cH] at *
  go_enter Try.func11, Try.ntmps11
  go_upto_region 1 with fail
  obtain ⟨w0, hw0⟩ : ∃ q, q = (w.alloc (.cells #[.int .i64 xw, .int .i64 xh, .int .i64 xp, .int .u32 (xs : Int), .string xt, .slice A1 m c1] 25)).alloc (.cells #[.int .i64 xw, .int .i64 xh, .int .i64 xp, .int .u32 (xs : Int), .string xt, .slice A2 m c2] 25) := ⟨_, rfl⟩
  rw [← hw0] at HE0 HH1 HH2 ⊢
  clear hw0
  have h1 := fun i => HH1.out.cell i
  have h2 := fun i => HH2.out.cell i
  go_wp2_with fail
  go_loopg [5] m (fun gh iv wr => ∃ k, k + gh = m ∧ iv = .int .i64 ((k : Nat) : Int) ∧ Ext w0 wr)
  case atStart => exact ⟨0, by omega, rfl, Ext.rfl' _⟩
  case round =>
    obtain ⟨k, hk, rfl, hE⟩ := hrel
    obtain ⟨wi, rfl⟩ : ∃ wi : World, wi = wr := ⟨_, rfl⟩
    obtain ⟨gh, rfl⟩ : ∃ gh : Nat, gh = gk := ⟨_, rfl⟩
    have HE := Lib.hid hE
    have HHA := Lib.hid (HH1.out.ext hE); have HHB := Lib.hid (HH2.out.ext hE)
    clear hE h1 h2
    have h1 := fun i => HHA.out.cell i
    have h2 := fun i => HHB.out.cell i
    have y1 : (0 : Int) ≤ (k : Int) := by omega
    by_cases hlt : k < m
    · have hke : k < us.length := by rw [HLEN.out]; exact hlt
      obtain ⟨b1, o1, rfl, hbw1, hc1⟩ := HB1.out.2 (by omega)
      obtain ⟨b2, o2, rfl, hbw2, hc2⟩ := HB2.out.2 (by omega)
      have q1 := hc1 k hke
      have q2 := hc2 k hke
      have hEE := ext_trans HE0.out HE.out
      generalize us[k] = u at q1 q2
      obtain ⟨u1, u2, u3⟩ := u
      have a0 := (hEE.cell (p := ⟨b1, o1 + k * 3 + 0, none⟩) hbw1).trans (q1 0 (by omega)); have a1 := (hEE.cell (p := ⟨b1, o1 + k * 3 + 1, none⟩) hbw1).trans (q1 1 (by omega)); have a2 := (hEE.cell (p := ⟨b1, o1 + k * 3 + 2, none⟩) hbw1).trans (q1 2 (by omega))
      have d0 := (hEE.cell (p := ⟨b2, o2 + k * 3 + 0, none⟩) hbw2).trans (q2 0 (by omega)); have d1 := (hEE.cell (p := ⟨b2, o2 + k * 3 + 1, none⟩) hbw2).trans (q2 1 (by omega)); have d2 := (hEE.cell (p := ⟨b2, o2 + k * 3 + 2, none⟩) hbw2).trans (q2 2 (by omega))
      simp only [cS, Nat.add_zero, List.getElem?_cons_zero, List.getElem?_cons_succ] at a0 a1 a2 d0 d1 d2
      have y2 : (k : Int) < (m : Int) := by omega
      clear hc1 hc2 q1 q2 hEE hke
      go_wp2_with fail
      (refine wp_still (by kernel_rfl) (by kernel_rfl) ?_; repeat still_step)
      refine wpStill_nil ?_
      go_wp2_with fail
      go_roundg (gh - 1)
      case measure => omega
      case rel => exact ⟨k + 1, by omega, by go_num, ext_drew HE.out⟩
    · obtain rfl : gh = 0 := by omega
      obtain rfl : k = m := by omega
      have y2 : ¬ (k : Int) < (k : Int) := by omega
      go_wp2_with fail
      go_ret
      exact ⟨rfl, ext_trans HE0.out HE.out⟩
set_option maxHeartbeats 4000000 in
set_option maxRecDepth 100000 in
theorem row_st (evs : List Ev) (A1 A2 : Option Addr) (m c1 c2 : Nat) (w : World) (hB1 : RowR w A1 m 7 cV evs) (hB2 : RowR w A2 m 7 cV evs) (hm : m ≤ 1000000) :
    Calls Try.prog 15 #[.slice A1 m c1, .slice A2 m c2] w fun e w' => e = .returned (.bool true) ∧ Ext w w' := by
  have HB1 := Lib.hid hB1; have HB2 := Lib.hid hB2; have HLEN := Lib.hid hB1.1
  clear hB1 hB2
  go_enter Try.func15, Try.ntmps15
  go_wp2_with fail
  go_loopg [5] m (fun gh iv wr => ∃ k, k + gh = m ∧ iv = .int .i64 ((k : Nat) : Int) ∧ Ext w wr)
  case atStart => exact ⟨0, by omega, rfl, Ext.rfl' _⟩
  case round =>
    obtain ⟨k, hk, rfl, hE⟩ := hrel
    obtain ⟨wi, rfl⟩ : ∃ wi : World, wi = wr := ⟨_, rfl⟩
    obtain ⟨gh, rfl⟩ : ∃ gh : Nat, gh = gk := ⟨_, rfl⟩
    have HE := Lib.hid hE
    clear hE
    have y1 : (0 : Int) ≤ (k : Int) := by omega
    by_cases hlt : k < m
    · have hke : k < evs.length := by rw [HLEN.out]; exact hlt
      obtain ⟨b1, o1, rfl, hbw1, hc1⟩ := HB1.out.2 (by omega)
      obtain ⟨b2, o2, rfl, hbw2, hc2⟩ := HB2.out.2 (by omega)
      have q1 := fun i hi => (HE.out.cell (p := ⟨b1, o1 + k * 7 + i, none⟩) hbw1).trans (hc1 k hke i hi)
      have q2 := fun i hi => (HE.out.cell (p := ⟨b2, o2 + k * 7 + i, none⟩) hbw2).trans (hc2 k hke i hi)
      generalize evs[k] = u at q1 q2
      obtain ⟨x0, x1, x2, x3, x4, x5, x6⟩ := u
      have a0 := q1 0 (by omega); have a1 := q1 1 (by omega); have a2 := q1 2 (by omega); have a3 := q1 3 (by omega); have a4 := q1 4 (by omega); have a5 := q1 5 (by omega); have a6 := q1 6 (by omega)
      have d0 := q2 0 (by omega); have d1 := q2 1 (by omega); have d2 := q2 2 (by omega); have d3 := q2 3 (by omega); have d4 := q2 4 (by omega); have d5 := q2 5 (by omega); have d6 := q2 6 (by omega)
      simp only [cV, Nat.add_zero, List.getElem?_cons_zero, List.getElem?_cons_succ] at a0 a1 a2 a3 a4 a5 a6 d0 d1 d2 d3 d4 d5 d6
      have y2 : (k : Int) < (m : Int) := by omega
      clear hc1 hc2 q1 q2 hke
      go_wp2_with fail
      (refine wp_still (by kernel_rfl) (by kernel_rfl) ?_; repeat still_step)
      refine wpStill_nil ?_
      go_wp2_with fail
      go_roundg (gh - 1)
      case measure => omega
      case rel => exact ⟨k + 1, by omega, by go_num, ext_drew HE.out⟩
    · obtain rfl : gh = 0 := by omega
      obtain rfl : k = m := by omega
      have y2 : ¬ (k : Int) < (k : Int) := by omega
      go_wp2_with fail
      go_ret
      exact ⟨rfl, HE.out⟩
end Go.Proofs.Ytlldmpcamdginaa.Log
namespace Go.Proofs.Ytlldmpcamdginaa.Log
open Go.ChangeShapes Go.WideShapes Go.ChangeAt Go.RowKit
open Go.Proofs.Ytlldmpcamdginaa.Wire
open Go.Proofs.Ytlldmpcamdginaa.Rec
set_option linter.unusedVariables false

def cC (x : Ev) : List Value := [.int .u8 (x.player : Int), .int .u8 (x.doing : Int), .int .u16 (x.unit : Int), .int .u16 (x.tile : Int), .int .u16 (x.target : Int), .int .u8 (x.kind : Int)]
theorem infoC : (Try.prog.info? 83).map (fun i => (i.zero, i.size, i.bytes)) = some (some (.agg #[.int .u8 0, .int .u8 0, .int .u16 0, .int .u16 0, .int .u16 0, .int .u8 0]), 6, 10) := by kernel_rfl
def atL (tick : Int) (evs : List Ev) : List Ev := evs.filter (fun x => decide (x.tick = tick))
theorem atL_snoc (tick : Int) (evs : List Ev) (x : Ev) : atL tick (evs ++ [x]) = atL tick evs ++ (if x.tick = tick then [x] else []) := by
  unfold atL
  rw [List.filter_append]
  by_cases h : x.tick = tick <;> simp [h]
set_option maxHeartbeats 4000000 in
set_option maxRecDepth 100000 in
theorem at_st (evs : List Ev) (A : Option Addr) (m c : Nat) (tick : Int) (w : World) (hB : RowR w A m 7 cV evs) (hm : m ≤ 1000000) :
    Calls Try.prog 31 #[.slice A m c, .int .i64 tick] w fun e w' => ∃ A' c', e = .returned (.slice A' (atL tick evs).length c') ∧ Ext w w' := by
  have HB := Lib.hid hB; have HLEN := Lib.hid hB.1
  clear hB
  go_enter Try.func31, Try.ntmps31
  go_wp2_with fail
  go_loopg [5, 10] m (fun gh ov iv wr => ∃ k, k + gh = m ∧ iv = .int .i64 ((k : Nat) : Int) ∧ OwnR w.heap.size wr 83 6 cC ov (atL tick (evs.take k)) ∧ Ext w wr)
  case atStart => exact ⟨0, by omega, rfl, by simpa [atL] using OwnR.nil _ _ _ _ _, Ext.rfl' _⟩
  case round =>
    obtain ⟨k, hk, rfl, hO, hE⟩ := hrel
    obtain ⟨wi, rfl⟩ : ∃ wi : World, wi = wr := ⟨_, rfl⟩
    obtain ⟨vi, rfl⟩ : ∃ vi : Value, vi = u5 := ⟨_, rfl⟩
    obtain ⟨gh, rfl⟩ : ∃ gh : Nat, gh = gk := ⟨_, rfl⟩
    have HE := Lib.hid hE; have HO := Lib.hid hO
    clear hE hO
    have y1 : (0 : Int) ≤ (k : Int) := by omega
    by_cases hlt : k < m
    · have hke : k < evs.length := by rw [HLEN.out]; exact hlt
      obtain ⟨b1, o1, rfl, hbw1, hc1⟩ := HB.out.2 (by omega)
      have q1 := fun i hi => (HE.out.cell (p := ⟨b1, o1 + k * 7 + i, none⟩) hbw1).trans (hc1 k hke i hi)
      have htk : evs.take (k + 1) = evs.take k ++ [evs[k]] := (List.take_append_getElem hke).symm
      generalize evs[k] = u at q1 htk
      have HTK := Lib.hid (show atL tick (evs.take (k + 1)) = atL tick (evs.take k) ++ (if u.tick = tick then [u] else []) by rw [htk, atL_snoc])
      obtain ⟨x0, x1, x2, x3, x4, x5, x6⟩ := u
      have a0 := q1 0 (by omega); have a1 := q1 1 (by omega); have a2 := q1 2 (by omega); have a3 := q1 3 (by omega); have a4 := q1 4 (by omega); have a5 := q1 5 (by omega); have a6 := q1 6 (by omega)
      simp only [cV, Nat.add_zero, List.getElem?_cons_zero, List.getElem?_cons_succ] at a0 a1 a2 a3 a4 a5 a6
      have y2 : (k : Int) < (m : Int) := by omega
      clear hc1 q1 hke htk
      simp only at HTK
      by_cases ht : x0 = tick
      · subst ht
        rw [if_pos rfl] at HTK
        have HDL : Hid ((atL x0 (evs.take k)).length ≤ 100000000) := Lib.hid (by
          have h1 := List.length_filter_le (fun x : Ev => decide (x.tick = x0)) (evs.take k)
          rw [List.length_take] at h1
          unfold atL
          omega)
        have HEA := Lib.hid (ext_alloc (ext_alloc (Ext.rfl' wi) (.cells #[.int .i64 x0, .int .u8 (x1 : Int), .int .u8 (x2 : Int), .int .u16 (x3 : Int), .int .u16 (x4 : Int), .int .u16 (x5 : Int), .int .u8 (x6 : Int)] 85)) (.cells (cC ⟨x0, x1, x2, x3, x4, x5, x6⟩).toArray 83))
        have HSRC := Lib.hid (src_rec (P := Try.prog) (e' := 83) Try.underlying86 (wi.alloc (.cells #[.int .i64 x0, .int .u8 (x1 : Int), .int .u8 (x2 : Int), .int .u16 (x3 : Int), .int .u16 (x4 : Int), .int .u16 (x5 : Int), .int .u8 (x6 : Int)] 85)) (cC ⟨x0, x1, x2, x3, x4, x5, x6⟩) rfl (by intro u hu; simp [cC] at hu; rcases hu with rfl | rfl | rfl | rfl | rfl | rfl <;> rfl) 1)
        rw [World.size_alloc] at HSRC
        have HO8 := Lib.hid (HO.out.ext HEA.out)
        have HE8 := Lib.hid (ext_trans HE.out HEA.out)
        go_wp2_with (at_builtin; refine wpList_rec rfl (.tmp 18) (.tmp 21) 86 83 6 10 _ cC rfl Try.underlying86 infoC rfl (by decide) vi _ (atL x0 (evs.take k)) ⟨x0, x1, x2, x3, x4, x5, x6⟩ rfl rfl HO8.out HE8.out.size HSRC.out HDL.out ?_; intro v9 w9 hown9 hgr9; have HO9 := Lib.hid hown9; have HG9 := Lib.hid hgr9; clear hown9 hgr9)
        go_roundg (gh - 1)
        case measure => omega
        case rel => exact ⟨k + 1, by omega, by go_num, by rw [HTK.out]; exact HO9.out, ext_grown HE8.out HG9.out (fun q e => (World.ownsRow.lt HO8.out q e).1)⟩
      · rw [if_neg ht] at HTK
        have HT := Lib.hid ht
        have ht' : (x0 == tick) = false := beq_eq_false_iff_ne.2 ht
        have HEA := Lib.hid (ext_alloc (Ext.rfl' wi) (.cells #[.int .i64 x0, .int .u8 (x1 : Int), .int .u8 (x2 : Int), .int .u16 (x3 : Int), .int .u16 (x4 : Int), .int .u16 (x5 : Int), .int .u8 (x6 : Int)] 85))
        clear ht
        go_wp2_with fail
        go_roundg (gh - 1)
        case measure => omega
        case rel => exact ⟨k + 1, by omega, by go_num, by rw [HTK.out, List.append_nil]; exact HO.out.ext HEA.out, ext_trans HE.out HEA.out⟩
    · obtain rfl : gh = 0 := by omega
      obtain rfl : k = m := by omega
      have y2 : ¬ (k : Int) < (k : Int) := by omega
      go_wp2_with fail
      go_ret
      obtain ⟨A', c', hv, _⟩ := HO.out.shape
      rw [List.take_of_length_le (by rw [HLEN.out]; omega)] at hv
      exact ⟨⟨A', c', congrArg Ending.returned hv⟩, HE.out⟩
/-- What is put of a header is taken as itself. -/
theorem hd_hv {x : Hv} (h : mayH x) : x.hd.hv = x := by
  obtain ⟨⟨o1, o2, o3, o4, _⟩, p1, p4, p8, hb⟩ := h
  obtain ⟨xw, xh, xp, xs, xt, us⟩ := x
  simp only at *
  unfold Hv.hd Hd.hv
  simp only [Hv.mk.injEq, strOf_nats, List.map_map, true_and]
  refine ⟨by omega, by omega, by omega, ?_⟩
  have ht := mayB_tiles _ _ _ _ hb
  have : us.map (St.sv ∘ Sv.st) = us.map id := List.map_congr_left (fun u hu => by
    obtain ⟨u1, u2, u3⟩ := u
    have := (ht _ hu).1
    simp only at this
    simp only [Function.comp, Sv.st, St.sv, id]
    congr 1
    omega)
  rw [this, List.map_id]
theorem take_header {x : Hv} (h : mayH x) (hf : ∀ u ∈ x.starts, u.fits) (hs : x.seed < 4294967296) : thL (encH x.hd) = some x := by
  have hv := hd_hv h
  have h0 := h
  obtain ⟨⟨o1, o2, o3, o4, o5, _⟩, p1, p4, p8, hb⟩ := h
  have ht := mayB_tiles _ _ _ _ hb
  have hts : x.tiles.size ≤ 4096 := by
    have : (x.tiles.size : Int) ≤ 64 * 64 := by rw [o5]; exact Int.mul_le_mul o2 o4 (by omega) (by omega)
    omega
  have hfit : x.hd.fits := by
    refine ⟨by show x.w.toNat ≤ _; omega, by show x.h.toNat ≤ _; omega, by show x.players.toNat ≤ _; omega, hs, by show (natsOf x.tiles).length ≤ 4096; rw [natsOf_len]; exact hts, by show (x.starts.map Sv.st).length < _; rw [List.length_map]; omega, ?_⟩
    intro u hu
    obtain ⟨u', hu', rfl⟩ := List.mem_map.1 hu
    have h1 := hf u' hu'
    have h2 := ht u' hu'
    exact ⟨by show u'.owner < _; have := h1.1; omega, by show u'.kind < _; have := h1.2.1; omega, by show u'.tile.toNat ≤ _; omega⟩
  have := pH_put hfit []
  rw [List.append_nil] at this
  unfold thL
  rw [this]
  simp only
  have hg : goodS x.hd.starts := by
    refine ⟨fun u hu => ?_, by show (x.starts.map Sv.st).length ≤ 128; rw [List.length_map]; exact p8⟩
    obtain ⟨u', hu', rfl⟩ := List.mem_map.1 hu
    have h1 := hf u' hu'
    exact ⟨by show u'.owner ≤ 255; have := h1.1; omega, by show u'.kind ≤ 255; have := h1.2.1; omega⟩
  unfold thO
  rw [hv, if_pos ⟨hg, h0⟩]
/-- What is taken is put as itself. -/
theorem header_take {L : List Nat} {x : Hv} (hL : ∀ c ∈ L, c < 256) (h : thL L = some x) : mayH x ∧ encH x.hd = L ∧ x.seed < 4294967296 ∧ (∀ u ∈ x.starts, u.fits) ∧ x.tiles.size ≤ 4096 := by
  unfold thL at h
  split at h
  · rename_i y hy
    unfold thO at h
    split at h
    · rename_i hq
      cases h
      obtain ⟨e1, e2⟩ := pH_ok hL hy
      obtain ⟨f1, f2, f3, f4, f5, f6, f7⟩ := e2
      rw [List.append_nil] at e1
      have hti : ∀ c ∈ y.tiles, c < 256 := fun c hc => hL c (by
        rw [e1]; unfold encH
        simp only [List.mem_append]
        exact .inr (.inr (.inr (.inr (.inr (.inl hc))))))
      have hyy : y.hv.hd = y := by
        obtain ⟨a, b, c, d, t, us⟩ := y
        unfold Hd.hv Hv.hd
        simp only [Int.toNat_natCast, Hd.mk.injEq, List.map_map, true_and]
        refine ⟨nats_strOf (small_mem hti), ?_⟩
        have : us.map (Sv.st ∘ St.sv) = us.map id := List.map_congr_left (fun u _ => by
          obtain ⟨u1, u2, u3⟩ := u
          simp [Function.comp, Sv.st, St.sv])
        rw [this, List.map_id]
      refine ⟨hq.2, by rw [hyy, e1], f4, fun u hu => ?_, ?_⟩
      · obtain ⟨u', hu', rfl⟩ := List.mem_map.1 hu
        have h1 := hq.1.1 u' hu'
        have h2 := (f7 u' hu').2.2
        exact ⟨by show u'.owner < 256; omega, by show u'.kind < 256; omega, by show (-9223372036854775808 : Int) ≤ (u'.tile : Int); omega, by show (u'.tile : Int) ≤ 9223372036854775807; omega⟩
      · show (strOf y.tiles).size ≤ 4096
        rw [strOf_size]; exact f5
    · cases h
  · cases h
theorem encH_small (x : Hd) (hs : x.seed < 4294967296) (ht : ∀ c ∈ x.tiles, c < 256) : ∀ c ∈ encH x, c < 256 := by
  have hS : ∀ us : List St, ∀ c ∈ encS us, c < 256 := by
    intro us
    induction us with
    | nil => intro c hc; cases hc
    | cons u us ih =>
      intro c hc
      rw [encS] at hc
      simp only [List.mem_append] at hc
      rcases hc with hc | hc | hc | hc
      · exact vb_mem _ c hc
      · exact vb_mem _ c hc
      · exact vb_mem _ c hc
      · exact ih c hc
  intro c hc
  unfold encH at hc
  simp only [List.mem_append] at hc
  rcases hc with hc | hc | hc | hc | hc | hc | hc | hc
  · exact vb_mem _ c hc
  · exact vb_mem _ c hc
  · exact vb_mem _ c hc
  · exact fx_mem hs c hc
  · exact vb_mem _ c hc
  · exact ht c hc
  · exact vb_mem _ c hc
  · exact hS _ c hc
theorem encH_len (x : Hv) (h : mayH x) (hf : ∀ u ∈ x.starts, u.fits) : (encH x.hd).length ≤ 20000 := by
  obtain ⟨⟨o1, o2, o3, o4, o5, _⟩, p1, p4, p8, hb⟩ := h
  have ht := mayB_tiles _ _ _ _ hb
  have hts : x.tiles.size ≤ 4096 := by
    have : (x.tiles.size : Int) ≤ 64 * 64 := by rw [o5]; exact Int.mul_le_mul o2 o4 (by omega) (by omega)
    omega
  have hS : ∀ us : List Sv, (∀ u ∈ us, u.owner < 256 ∧ u.kind ≤ 5 ∧ u.tile.toNat < x.tiles.size) → (encS (us.map Sv.st)).length ≤ 30 * us.length := by
    intro us
    induction us with
    | nil => intro _; simp [encS]
    | cons u us ih =>
      intro hu
      have h1 := ih (fun v hv => hu v (by simp [hv]))
      obtain ⟨a, b, d⟩ := hu u (by simp)
      rw [List.map_cons, encS]
      simp only [List.length_append, List.length_cons, Sv.st]
      have := vb_ten (n := u.owner) (by omega)
      have := vb_ten (n := u.kind) (by omega)
      have := vb_ten (n := u.tile.toNat) (by omega)
      omega
  have h1 := hS x.starts (fun u hu => ⟨(hf u hu).1, (ht u hu).2.2, (ht u hu).2.1⟩)
  have q1 := vb_ten (n := x.w.toNat) (by omega)
  have q2 := vb_ten (n := x.h.toNat) (by omega)
  have q3 := vb_ten (n := x.players.toNat) (by omega)
  have q4 := vb_ten (n := x.tiles.size) (by omega)
  have q5 := vb_ten (n := x.starts.length) (by omega)
  have q6 : (fx x.seed).length = 4 := rfl
  show (vb x.w.toNat ++ (vb x.h.toNat ++ (vb x.players.toNat ++ (fx x.seed ++ (vb (natsOf x.tiles).length ++ (natsOf x.tiles ++ (vb (x.starts.map Sv.st).length ++ encS (x.starts.map Sv.st)))))))).length ≤ 20000
  simp only [List.length_append, natsOf_len, List.length_map]
  omega
end Go.Proofs.Ytlldmpcamdginaa.Log
namespace Go.Proofs.Ytlldmpcamdginaa.Log
open Go.ChangeShapes Go.WideShapes Go.ChangeAt Go.RowKit
open Go.Proofs.Ytlldmpcamdginaa.Wire
open Go.Proofs.Ytlldmpcamdginaa.Rec
set_option linter.unusedVariables false

def T0 : ByteArray := ⟨#[0, 0, 0, 0, 0, 1, 0, 0, 0, 0, 0, 0, 0, 0, 0, 2]⟩
def h0 : Hv := ⟨4, 4, 2, 5, T0, [⟨1, 1, 4⟩]⟩
def e0 : Ev := ⟨3, 1, 2, 300, 0, 0, 0⟩
def P0 : List Nat := [2, 3, 1, 2, 0, 172, 2, 0, 0, 0, 1, 2, 0, 172, 2, 0, 0]
theorem may0 : mayH h0 := of_decide_eq_true (by kernel_rfl)
theorem fits0 : ∀ u ∈ h0.starts, u.fits := by
  intro u hu
  simp only [h0, List.mem_singleton] at hu
  subst hu
  exact ⟨by decide, by decide, by decide, by decide⟩
theorem put0 : putL 9 [e0, e0] = some P0 := by kernel_rfl
theorem fitse0 : ∀ x ∈ [e0, e0], x.fits := by
  intro x hx
  have : x = e0 := by simpa using hx
  subst this
  exact ⟨by decide, by decide, by decide, by decide, by decide, by decide⟩
theorem at03 : (atL 3 [e0, e0]).length = 2 := by kernel_rfl
theorem at02 : (atL 2 [e0, e0]).length = 0 := by kernel_rfl
theorem str0 : strOf P0 = ⟨#[2, 3, 1, 2, 0, 172, 2, 0, 0, 0, 1, 2, 0, 172, 2, 0, 0]⟩ := by kernel_rfl
set_option maxHeartbeats 4000000 in
set_option maxRecDepth 100000 in
theorem wakes (w : World) : Calls Try.prog 7 #[] w fun e w' => e = .returned (.bool true) ∧ Ext w w' := by
  have hrow := row_new cS_len w 80 h0.starts
  have hea := ext_alloc (ext_alloc (Ext.rfl' w) (.cells (h0.starts.flatMap cS).toArray 80)) (.cells (cH h0 (.slice (some ⟨w.heap.size, 0, none⟩) 1 1)) 25)
  have HROW := Lib.hid (hrow.ext (ext_alloc (Ext.rfl' _) (.cells (cH h0 (.slice (some ⟨w.heap.size, 0, none⟩) 1 1)) 25)))
  have HEA := Lib.hid hea
  have HH := Lib.hid (Blk.new1 w (.cells (h0.starts.flatMap cS).toArray 80) 25 (cH h0 (.slice (some ⟨w.heap.size, 0, none⟩) 1 1)))
  clear hrow hea
  go_enter Try.func7, Try.ntmps7
  go_upto_region 2 with fail
  obtain ⟨w0, hw0⟩ : ∃ q, q = (w.alloc (.cells (h0.starts.flatMap cS).toArray 80)).alloc (.cells (cH h0 (.slice (some ⟨w.heap.size, 0, none⟩) 1 1)) 25) := ⟨_, rfl⟩
  have hw1 : (w.alloc (.cells #[.int .u8 1, .int .u8 1, .int .i64 4] 80)).alloc (.cells #[.int .i64 4, .int .i64 4, .int .i64 2, .int .u32 5, .string T0, .slice (some ⟨w.heap.size, 0, none⟩) 1 1] 25) = w0 := hw0.symm
  rw [← hw0] at HROW HEA HH
  unfold T0 at hw1
  rw [hw1]
  clear hw0 hw1
  have hh := fun i => HH.out.cell i
  simp only [cH, h0] at hh
  have HHD := Lib.hid (show Calls Try.prog 8 #[.agg #[.int .i64 4, .int .i64 4, .int .i64 2, .int .u32 5, .string T0, .slice (some ⟨w.heap.size, 0, none⟩) 1 1]] w0 (HdPost w0 h0) from header_st h0 (some ⟨w.heap.size, 0, none⟩) 1 1 w0 HROW.out fits0 (by decide) (by omega) (by decide) (by decide) (by decide) (by decide) (by decide))
  go_wp2_with fail
  refine (HHD.out).mono ?_
  rintro e w1 ⟨hE1, hm⟩
  rw [if_pos may0] at hm
  obtain ⟨v, rfl, hO⟩ := hm
  have hsm := encH_small h0.hd (by decide) (mem_small (natsOf_small _))
  have hL0 := encH_len h0 may0 fits0
  have hth := take_header may0 fits0 (by decide)
  obtain ⟨L0, hL⟩ : ∃ L, L = encH h0.hd := ⟨_, rfl⟩
  rw [← hL] at hO hsm hL0 hth
  clear hL
  obtain ⟨A1, c1, rfl, s1, s2, s3, s4⟩ := hO.shape
  have hbs := (hO.bs (small_mem hsm)).2
  have HTK := Lib.hid (takeHeader_st A1 L0.length c1 L0 w1 hbs s3 (by omega))
  have HE1 := Lib.hid (ext_trans HEA.out hE1)
  have HH1 := Lib.hid (HH.out.ext hE1)
  have HROW1 := Lib.hid (HROW.out.ext hE1)
  have HTH := Lib.hid hth
  clear hO hsm hth s1 s2 s3 s4 hbs hE1 hh HHD HEA HH HROW
  generalize L0.length = n1 at *
  clear hL0
  go_wp2_with fail
  refine (HTK.out).mono ?_
  rintro e w2 ⟨hE2, hm⟩
  rw [HTH.out] at hm
  obtain ⟨v, rfl, hO2⟩ := hm
  obtain ⟨A2, c2, rfl, s1, s2, s3, s4⟩ := hO2.shape
  have HROWB := Lib.hid (OwnR.row cS_len hO2)
  have HE2 := Lib.hid (ext_trans HE1.out hE2)
  have HH2 := Lib.hid (HH1.out.ext hE2)
  have HROW2 := Lib.hid (HROW1.out.ext hE2)
  clear hO2 s1 s2 s3 s4 hE2 HTK HE1 HH1 HROW1 HTH
  simp only [cH, h0, List.length_cons, List.length_nil, Nat.zero_add]
  rw [show ((5 : Nat) : Int) = 5 from rfl]
  have HXB := Lib.hid ((Blk.new w2 25 (cH h0 (.slice A2 1 c2))).alloc (.cells #[.int .u8 1, .int .u8 2, .int .u16 300, .int .u16 0, .int .u16 0, .int .u8 0] 83))
  have HCB := Lib.hid (Blk.new1 w2 (.cells (cH h0 (.slice A2 1 c2)) 25) 83 #[.int .u8 1, .int .u8 2, .int .u16 300, .int .u16 0, .int .u16 0, .int .u8 0])
  have hx3 := ext_alloc (ext_alloc (Ext.rfl' w2) (.cells (cH h0 (.slice A2 1 c2)) 25)) (.cells #[.int .u8 1, .int .u8 2, .int .u16 300, .int .u16 0, .int .u16 0, .int .u8 0] 83)
  have HE3 := Lib.hid (ext_trans HE2.out hx3)
  have HH3 := Lib.hid (HH2.out.ext hx3)
  have HR3 := Lib.hid (HROW2.out.ext hx3)
  have HRB3 := Lib.hid (HROWB.out.ext hx3)
  clear hx3 HE2 HH2 HROW2 HROWB
  go_upto_region 5 with fail
  obtain ⟨w3, hw3⟩ : ∃ q, q = (w2.alloc (.cells (cH h0 (.slice A2 1 c2)) 25)).alloc (.cells #[.int .u8 1, .int .u8 2, .int .u16 300, .int .u16 0, .int .u16 0, .int .u8 0] 83) := ⟨_, rfl⟩
  have hw4 : (w2.alloc (.cells #[.int .i64 4, .int .i64 4, .int .i64 2, .int .u32 5, .string T0, .slice A2 1 c2] 25)).alloc (.cells #[.int .u8 1, .int .u8 2, .int .u16 300, .int .u16 0, .int .u16 0, .int .u8 0] 83) = w3 := hw3.symm
  rw [← hw3] at HXB HCB HE3 HH3 HR3 HRB3
  rw [hw4]
  clear hw3 hw4
  have hc := fun i => HCB.out.cell i
  have hrow := row_new cV_len w3 85 [e0, e0]
  have HXE := Lib.hid (ext_alloc (Ext.rfl' w3) (.cells ([e0, e0].flatMap cV).toArray 85))
  have HPU := Lib.hid (show Calls Try.prog 12 #[.slice (some ⟨w3.heap.size, 0, none⟩) 2 2, .int .i64 9] (w3.alloc (.cells #[.int .i64 3, .int .u8 1, .int .u8 2, .int .u16 300, .int .u16 0, .int .u16 0, .int .u8 0, .int .i64 3, .int .u8 1, .int .u8 2, .int .u16 300, .int .u16 0, .int .u16 0, .int .u8 0] 85)) (PtPost (w3.alloc (.cells ([e0, e0].flatMap cV).toArray 85)) 9 [e0, e0]) from put_st _ 2 2 [e0, e0] 9 _ hrow fitse0 (by omega))
  clear hrow
  go_wp2_with fail
  refine (HPU.out).mono ?_
  rintro e w4 ⟨hE4, hm⟩
  rw [put0] at hm
  obtain ⟨v, rfl, hO⟩ := hm
  obtain ⟨A4, c4, rfl, s1, s2, s3, s4⟩ := hO.shape
  have hp0 : ∀ c ∈ P0, c < 256 := putL_small fitse0 put0
  have hbs := (hO.bs (small_mem hp0)).2
  have hx4 := ext_trans HXE.out hE4
  have HE4 := Lib.hid (ext_trans HE3.out hx4)
  have HH4 := Lib.hid (HH3.out.ext hx4); have HR4 := Lib.hid (HR3.out.ext hx4); have HRB4 := Lib.hid (HRB3.out.ext hx4); have HXB4 := Lib.hid (HXB.out.ext hx4)
  obtain ⟨es, hes, htl⟩ := take_put fitse0 (by decide) put0
  have HTK := Lib.hid (show Calls Try.prog 14 #[.slice A4 P0.length c4, .int .i64 9] w4 (TkPost w4 9 P0) from take_st A4 P0.length c4 P0 9 w4 hbs s3 (by decide))
  have HBS := Lib.hid hbs; have HES := Lib.hid hes; have HTL := Lib.hid htl
  clear hO s1 s2 s3 s4 hbs hx4 hE4 hes htl hc HPU HXE HE3 HH3 HR3 HRB3 HXB HCB hp0
  generalize hn4 : P0.length = n4 at *
  replace hn4 := Lib.hid hn4
  go_wp2_with fail
  refine (HTK.out).mono ?_
  rintro e w5 ⟨hE5, hm⟩
  rw [HTL.out] at hm
  obtain ⟨v, rfl, hO5⟩ := hm
  rw [← HES.out] at hO5
  obtain ⟨A5, c5, rfl, s1, s2, s3, s4⟩ := hO5.shape
  have hrow5 := OwnR.row cV_len hO5
  have HE5 := Lib.hid (ext_trans HE4.out hE5)
  have HH5 := Lib.hid (HH4.out.ext hE5); have HR5 := Lib.hid (HR4.out.ext hE5); have HRB5 := Lib.hid (HRB4.out.ext hE5); have HXB5 := Lib.hid (HXB4.out.ext hE5)
  have HBS5 := Lib.hid (HBS.out.ext hE5)
  have HROW := Lib.hid hrow5
  clear hO5 s1 s2 s3 s4 hrow5 hE5 HTK HE4 HH4 HR4 HRB4 HXB4 HBS HES HTL
  have HSM := Lib.hid (fun (w' : World) (e : Ext w5 w') => same_st h0 A2 (some ⟨w.heap.size, 0, none⟩) 1 c2 1 w' (HRB5.out.ext e) (HR5.out.ext e) (by omega))
  have hh := fun i => HH5.out.cell i
  have hx := fun i => HXB5.out.cell i
  simp only [cH, h0] at hh hx HSM
  simp only [List.length_cons, List.length_nil, Nat.zero_add, Nat.reduceAdd]
  go_wp2_with fail
  refine (HSM.out _ (Ext.rfl' _)).mono ?_
  rintro e w6 ⟨rfl, hE6⟩
  have HE6 := Lib.hid (ext_trans HE5.out hE6)
  have hbs6 := HBS5.out.ext hE6
  have hcv := hbs6.conv (P := Try.prog) 29 5 9 Try.underlying29 Try.underlying5 Try.underlying9 c4
  rw [str0] at hcv
  have HAT3 := Lib.hid (fun (w' : World) (e : Ext w6 w') => at_st [e0, e0] A5 2 c5 3 w' ((HROW.out.ext hE6).ext e) (by omega))
  have HAT2 := Lib.hid (fun (w' : World) (e : Ext w6 w') => at_st [e0, e0] A5 2 c5 2 w' ((HROW.out.ext hE6).ext e) (by omega))
  rw [at03] at HAT3
  rw [at02] at HAT2
  clear hE6 hbs6 hh hx HSM HE5 HH5 HR5 HRB5 HXB5 HBS5 HROW
  go_wp2_with fail
  refine (HAT3.out _ (Ext.rfl' _)).mono ?_
  rintro e w7 ⟨A7, c7, rfl, hE7⟩
  have HE7 := Lib.hid hE7
  clear hE7 hcv
  go_wp2_with fail
  refine (HAT2.out _ HE7.out).mono ?_
  rintro e w8 ⟨A8, c8, rfl, hE8⟩
  have HE8 := Lib.hid (ext_trans HE6.out (ext_trans HE7.out hE8))
  clear hE8
  go_wp2_with fail
  go_ret
  exact ⟨rfl, HE8.out⟩
end Go.Proofs.Ytlldmpcamdginaa.Log
