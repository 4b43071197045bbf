/- Contracts of package chunk: a chunk is put. -/
import Derived.Test.YtckjmabacibojaaDoorGH
import Derived.Test.YtckjmabacibojaaDoorGE
import Derived.Test.YtckjmabacibojaaDoorGG
import Derived.Test.YtckjmabacibojaaDoorGI
import Derived.Test.YtckjmabacibojaaDoorGF
import Derived.Test.YtckjmabacibojaaDoorGD
namespace Go.Proofs.YtckjmabacibojaaDoor.Chk
open Go.ChangeShapes Go.WideShapes Go.ChangeAt Go.RowKit
open Go.Proofs.YtckjmabacibojaaDoor.Wire
set_option linter.unusedVariables false

theorem hmxD : Tryd.prog.follows .mixedOrders = true := by kernel_rfl
/-- A box of a slice. -/
def Box (w : World) (B : Nat) (v : Value) : Prop := Blk w B 22 #[v]
theorem Box.cell {w : World} {B : Nat} {v : Value} (h : Box w B v) : w.cell? ⟨B, 0, none⟩ = some v := Blk.cell h 0
theorem Box.frozen {w : World} {B : Nat} {v : Value} (h : Box w B v) : w.frozen? ⟨B, 0, none⟩ = false := Blk.frozen h 0
/-- What is boxed, and a row of the call's own that it holds. -/
def Held (W w : World) (B : Nat) (v : Value) (zs : List Nat) : Prop := Box w B v ∧ Wire.Own W w v zs ∧ Ext W w ∧ W.heap.size ≤ B
theorem held_apart {W w : World} {B : Nat} {v : Value} {zs : List Nat} (h : Held W w B v zs) (hp : 0 < zs.length) : v.ownBlock ≠ some B := by
  obtain ⟨hb, hO, _, _⟩ := h
  obtain ⟨A, c, rfl, _, _, h3⟩ := own_shape hO
  obtain ⟨g, rfl, _⟩ := h3 hp
  intro e
  have e' : g = B := by simpa [Value.ownBlock] using e
  subst e'
  have h1 := hO.cellAt 0 (by omega)
  rw [c8_at hp] at h1
  have h2 := hb.cell
  rw [h1] at h2
  cases h2
theorem Held.ext {W w w' : World} {B : Nat} {v : Value} {zs : List Nat} (h : Held W w B v zs) (hE : Ext w w') : Held W w' B v zs := ⟨Blk.ext h.1 hE, h.2.1.ext hE, ext_trans h.2.2.1 hE, h.2.2.2⟩
/-- More is appended to what is boxed; the box is still as it was. -/
theorem held_app {W w : World} {B : Nat} {v vx : Value} {zs ys : List Nat} {tx : TypeId} (h : Held W w B v zs) (hp : 0 < zs.length) (hsrc : Src Tryd.prog 1 tx vx ys.length (c8 ys) w) (hb : zs.length + ys.length ≤ 100000000000) :
    ∃ v' w', (Builtin.append_ #[22, tx] 22 #[v, vx]).run Tryd.prog w = .ok v' w' ∧ Wire.Own W w' v' (zs ++ ys) ∧ Ext W w' ∧ Box w' B v := by
  obtain ⟨i0, hi0, hz0, hz1, hz2⟩ := info_parts info8
  have hne := held_apart h hp
  obtain ⟨hbx, hO, hE, hB⟩ := h
  obtain ⟨v', w', h1, h2, h3⟩ := run_app_own (P := Tryd.prog) 22 tx 22 5 i0 (.int .u8 0) 1 1 Tryd.underlying22 hi0 hz0 hz1 hz2 rfl W.heap.size v zs.length (c8 zs) hO vx ys.length (c8 ys) hsrc (by unfold maxLen; omega) (by omega) hE.size
  refine ⟨v', w', h1, by unfold Wire.Own; rw [List.length_append, c8_app]; exact h2, ext_grown hE h3 (own_ge hO), (h3.block B (Blk.lt hbx) (fun e => hne e.symm)).trans hbx⟩
/-- It is put into the box. -/
theorem held_set {W w : World} {B : Nat} {v v' : Value} {zs : List Nat} (hO : Wire.Own W w v' zs) (hE : Ext W w) (hbx : Box w B v) (hB : W.heap.size ≤ B) (hp : 0 < zs.length) (hv : ∃ A n c, v = .slice A n c) : Held W (w.setCell ⟨B, 0, none⟩ v') B v' zs := by
  have hne : v'.ownBlock ≠ some B := by
    obtain ⟨A, n, c, rfl⟩ := hv
    exact fun e => by
      obtain ⟨A', c', rfl, _, _, h3⟩ := own_shape hO
      obtain ⟨g, rfl, _⟩ := h3 hp
      have e' : g = B := by simpa [Value.ownBlock] using e
      subst e'
      have h1 := hO.cellAt 0 (by omega)
      rw [c8_at hp] at h1
      have h2 := hbx.cell
      rw [h1] at h2
      cases h2
  exact ⟨Blk.set_ hbx 0 _, World.ownsRow.kept hO (gb_set w B 0 v') (.inr (fun e => hne e)), ext_set hE hB _, hB⟩
set_option maxHeartbeats 8000000 in
set_option maxRecDepth 100000 in
theorem sealC (W w : World) (B : Nat) (A : Option Addr) (c : Nat) (zs : List Nat) (h : Held W w B (.slice A zs.length c) zs) (hz : ∀ j, zs.getD j 0 < 256) (hT : Crc.Tab w) (hp : 0 < zs.length) (hn : zs.length ≤ 1000000) :
    Calls Tryd.prog 14 #[.pointer (some ⟨B, 0, none⟩)] w fun e w' => e = .returned (.tuple #[]) ∧ ∃ A' c', Held W w' B (.slice A' (zs.length + 4) c') (zs ++ fx (crc zs)) := by
  have HSM : Hid (∀ w', Ext w w' → Calls Tryd.prog 16 #[.slice A zs.length c] w' fun e w'' => e = .returned (.int .u32 (crc zs : Int)) ∧ w' = w'') := Lib.hid (fun w' hE => Crc.sum A _ _ _ w' (hT.ext hE) ((Wire.Own.bs h.2.1 hz).ext hE) (by omega))
  have HPF := Lib.hid (fun w' => putFixed none 0 0 [] (crc zs) (crc_lt zs) w' (Bs.none _ _) (fun _ => ⟨rfl, rfl⟩) (Nat.le_refl _) (by omega) (by omega))
  have hfl : (fx (crc zs)).length = 4 := rfl
  have HFS : Hid (∀ j, (fx (crc zs)).getD j 0 < 256) := Lib.hid (small_mem (fx_mem (crc_lt zs)))
  have hcl := crc_lt zs
  generalize crc zs = cr at *
  have HH := Lib.hid h
  clear h hz hT
  go_enter Tryd.func14, Tryd.ntmps14
  go_wp2_with fail
  have HH := Lib.hid (HH.out.ext (ext_drew (Ext.rfl' w)))
  have HW := Lib.hid (ext_drew (Ext.rfl' w))
  refine wp_region_held_drew (S := fun _ => True) hmxD trivial (fun _ => ?_)
  generalize w.drew = w1 at *
  refine wpAnyH_ready (rs := [0, 1]) (by kernel_rfl) (by simp) ?_
  refine AllReadyH.cons rfl (fun K hK => ?_) (AllReadyH.cons rfl (fun K hK => ?_) AllReadyH.nil)
  · have b0 := HH.out.1.cell
    go_simp
    refine hK.out _ _ trivial (fun _ => ?_)
    clear hK K
    clear b0
    refine wpAnyH_ready (rs := [1]) (by kernel_rfl) (by simp) ?_
    refine AllReadyH.cons rfl (fun K hK => ?_) AllReadyH.nil
    have b0 := HH.out.1.cell
    go_simp
    refine hK.out _ _ trivial (fun _ => ?_)
    clear hK K
    clear b0
    refine wpAnyH_ready (rs := [2]) (by kernel_rfl) (by simp) ?_
    refine AllReadyH.cons rfl (fun K hK => ?_) AllReadyH.nil
    go_simp
    refine (HSM.out _ HW.out).mono ?_
    rintro e w2 ⟨rfl, rfl⟩
    (try go_wp2_with fail)
    refine hK.out _ _ trivial (fun _ => ?_)
    clear hK K
    refine wpAnyH_ready (rs := [3]) (by kernel_rfl) (by simp) ?_
    refine AllReadyH.cons rfl (fun K hK => ?_) AllReadyH.nil
    go_simp
    refine (HPF.out _).mono ?_
    rintro e w2 ⟨g, c1, rfl, hc1, hc2, hg, ho, hE⟩
    rw [List.nil_append] at ho hc1 ⊢
    have HH := Lib.hid (HH.out.ext hE)
    have HSR : Hid (Src Tryd.prog 1 22 (.slice (some ⟨g, 0, none⟩) (fx cr).length c1) (fx cr).length (c8 (fx cr)) w2) := Lib.hid (Bs.src (Wire.Own.bs ho HFS.out) Tryd.underlying22 c1)
    clear ho hE
    (try go_wp2_with fail)
    refine hK.out _ _ trivial (fun _ => ?_)
    clear hK K
    refine wpAnyH_ready (rs := [4]) (by kernel_rfl) (by simp) ?_
    refine AllReadyH.cons rfl (fun K hK => ?_) AllReadyH.nil
    obtain ⟨v3, w3, hrun, hO3, hE3, hB3⟩ := held_app HH.out hp HSR.out (by rw [hfl]; omega)
    have HRUN := Lib.hid hrun; have HO3 := Lib.hid hO3; have HE3 := Lib.hid hE3; have HB3 := Lib.hid hB3
    clear hrun hO3 hE3 hB3
    refine wanted_append rfl (.tmp 1) (.tmp 4) 22 22 rfl _ _ rfl rfl HRUN.out ?_
    refine hK.out _ _ trivial (fun _ => ?_)
    clear hK K
    refine wpAnyH_ready (rs := [5]) (by kernel_rfl) (by simp) ?_
    refine AllReadyH.cons rfl (fun K hK => ?_) AllReadyH.nil
    have b0 := HB3.out.cell
    have b1 := HB3.out.frozen
    have HS := Lib.hid (held_set HO3.out HE3.out HB3.out HH.out.2.2.2 (by rw [List.length_append]; omega) ⟨_, _, _, rfl⟩)
    obtain ⟨A3, c3, rfl, _⟩ := own_shape HO3.out
    go_simp
    refine hK.out _ _ trivial (fun _ => ?_)
    clear hK K
    refine wpAnyH_done (by kernel_rfl) ?_ _
    go_wp2_with fail
    go_end0
    exact ⟨rfl, A3, c3, by have h := HS.out; rw [List.length_append] at h; exact h⟩
  · have b0 := HH.out.1.cell
    go_simp
    refine hK.out _ _ trivial (fun _ => ?_)
    clear hK K
    clear b0
    refine wpAnyH_ready (rs := [0, 2]) (by kernel_rfl) (by simp) ?_
    refine AllReadyH.cons rfl (fun K hK => ?_) (AllReadyH.cons rfl (fun K hK => ?_) AllReadyH.nil)
    · have b0 := HH.out.1.cell
      go_simp
      refine hK.out _ _ trivial (fun _ => ?_)
      clear hK K
      clear b0
      refine wpAnyH_ready (rs := [2]) (by kernel_rfl) (by simp) ?_
      refine AllReadyH.cons rfl (fun K hK => ?_) AllReadyH.nil
      go_simp
      refine (HSM.out _ HW.out).mono ?_
      rintro e w2 ⟨rfl, rfl⟩
      (try go_wp2_with fail)
      refine hK.out _ _ trivial (fun _ => ?_)
      clear hK K
      refine wpAnyH_ready (rs := [3]) (by kernel_rfl) (by simp) ?_
      refine AllReadyH.cons rfl (fun K hK => ?_) AllReadyH.nil
      go_simp
      refine (HPF.out _).mono ?_
      rintro e w2 ⟨g, c1, rfl, hc1, hc2, hg, ho, hE⟩
      rw [List.nil_append] at ho hc1 ⊢
      have HH := Lib.hid (HH.out.ext hE)
      have HSR : Hid (Src Tryd.prog 1 22 (.slice (some ⟨g, 0, none⟩) (fx cr).length c1) (fx cr).length (c8 (fx cr)) w2) := Lib.hid (Bs.src (Wire.Own.bs ho HFS.out) Tryd.underlying22 c1)
      clear ho hE
      (try go_wp2_with fail)
      refine hK.out _ _ trivial (fun _ => ?_)
      clear hK K
      refine wpAnyH_ready (rs := [4]) (by kernel_rfl) (by simp) ?_
      refine AllReadyH.cons rfl (fun K hK => ?_) AllReadyH.nil
      obtain ⟨v3, w3, hrun, hO3, hE3, hB3⟩ := held_app HH.out hp HSR.out (by rw [hfl]; omega)
      have HRUN := Lib.hid hrun; have HO3 := Lib.hid hO3; have HE3 := Lib.hid hE3; have HB3 := Lib.hid hB3
      clear hrun hO3 hE3 hB3
      refine wanted_append rfl (.tmp 1) (.tmp 4) 22 22 rfl _ _ rfl rfl HRUN.out ?_
      refine hK.out _ _ trivial (fun _ => ?_)
      clear hK K
      refine wpAnyH_ready (rs := [5]) (by kernel_rfl) (by simp) ?_
      refine AllReadyH.cons rfl (fun K hK => ?_) AllReadyH.nil
      have b0 := HB3.out.cell
      have b1 := HB3.out.frozen
      have HS := Lib.hid (held_set HO3.out HE3.out HB3.out HH.out.2.2.2 (by rw [List.length_append]; omega) ⟨_, _, _, rfl⟩)
      obtain ⟨A3, c3, rfl, _⟩ := own_shape HO3.out
      go_simp
      refine hK.out _ _ trivial (fun _ => ?_)
      clear hK K
      refine wpAnyH_done (by kernel_rfl) ?_ _
      go_wp2_with fail
      go_end0
      exact ⟨rfl, A3, c3, by have h := HS.out; rw [List.length_append] at h; exact h⟩
    · go_simp
      refine (HSM.out _ HW.out).mono ?_
      rintro e w2 ⟨rfl, rfl⟩
      (try go_wp2_with fail)
      refine hK.out _ _ trivial (fun _ => ?_)
      clear hK K
      refine wpAnyH_ready (rs := [0, 3]) (by kernel_rfl) (by simp) ?_
      refine AllReadyH.cons rfl (fun K hK => ?_) (AllReadyH.cons rfl (fun K hK => ?_) AllReadyH.nil)
      · have b0 := HH.out.1.cell
        go_simp
        refine hK.out _ _ trivial (fun _ => ?_)
        clear hK K
        clear b0
        refine wpAnyH_ready (rs := [3]) (by kernel_rfl) (by simp) ?_
        refine AllReadyH.cons rfl (fun K hK => ?_) AllReadyH.nil
        go_simp
        refine (HPF.out _).mono ?_
        rintro e w2 ⟨g, c1, rfl, hc1, hc2, hg, ho, hE⟩
        rw [List.nil_append] at ho hc1 ⊢
        have HH := Lib.hid (HH.out.ext hE)
        have HSR : Hid (Src Tryd.prog 1 22 (.slice (some ⟨g, 0, none⟩) (fx cr).length c1) (fx cr).length (c8 (fx cr)) w2) := Lib.hid (Bs.src (Wire.Own.bs ho HFS.out) Tryd.underlying22 c1)
        clear ho hE
        (try go_wp2_with fail)
        refine hK.out _ _ trivial (fun _ => ?_)
        clear hK K
        refine wpAnyH_ready (rs := [4]) (by kernel_rfl) (by simp) ?_
        refine AllReadyH.cons rfl (fun K hK => ?_) AllReadyH.nil
        obtain ⟨v3, w3, hrun, hO3, hE3, hB3⟩ := held_app HH.out hp HSR.out (by rw [hfl]; omega)
        have HRUN := Lib.hid hrun; have HO3 := Lib.hid hO3; have HE3 := Lib.hid hE3; have HB3 := Lib.hid hB3
        clear hrun hO3 hE3 hB3
        refine wanted_append rfl (.tmp 1) (.tmp 4) 22 22 rfl _ _ rfl rfl HRUN.out ?_
        refine hK.out _ _ trivial (fun _ => ?_)
        clear hK K
        refine wpAnyH_ready (rs := [5]) (by kernel_rfl) (by simp) ?_
        refine AllReadyH.cons rfl (fun K hK => ?_) AllReadyH.nil
        have b0 := HB3.out.cell
        have b1 := HB3.out.frozen
        have HS := Lib.hid (held_set HO3.out HE3.out HB3.out HH.out.2.2.2 (by rw [List.length_append]; omega) ⟨_, _, _, rfl⟩)
        obtain ⟨A3, c3, rfl, _⟩ := own_shape HO3.out
        go_simp
        refine hK.out _ _ trivial (fun _ => ?_)
        clear hK K
        refine wpAnyH_done (by kernel_rfl) ?_ _
        go_wp2_with fail
        go_end0
        exact ⟨rfl, A3, c3, by have h := HS.out; rw [List.length_append] at h; exact h⟩
      · go_simp
        refine (HPF.out _).mono ?_
        rintro e w2 ⟨g, c1, rfl, hc1, hc2, hg, ho, hE⟩
        rw [List.nil_append] at ho hc1 ⊢
        have HH := Lib.hid (HH.out.ext hE)
        have HSR : Hid (Src Tryd.prog 1 22 (.slice (some ⟨g, 0, none⟩) (fx cr).length c1) (fx cr).length (c8 (fx cr)) w2) := Lib.hid (Bs.src (Wire.Own.bs ho HFS.out) Tryd.underlying22 c1)
        clear ho hE
        (try go_wp2_with fail)
        refine hK.out _ _ trivial (fun _ => ?_)
        clear hK K
        refine wpAnyH_ready (rs := [0]) (by kernel_rfl) (by simp) ?_
        refine AllReadyH.cons rfl (fun K hK => ?_) AllReadyH.nil
        have b0 := HH.out.1.cell
        go_simp
        refine hK.out _ _ trivial (fun _ => ?_)
        clear hK K
        clear b0
        refine wpAnyH_ready (rs := [4]) (by kernel_rfl) (by simp) ?_
        refine AllReadyH.cons rfl (fun K hK => ?_) AllReadyH.nil
        obtain ⟨v3, w3, hrun, hO3, hE3, hB3⟩ := held_app HH.out hp HSR.out (by rw [hfl]; omega)
        have HRUN := Lib.hid hrun; have HO3 := Lib.hid hO3; have HE3 := Lib.hid hE3; have HB3 := Lib.hid hB3
        clear hrun hO3 hE3 hB3
        refine wanted_append rfl (.tmp 1) (.tmp 4) 22 22 rfl _ _ rfl rfl HRUN.out ?_
        refine hK.out _ _ trivial (fun _ => ?_)
        clear hK K
        refine wpAnyH_ready (rs := [5]) (by kernel_rfl) (by simp) ?_
        refine AllReadyH.cons rfl (fun K hK => ?_) AllReadyH.nil
        have b0 := HB3.out.cell
        have b1 := HB3.out.frozen
        have HS := Lib.hid (held_set HO3.out HE3.out HB3.out HH.out.2.2.2 (by rw [List.length_append]; omega) ⟨_, _, _, rfl⟩)
        obtain ⟨A3, c3, rfl, _⟩ := own_shape HO3.out
        go_simp
        refine hK.out _ _ trivial (fun _ => ?_)
        clear hK K
        refine wpAnyH_done (by kernel_rfl) ?_ _
        go_wp2_with fail
        go_end0
        exact ⟨rfl, A3, c3, by have h := HS.out; rw [List.length_append] at h; exact h⟩
theorem app_new {w : World} {A : Option Addr} {n : Nat} {xs ys : List Nat} {vx : Value} {tx : TypeId} (hB : Bs w A n xs) (hsrc : Src Tryd.prog 1 tx vx ys.length (c8 ys) w) (hy : 0 < ys.length) (hb : n + ys.length ≤ 100000000000) :
    ∃ A' c' w', (Builtin.append_ #[22, tx] 22 #[.slice A n n, vx]).run Tryd.prog w = .ok (.slice A' (xs ++ ys).length c') w' ∧ Wire.Own w w' (.slice A' (xs ++ ys).length c') (xs ++ ys) ∧ Ext w w' := by
  obtain ⟨i0, hi0, hz0, hz1, hz2⟩ := info_parts info8
  have hxl := hB.1
  obtain ⟨v', w', h1, h2, _, h4⟩ := run_app_grow (P := Tryd.prog) 22 tx 22 5 i0 (.int .u8 0) 1 1 Tryd.underlying22 hi0 hz0 hz1 hz2 rfl A n n (c8 xs) (by rw [c8_len, hxl, Nat.mul_one]) (hB.first _) vx ys.length (c8 ys) hsrc (by omega) (by unfold maxLen; omega) (by omega) w.heap.size (Nat.le_refl _)
  have hO : Wire.Own w w' v' (xs ++ ys) := by unfold Wire.Own; rw [List.length_append, c8_app, hxl]; exact h2
  obtain ⟨A', c', rfl, _⟩ := own_shape hO
  exact ⟨A', c', w', h1, hO, ext_grown (Ext.rfl' _) (h4 none) (fun _ h => by cases h)⟩
def SB (B : Nat) (v : Value) (w : World) : Prop := w.cell? ⟨B, 0, none⟩ = some v
theorem held_start (w wc : World) (a b : Nat) : Held wc ((wc.alloc (.cells #[.int .u8 (a : Int), .int .u8 (b : Int)] 5)).alloc (.cells #[.slice (some ⟨wc.heap.size, 0, none⟩) 2 2] 22)) (wc.heap.size + 1) (.slice (some ⟨wc.heap.size, 0, none⟩) 2 2) [a, b] := by
  refine ⟨Blk.new1 _ _ _ _, ?_, ext_alloc (ext_alloc (Ext.rfl' _) _) _, by omega⟩
  have h : Wire.Own wc (wc.alloc (.cells #[.int .u8 (a : Int), .int .u8 (b : Int)] 5)) (.slice (some ⟨wc.heap.size, 0, none⟩) 2 2) [a, b] :=
    ⟨rfl, .inr ⟨wc.heap.size, 2, _, rfl, Nat.le_refl _, heap_alloc_new wc _, Nat.le_refl _, by unfold maxLen; omega, rfl, rfl⟩⟩
  exact h.ext (ext_alloc (Ext.rfl' _) _)
/-- What is put behind bytes. -/
def PutPost (w : World) (zs : List Nat) (e : Ending) (w' : World) : Prop := ∃ A c, e = .returned (.slice A zs.length c) ∧ Wire.Own w w' (.slice A zs.length c) zs ∧ Ext w w'
set_option maxHeartbeats 8000000 in
set_option maxRecDepth 100000 in
theorem put (A A2 : Option Addr) (n c n2 c2 kind : Nat) (xs ys : List Nat) (w : World) (hT : Crc.Tab w) (hk : kind < 256) (hB : Bs w A n xs) (hnil : A = none → n = 0 ∧ c = 0) (hn : n ≤ c) (hc : c ≤ 9223372036854775807) (hN : n ≤ 4000000000)
    (hB2 : Bs w A2 n2 ys) (hn2 : n2 ≤ c2) (hc2 : c2 ≤ 9223372036854775807) (hN2 : n2 ≤ 900000) :
    Calls Tryd.prog 7 #[.slice A n c, .int .u8 (kind : Int), .slice A2 n2 c2] w (PutPost w (xs ++ chunk kind ys)) := by
  have HB := Lib.hid hB; have HB2 := Lib.hid hB2; have HT := Lib.hid hT; have HNL := Lib.hid hnil
  have HPK := Lib.hid (Lz.pack A2 n2 c2 ys w hB2 (by omega) hn2 hc2)
  have hyl : ys.length = n2 := hB2.1
  have HPB := Lib.hid (Lz.pk_byte hB2.2.1)
  obtain ⟨zs, hzs⟩ : ∃ zs, zs = Lz.pk ys 0 0 := ⟨_, rfl⟩
  rw [← hzs] at HPK HPB
  have HZS := Lib.hid hzs
  have HDS := Lib.hid hB2.2.1
  have HBL := Lib.hid (body_len ys)
  have HBS := Lib.hid (body_small hB2.2.1)
  clear hB hB2 hT hnil hzs
  go_enter Tryd.func7, Tryd.ntmps7
  go_wp2_with fail
  refine (HPK.out).mono ?_
  rintro e w1 ⟨v, rfl, hO, hE⟩
  have HE := Lib.hid hE
  obtain ⟨A1, c1, rfl, _⟩ := own_shape hO
  have HO := Lib.hid (Wire.Own.bs hO HPB.out)
  clear hO hE
  go_upto_if 19 with fail
  go_cut [7, 8] from 9 to 50 (fun hv bv wx => hv = .int .u8 (how ys : Int) ∧ (∃ Ab cb, bv = .slice Ab (body ys).length cb ∧ Bs wx Ab (body ys).length (body ys)) ∧ Ext w wx)
  case first =>
    by_cases hlt : zs.length < n2
    · have HBO : Hid (how ys = 1 ∧ body ys = zs) := Lib.hid (by
        have h2 : (Lz.pk ys 0 0).length < ys.length := by rw [← HZS.out, hyl]; exact hlt
        refine ⟨by unfold how; rw [if_pos h2], by unfold body; rw [if_pos h2, ← HZS.out]⟩)
      go_wp2_with fail
      go_meet
      refine ⟨by rw [HBO.out.1]; rfl, ⟨A1, c1, by rw [HBO.out.2], by rw [HBO.out.2]; exact HO.out⟩, HE.out⟩
    · have HBO : Hid (how ys = 0 ∧ body ys = ys) := Lib.hid (by
        have h2 : ¬ (Lz.pk ys 0 0).length < ys.length := by rw [← HZS.out, hyl]; exact hlt
        refine ⟨by unfold how; rw [if_neg h2], by unfold body; rw [if_neg h2]⟩)
      go_wp2_with fail
      go_meet
      refine ⟨by rw [HBO.out.1]; rfl, ⟨A2, c2, by rw [HBO.out.2, hyl], by rw [HBO.out.2, hyl]; exact HB2.out.ext HE.out⟩, HE.out⟩
  case rest =>
    obtain ⟨rfl, ⟨Ab, cb, rfl, hBb⟩, hE⟩ := hcut
    generalize hwb : wc = wb at *
    clear hwb
    have HBb := Lib.hid hBb; have HEw := Lib.hid hE
    clear hBb hE HPK HPB HZS HE HO
    have hhow := how_le ys
    have hbl := body_len ys
    obtain ⟨L0, hL0⟩ : ∃ L, L = [kind, how ys] := ⟨_, rfl⟩
    obtain ⟨L1, hL1⟩ : ∃ L, L = L0 ++ vb ys.length := ⟨_, rfl⟩
    obtain ⟨L2, hL2⟩ : ∃ L, L = L1 ++ vb (body ys).length := ⟨_, rfl⟩
    obtain ⟨L3, hL3⟩ : ∃ L, L = L2 ++ body ys := ⟨_, rfl⟩
    have HL3 : Hid (L3 = head kind ys) := Lib.hid (by rw [hL3, hL2, hL1, hL0]; simp [head, List.append_assoc])
    have hv1 := vb_ten (n := ys.length) (by omega)
    have hv2 := vb_ten (n := (body ys).length) (by omega)
    have HLEN : Hid (L0.length = 2 ∧ L1.length = 2 + (vb ys.length).length ∧ L2.length = L1.length + (vb (body ys).length).length ∧ L3.length = L2.length + (body ys).length) := Lib.hid ⟨by rw [hL0]; rfl, by rw [hL1, List.length_append, hL0]; rfl, by rw [hL2, List.length_append], by rw [hL3, List.length_append]⟩
    have hp0 : 0 < L0.length ∧ L0.length ≤ 2 := by have := HLEN.out; omega
    have hp1 : 0 < L1.length ∧ L1.length ≤ 12 := by have := HLEN.out; omega
    have hp2 : 0 < L2.length ∧ L2.length ≤ 22 := by have := HLEN.out; omega
    have HSM3 : Hid (∀ j, L3.getD j 0 < 256) := Lib.hid (by rw [HL3.out]; exact small_mem (head_small hk HDS.out))
    have HL0 := Lib.hid hL0; have HL1 := Lib.hid hL1; have HL2 := Lib.hid hL2; have HL3' := Lib.hid hL3
    go_upto_region 7 with fail
    have HH := Lib.hid (held_start w wb kind (how ys))
    rw [← HL0.out] at HH
    clear hL0 hL1 hL2 hL3
    generalize (wb.alloc (.cells #[.int .u8 (kind : Int), .int .u8 (how ys : Int)] 5)).alloc (.cells #[.slice (some ⟨wb.heap.size, 0, none⟩) 2 2] 22) = W1 at *
    obtain ⟨A0, hA0⟩ : ∃ A0, A0 = (some ⟨wb.heap.size, 0, none⟩ : Option Addr) := ⟨_, rfl⟩
    rw [← hA0] at HH ⊢
    clear hA0
    generalize wb.heap.size + 1 = B at *
    go_cut [] from 25 to 50 (fun wx => ∃ A3 c3, Held wb wx B (.slice A3 L1.length c3) L1)
    case first =>
      obtain ⟨vs, hvs⟩ : ∃ vs, vs = vb ys.length := ⟨_, rfl⟩
      have HPV := Lib.hid (fun w' => Wire.put none 0 0 [] n2 (by omega) w' (Bs.none _ _) (fun _ => ⟨rfl, rfl⟩) (Nat.le_refl _) (by omega) (by omega))
      have HVS : Hid (∀ j, vs.getD j 0 < 256) := Lib.hid (by rw [hvs]; exact vb_byte _)
      rw [← hyl, ← hvs, hyl] at HPV
      rw [← hvs] at HL1 hv1
      have hp : 0 < L0.length := hp0.1
      have hwr : IntKind.u64.wrap (n2 : Int) = (n2 : Int) := by rw [IntKind.wrap_u64]; omega
      have HH := Lib.hid (HH.out.ext (ext_drew (Ext.rfl' W1)))
      clear hvs
      refine wp_region_held_drew (S := fun _ => True) hmxD trivial (fun _ => ?_)
      generalize W1.drew = W2 at *
      (refine wpAnyH_take (i := 1) (v := ?_) rfl (by kernel_rfl) (by kernel_rfl) (by kernel_rfl) (fun _ _ _ h => h) (Or.inl ⟨by rfl, ?_⟩) trivial ?_); rotate_left
      · (intro w' hSw; go_simp; try with_reducible rfl)
      (refine wpAnyH_take (i := 2) (v := ?_) rfl (by kernel_rfl) (by kernel_rfl) (by kernel_rfl) (fun _ _ _ h => h) (Or.inl ⟨by rfl, ?_⟩) trivial ?_); rotate_left
      · (intro w' hSw; go_simp; try with_reducible rfl)
      (refine wpAnyH_take (i := 3) (v := ?_) rfl (by kernel_rfl) (by kernel_rfl) (by kernel_rfl) (fun _ _ _ h => h) (Or.inl ⟨by rfl, ?_⟩) trivial ?_); rotate_left
      · (intro w' hSw; go_simp; try with_reducible rfl)
      refine wpAnyH_ready (rs := [0, 4]) (by kernel_rfl) (by simp) ?_
      refine AllReadyH.cons rfl (fun K hK => ?_) (AllReadyH.cons rfl (fun K hK => ?_) AllReadyH.nil)
      · have b0 := HH.out.1.cell
        go_simp
        refine hK.out _ _ trivial (fun _ => ?_)
        clear hK K
        clear b0
        refine wpAnyH_ready (rs := [4]) (by kernel_rfl) (by simp) ?_
        refine AllReadyH.cons rfl (fun K hK => ?_) AllReadyH.nil
        go_simp
        refine (HPV.out _).mono ?_
        rintro e w2 ⟨g, c1, rfl, hc1, hc2, hg, ho, hE⟩
        rw [List.nil_append] at ho hc1 ⊢
        have HH := Lib.hid (HH.out.ext hE)
        have HSR : Hid (Src Tryd.prog 1 22 (.slice (some ⟨g, 0, none⟩) vs.length c1) vs.length (c8 vs) w2) := Lib.hid (Bs.src (Wire.Own.bs ho HVS.out) Tryd.underlying22 c1)
        clear ho hE
        (try go_wp2_with fail)
        refine hK.out _ _ trivial (fun _ => ?_)
        clear hK K
        refine wpAnyH_ready (rs := [5]) (by kernel_rfl) (by simp) ?_
        refine AllReadyH.cons rfl (fun K hK => ?_) AllReadyH.nil
        obtain ⟨v3, w3, hrun, hO3, hE3, hB3⟩ := held_app HH.out hp HSR.out (by omega)
        have HRUN := Lib.hid hrun; have HO3 := Lib.hid hO3; have HE3 := Lib.hid hE3; have HB3 := Lib.hid hB3
        clear hrun hO3 hE3 hB3
        refine wanted_append rfl (.tmp 25) (.tmp 29) 22 22 rfl _ _ rfl rfl HRUN.out ?_
        refine hK.out _ _ trivial (fun _ => ?_)
        clear hK K
        refine wpAnyH_ready (rs := [6]) (by kernel_rfl) (by simp) ?_
        refine AllReadyH.cons rfl (fun K hK => ?_) AllReadyH.nil
        have b0 := HB3.out.cell
        have b1 := HB3.out.frozen
        have HS := Lib.hid (held_set HO3.out HE3.out HB3.out HH.out.2.2.2 (by rw [List.length_append]; omega) ⟨_, _, _, rfl⟩)
        obtain ⟨A3, c3, rfl, _⟩ := own_shape HO3.out
        go_simp
        refine hK.out _ _ trivial (fun _ => ?_)
        clear hK K
        refine wpAnyH_done (by kernel_rfl) ?_ _
        go_wp2_with fail
        go_meet
        exact ⟨A3, c3, by rw [HL1.out]; have h := HS.out; simp only [List.length_append] at h ⊢; exact h⟩
      · go_simp
        refine (HPV.out _).mono ?_
        rintro e w2 ⟨g, c1, rfl, hc1, hc2, hg, ho, hE⟩
        rw [List.nil_append] at ho hc1 ⊢
        have HH := Lib.hid (HH.out.ext hE)
        have HSR : Hid (Src Tryd.prog 1 22 (.slice (some ⟨g, 0, none⟩) vs.length c1) vs.length (c8 vs) w2) := Lib.hid (Bs.src (Wire.Own.bs ho HVS.out) Tryd.underlying22 c1)
        clear ho hE
        (try go_wp2_with fail)
        refine hK.out _ _ trivial (fun _ => ?_)
        clear hK K
        refine wpAnyH_ready (rs := [0]) (by kernel_rfl) (by simp) ?_
        refine AllReadyH.cons rfl (fun K hK => ?_) AllReadyH.nil
        have b0 := HH.out.1.cell
        go_simp
        refine hK.out _ _ trivial (fun _ => ?_)
        clear hK K
        clear b0
        refine wpAnyH_ready (rs := [5]) (by kernel_rfl) (by simp) ?_
        refine AllReadyH.cons rfl (fun K hK => ?_) AllReadyH.nil
        obtain ⟨v3, w3, hrun, hO3, hE3, hB3⟩ := held_app HH.out hp HSR.out (by omega)
        have HRUN := Lib.hid hrun; have HO3 := Lib.hid hO3; have HE3 := Lib.hid hE3; have HB3 := Lib.hid hB3
        clear hrun hO3 hE3 hB3
        refine wanted_append rfl (.tmp 25) (.tmp 29) 22 22 rfl _ _ rfl rfl HRUN.out ?_
        refine hK.out _ _ trivial (fun _ => ?_)
        clear hK K
        refine wpAnyH_ready (rs := [6]) (by kernel_rfl) (by simp) ?_
        refine AllReadyH.cons rfl (fun K hK => ?_) AllReadyH.nil
        have b0 := HB3.out.cell
        have b1 := HB3.out.frozen
        have HS := Lib.hid (held_set HO3.out HE3.out HB3.out HH.out.2.2.2 (by rw [List.length_append]; omega) ⟨_, _, _, rfl⟩)
        obtain ⟨A3, c3, rfl, _⟩ := own_shape HO3.out
        go_simp
        refine hK.out _ _ trivial (fun _ => ?_)
        clear hK K
        refine wpAnyH_done (by kernel_rfl) ?_ _
        go_wp2_with fail
        go_meet
        exact ⟨A3, c3, by rw [HL1.out]; have h := HS.out; simp only [List.length_append] at h ⊢; exact h⟩
    case rest =>
      obtain ⟨A3, c3, hH⟩ := hcut
      have HH := Lib.hid hH
      clear hH
      go_upto_region 8 with fail
      go_cut [] from 25 to 50 (fun wx => ∃ A3 c3, Held wb wx B (.slice A3 L2.length c3) L2)
      case first =>
        obtain ⟨vs, hvs⟩ : ∃ vs, vs = vb (body ys).length := ⟨_, rfl⟩
        have HPV := Lib.hid (fun w' => Wire.put none 0 0 [] (body ys).length (by omega) w' (Bs.none _ _) (fun _ => ⟨rfl, rfl⟩) (Nat.le_refl _) (by omega) (by omega))
        have HVS : Hid (∀ j, vs.getD j 0 < 256) := Lib.hid (by rw [hvs]; exact vb_byte _)
        rw [← hvs] at HPV HL2 hv2
        have hp : 0 < L1.length := hp1.1
        have hwr : IntKind.u64.wrap ((body ys).length : Int) = ((body ys).length : Int) := by rw [IntKind.wrap_u64]; omega
        have HH := Lib.hid (HH.out.ext (ext_drew (Ext.rfl' _)))
        clear hvs
        refine wp_region_held_drew (S := fun _ => True) hmxD trivial (fun _ => ?_)
        generalize World.drew _ = W2 at *
        (refine wpAnyH_take (i := 1) (v := ?_) rfl (by kernel_rfl) (by kernel_rfl) (by kernel_rfl) (fun _ _ _ h => h) (Or.inl ⟨by rfl, ?_⟩) trivial ?_); rotate_left
        · (intro w' hSw; go_simp; try with_reducible rfl)
        (refine wpAnyH_take (i := 2) (v := ?_) rfl (by kernel_rfl) (by kernel_rfl) (by kernel_rfl) (fun _ _ _ h => h) (Or.inl ⟨by rfl, ?_⟩) trivial ?_); rotate_left
        · (intro w' hSw; go_simp; try with_reducible rfl)
        (refine wpAnyH_take (i := 3) (v := ?_) rfl (by kernel_rfl) (by kernel_rfl) (by kernel_rfl) (fun _ _ _ h => h) (Or.inl ⟨by rfl, ?_⟩) trivial ?_); rotate_left
        · (intro w' hSw; go_simp; try with_reducible rfl)
        refine wpAnyH_ready (rs := [0, 4]) (by kernel_rfl) (by simp) ?_
        refine AllReadyH.cons rfl (fun K hK => ?_) (AllReadyH.cons rfl (fun K hK => ?_) AllReadyH.nil)
        · have b0 := HH.out.1.cell
          go_simp
          refine hK.out _ _ trivial (fun _ => ?_)
          clear hK K
          clear b0
          refine wpAnyH_ready (rs := [4]) (by kernel_rfl) (by simp) ?_
          refine AllReadyH.cons rfl (fun K hK => ?_) AllReadyH.nil
          go_simp
          refine (HPV.out _).mono ?_
          rintro e w2 ⟨g, c1, rfl, hc1, hc2, hg, ho, hE⟩
          rw [List.nil_append] at ho hc1 ⊢
          have HH := Lib.hid (HH.out.ext hE)
          have HSR : Hid (Src Tryd.prog 1 22 (.slice (some ⟨g, 0, none⟩) vs.length c1) vs.length (c8 vs) w2) := Lib.hid (Bs.src (Wire.Own.bs ho HVS.out) Tryd.underlying22 c1)
          clear ho hE
          (try go_wp2_with fail)
          refine hK.out _ _ trivial (fun _ => ?_)
          clear hK K
          refine wpAnyH_ready (rs := [5]) (by kernel_rfl) (by simp) ?_
          refine AllReadyH.cons rfl (fun K hK => ?_) AllReadyH.nil
          obtain ⟨v3, w3, hrun, hO3, hE3, hB3⟩ := held_app HH.out hp HSR.out (by omega)
          have HRUN := Lib.hid hrun; have HO3 := Lib.hid hO3; have HE3 := Lib.hid hE3; have HB3 := Lib.hid hB3
          clear hrun hO3 hE3 hB3
          refine wanted_append rfl (.tmp 31) (.tmp 35) 22 22 rfl _ _ rfl rfl HRUN.out ?_
          refine hK.out _ _ trivial (fun _ => ?_)
          clear hK K
          refine wpAnyH_ready (rs := [6]) (by kernel_rfl) (by simp) ?_
          refine AllReadyH.cons rfl (fun K hK => ?_) AllReadyH.nil
          have b0 := HB3.out.cell
          have b1 := HB3.out.frozen
          have HS := Lib.hid (held_set HO3.out HE3.out HB3.out HH.out.2.2.2 (by rw [List.length_append]; omega) ⟨_, _, _, rfl⟩)
          obtain ⟨A3, c3, rfl, _⟩ := own_shape HO3.out
          go_simp
          refine hK.out _ _ trivial (fun _ => ?_)
          clear hK K
          refine wpAnyH_done (by kernel_rfl) ?_ _
          go_wp2_with fail
          go_meet
          exact ⟨A3, c3, by rw [HL2.out]; have h := HS.out; simp only [List.length_append] at h ⊢; exact h⟩
        · go_simp
          refine (HPV.out _).mono ?_
          rintro e w2 ⟨g, c1, rfl, hc1, hc2, hg, ho, hE⟩
          rw [List.nil_append] at ho hc1 ⊢
          have HH := Lib.hid (HH.out.ext hE)
          have HSR : Hid (Src Tryd.prog 1 22 (.slice (some ⟨g, 0, none⟩) vs.length c1) vs.length (c8 vs) w2) := Lib.hid (Bs.src (Wire.Own.bs ho HVS.out) Tryd.underlying22 c1)
          clear ho hE
          (try go_wp2_with fail)
          refine hK.out _ _ trivial (fun _ => ?_)
          clear hK K
          refine wpAnyH_ready (rs := [0]) (by kernel_rfl) (by simp) ?_
          refine AllReadyH.cons rfl (fun K hK => ?_) AllReadyH.nil
          have b0 := HH.out.1.cell
          go_simp
          refine hK.out _ _ trivial (fun _ => ?_)
          clear hK K
          clear b0
          refine wpAnyH_ready (rs := [5]) (by kernel_rfl) (by simp) ?_
          refine AllReadyH.cons rfl (fun K hK => ?_) AllReadyH.nil
          obtain ⟨v3, w3, hrun, hO3, hE3, hB3⟩ := held_app HH.out hp HSR.out (by omega)
          have HRUN := Lib.hid hrun; have HO3 := Lib.hid hO3; have HE3 := Lib.hid hE3; have HB3 := Lib.hid hB3
          clear hrun hO3 hE3 hB3
          refine wanted_append rfl (.tmp 31) (.tmp 35) 22 22 rfl _ _ rfl rfl HRUN.out ?_
          refine hK.out _ _ trivial (fun _ => ?_)
          clear hK K
          refine wpAnyH_ready (rs := [6]) (by kernel_rfl) (by simp) ?_
          refine AllReadyH.cons rfl (fun K hK => ?_) AllReadyH.nil
          have b0 := HB3.out.cell
          have b1 := HB3.out.frozen
          have HS := Lib.hid (held_set HO3.out HE3.out HB3.out HH.out.2.2.2 (by rw [List.length_append]; omega) ⟨_, _, _, rfl⟩)
          obtain ⟨A3, c3, rfl, _⟩ := own_shape HO3.out
          go_simp
          refine hK.out _ _ trivial (fun _ => ?_)
          clear hK K
          refine wpAnyH_done (by kernel_rfl) ?_ _
          go_wp2_with fail
          go_meet
          exact ⟨A3, c3, by rw [HL2.out]; have h := HS.out; simp only [List.length_append] at h ⊢; exact h⟩
      case rest =>
        obtain ⟨A4, c4, hH⟩ := hcut
        have HH := Lib.hid hH
        clear hH
        have hp : 0 < L2.length := hp2.1
        have HSR : Hid (Src Tryd.prog 1 22 (.slice Ab (body ys).length cb) (body ys).length (c8 (body ys)) wc) := Lib.hid (Bs.src (HBb.out.ext HH.out.2.2.1) Tryd.underlying22 cb)
        obtain ⟨v3, w3, hrun, hO3, hE3, hB3⟩ := held_app HH.out hp HSR.out (by omega)
        have HRUN := Lib.hid hrun
        have HS := Lib.hid (held_set hO3 hE3 hB3 HH.out.2.2.2 (by rw [List.length_append]; omega) ⟨_, _, _, rfl⟩)
        obtain ⟨A3, c3, rfl, _⟩ := own_shape hO3
        rw [← HL3'.out] at HS HRUN
        have b0 := HH.out.1.cell
        have b1 := hB3.cell
        have b2 := hB3.frozen
        clear hrun hO3 hE3 hB3
        go_upto_region 10 with (first | (at_builtin; refine wpList_of_append rfl (.tmp 37) (.tmp 38) 22 22 rfl _ _ rfl rfl HRUN.out ?_))
        clear HRUN b0 b1 b2 HH
        generalize w3.setCell ⟨B, 0, none⟩ (.slice A3 L3.length c3) = W3 at *
        go_wp2_with fail
        refine (sealC wb W3 B A3 c3 L3 HS.out HSM3.out (HT.out.ext (ext_trans HEw.out HS.out.2.2.1)) (by have := HLEN.out; omega) (by have := HLEN.out; omega)).mono ?_
        rintro e W4 ⟨rfl, A5, c5, hH⟩
        have hcl : (chunk kind ys).length = L3.length + 4 := by rw [chunk_len, ← HL3.out]
        have hch : L3 ++ fx (crc L3) = chunk kind ys := by unfold chunk; rw [HL3.out]
        rw [hch, ← hcl] at hH
        have HH := Lib.hid hH
        have hcp := chunk_pos kind ys
        have hcs : (chunk kind ys).length ≤ 1000000 := by have := HLEN.out; omega
        have HCS : Hid (∀ j, (chunk kind ys).getD j 0 < 256) := Lib.hid (small_mem (chunk_small hk HDS.out))
        generalize chunk kind ys = ch at *
        clear hH hcl hch
        go_upto_region 11 with fail
        have HX0 := Lib.hid (show SB B (.slice A5 ch.length c5) (World.drew _) from (HH.out.ext (ext_drew (Ext.rfl' _))).1.cell)
        have HH := Lib.hid (HH.out.ext (ext_drew (Ext.rfl' _)))
        refine wp_region_held_drew (S := SB B (.slice A5 ch.length c5)) hmxD HX0.out (fun _ => ?_)
        generalize World.drew _ = WZ at *
        have HEZ := Lib.hid (ext_trans HEw.out HH.out.2.2.1)
        have HSR9 : Hid (Src Tryd.prog 1 22 (.slice A5 ch.length c5) ch.length (c8 ch) WZ) := Lib.hid (Bs.src (Wire.Own.bs HH.out.2.1 HCS.out) Tryd.underlying22 c5)
        have hxl : xs.length = n := HB.out.1
        obtain ⟨A9, c9, W9, hrun, hO9, hE9⟩ := app_new (HB.out.ext HEZ.out) HSR9.out (by omega) (by omega)
        have HRUN := Lib.hid hrun; have HE9 := Lib.hid hE9; have HE0 := Lib.hid (ext_trans HEZ.out hE9)
        have HO9 : Hid (Wire.Own w W9 (.slice A9 (xs ++ ch).length c9) (xs ++ ch)) := Lib.hid (Com.own_low hO9 HEZ.out.size)
        clear hrun hO9 hE9 hxl
        rcases A with _ | a
        · obtain ⟨rfl, rfl⟩ := HNL.out rfl
          (refine wpAnyH_take (i := 0) (oi := { dst := some 42, op := Go.Op.move (Go.Operand.tmp 0), type := 22, pos := "chunk.go:35", after := #[], guard := none }) (v := ?_) rfl (by kernel_rfl) (by kernel_rfl) (by kernel_rfl) (fun _ _ _ h => h) (Or.inl ⟨by rfl, ?_⟩) HX0.out ?_); rotate_left
          · (intro w' hSw; go_simp; try with_reducible rfl)
          try simp only [Act.put, List.setIfInBounds_toArray, List.set_cons_zero, List.set_cons_succ]
          (refine wpAnyH_take (i := 1) (oi := { dst := some 43, op := Go.Op.move (Go.Operand.tmp 0), type := 22, pos := "chunk.go:35", after := #[], guard := none }) (v := ?_) rfl (by kernel_rfl) (by kernel_rfl) (by kernel_rfl) (fun _ _ _ h => h) (Or.inl ⟨by rfl, ?_⟩) HX0.out ?_); rotate_left
          · (intro w' hSw; go_simp; try with_reducible rfl)
          try simp only [Act.put, List.setIfInBounds_toArray, List.set_cons_zero, List.set_cons_succ]
          (refine wpAnyH_take (i := 2) (oi := { dst := some 44, op := Go.Op.call { callee := Go.Callee.builtin Go.Builtin.len, args := #[Go.Operand.tmp 43], argTypes := #[22] }, type := 3, pos := "chunk.go:35", after := #[{ on := 1, ground := Go.Ground.data }], guard := none }) (v := ?_) rfl (by kernel_rfl) (by kernel_rfl) (by kernel_rfl) (fun _ _ _ h => h) (Or.inl ⟨by rfl, ?_⟩) HX0.out ?_); rotate_left
          · (intro w' hSw; go_simp; try with_reducible rfl)
          try simp only [Act.put, List.setIfInBounds_toArray, List.set_cons_zero, List.set_cons_succ]
          (refine wpAnyH_take (i := 3) (oi := { dst := some 45, op := Go.Op.move (Go.Operand.tmp 0), type := 22, pos := "chunk.go:35", after := #[], guard := none }) (v := ?_) rfl (by kernel_rfl) (by kernel_rfl) (by kernel_rfl) (fun _ _ _ h => h) (Or.inl ⟨by rfl, ?_⟩) HX0.out ?_); rotate_left
          · (intro w' hSw; go_simp; try with_reducible rfl)
          try simp only [Act.put, List.setIfInBounds_toArray, List.set_cons_zero, List.set_cons_succ]
          (refine wpAnyH_take (i := 4) (oi := { dst := some 46, op := Go.Op.call { callee := Go.Callee.builtin Go.Builtin.len, args := #[Go.Operand.tmp 45], argTypes := #[22] }, type := 3, pos := "chunk.go:35", after := #[{ on := 3, ground := Go.Ground.data }], guard := none }) (v := ?_) rfl (by kernel_rfl) (by kernel_rfl) (by kernel_rfl) (fun _ _ _ h => h) (Or.inl ⟨by rfl, ?_⟩) HX0.out ?_); rotate_left
          · (intro w' hSw; go_simp; try with_reducible rfl)
          try simp only [Act.put, List.setIfInBounds_toArray, List.set_cons_zero, List.set_cons_succ]
          (refine wpAnyH_take (i := 5) (oi := { dst := some 47, op := Go.Op.slice 22 (Go.Operand.tmp 42) none (some (Go.Operand.tmp 44)) (some (Go.Operand.tmp 46)), type := 22, pos := "chunk.go:35", after := #[{ on := 0, ground := Go.Ground.data }, { on := 2, ground := Go.Ground.data }, { on := 4, ground := Go.Ground.data }], guard := none }) (v := ?_) rfl (by kernel_rfl) (by kernel_rfl) (by kernel_rfl) (fun _ _ _ h => h) (Or.inl ⟨by rfl, ?_⟩) HX0.out ?_); rotate_left
          · (intro w' hSw; go_simp; try with_reducible rfl)
          try simp only [Act.put, List.setIfInBounds_toArray, List.set_cons_zero, List.set_cons_succ]
          (refine wpAnyH_take (i := 6) (oi := { dst := some 48, op := Go.Op.load 22 (Go.Operand.tmp 10), type := 22, pos := "chunk.go:35", after := #[], guard := none }) (v := ?_) rfl (by kernel_rfl) (by kernel_rfl) (by kernel_rfl) (fun _ _ _ h => h) (Or.inl ⟨by rfl, ?_⟩) HX0.out ?_); rotate_left
          · (intro w' hSw; have hsw : w'.cell? ⟨B, 0, none⟩ = some (.slice A5 ch.length c5) := hSw; go_simp; try with_reducible rfl)
          try simp only [Act.put, List.setIfInBounds_toArray, List.set_cons_zero, List.set_cons_succ]
          refine wpAnyH_ready (rs := [7]) (by kernel_rfl) (by simp) ?_
          refine AllReadyH.cons (o := { dst := some 49, op := Go.Op.call { callee := Go.Callee.builtin Go.Builtin.append, args := #[Go.Operand.tmp 47, Go.Operand.tmp 48], argTypes := #[22, 22] }, type := 22, pos := "chunk.go:35", after := #[{ on := 5, ground := Go.Ground.data }, { on := 6, ground := Go.Ground.data }], guard := none }) (by kernel_rfl) (fun K hK => ?_) AllReadyH.nil
          refine wanted_append rfl (.tmp 47) (.tmp 48) 22 22 rfl (.slice none 0 0) (.slice A5 ch.length c5) rfl rfl HRUN.out ?_
          refine hK.out _ _ (kc HE9.out HX0.out) (fun _ => ?_)
          clear hK K
          (refine wpAnyH_take (i := 8) (oi := { dst := some 6, op := Go.Op.assign (Go.Operand.tmp 49), type := 22, pos := "chunk.go:35", after := #[{ on := 7, ground := Go.Ground.data }, { on := 7, ground := Go.Ground.chain }, { on := 0, ground := Go.Ground.phase }, { on := 1, ground := Go.Ground.phase }, { on := 2, ground := Go.Ground.phase }, { on := 3, ground := Go.Ground.phase }, { on := 4, ground := Go.Ground.phase }, { on := 5, ground := Go.Ground.phase }, { on := 6, ground := Go.Ground.phase }, { on := 7, ground := Go.Ground.phase }], guard := none }) (v := ?_) rfl (by kernel_rfl) (by kernel_rfl) (by kernel_rfl) (fun _ _ _ h => h) (Or.inl ⟨by rfl, ?_⟩) (kc HE9.out HX0.out) ?_); rotate_left
          · (intro w' hSw; go_simp; try with_reducible rfl)
          try simp only [Act.put, List.setIfInBounds_toArray, List.set_cons_zero, List.set_cons_succ]
          refine wpAnyH_done (by kernel_rfl) ?_ _
          go_wp2_with fail
          go_ret
          exact ⟨A9, c9, by rw [List.length_append]; rfl, HO9.out, HE0.out⟩
        · have hz : (0 : Int) ≤ (n : Int) := by omega
          (refine wpAnyH_take (i := 0) (oi := { dst := some 42, op := Go.Op.move (Go.Operand.tmp 0), type := 22, pos := "chunk.go:35", after := #[], guard := none }) (v := ?_) rfl (by kernel_rfl) (by kernel_rfl) (by kernel_rfl) (fun _ _ _ h => h) (Or.inl ⟨by rfl, ?_⟩) HX0.out ?_); rotate_left
          · (intro w' hSw; go_simp; try with_reducible rfl)
          try simp only [Act.put, List.setIfInBounds_toArray, List.set_cons_zero, List.set_cons_succ]
          (refine wpAnyH_take (i := 1) (oi := { dst := some 43, op := Go.Op.move (Go.Operand.tmp 0), type := 22, pos := "chunk.go:35", after := #[], guard := none }) (v := ?_) rfl (by kernel_rfl) (by kernel_rfl) (by kernel_rfl) (fun _ _ _ h => h) (Or.inl ⟨by rfl, ?_⟩) HX0.out ?_); rotate_left
          · (intro w' hSw; go_simp; try with_reducible rfl)
          try simp only [Act.put, List.setIfInBounds_toArray, List.set_cons_zero, List.set_cons_succ]
          (refine wpAnyH_take (i := 2) (oi := { dst := some 44, op := Go.Op.call { callee := Go.Callee.builtin Go.Builtin.len, args := #[Go.Operand.tmp 43], argTypes := #[22] }, type := 3, pos := "chunk.go:35", after := #[{ on := 1, ground := Go.Ground.data }], guard := none }) (v := ?_) rfl (by kernel_rfl) (by kernel_rfl) (by kernel_rfl) (fun _ _ _ h => h) (Or.inl ⟨by rfl, ?_⟩) HX0.out ?_); rotate_left
          · (intro w' hSw; go_simp; try with_reducible rfl)
          try simp only [Act.put, List.setIfInBounds_toArray, List.set_cons_zero, List.set_cons_succ]
          (refine wpAnyH_take (i := 3) (oi := { dst := some 45, op := Go.Op.move (Go.Operand.tmp 0), type := 22, pos := "chunk.go:35", after := #[], guard := none }) (v := ?_) rfl (by kernel_rfl) (by kernel_rfl) (by kernel_rfl) (fun _ _ _ h => h) (Or.inl ⟨by rfl, ?_⟩) HX0.out ?_); rotate_left
          · (intro w' hSw; go_simp; try with_reducible rfl)
          try simp only [Act.put, List.setIfInBounds_toArray, List.set_cons_zero, List.set_cons_succ]
          (refine wpAnyH_take (i := 4) (oi := { dst := some 46, op := Go.Op.call { callee := Go.Callee.builtin Go.Builtin.len, args := #[Go.Operand.tmp 45], argTypes := #[22] }, type := 3, pos := "chunk.go:35", after := #[{ on := 3, ground := Go.Ground.data }], guard := none }) (v := ?_) rfl (by kernel_rfl) (by kernel_rfl) (by kernel_rfl) (fun _ _ _ h => h) (Or.inl ⟨by rfl, ?_⟩) HX0.out ?_); rotate_left
          · (intro w' hSw; go_simp; try with_reducible rfl)
          try simp only [Act.put, List.setIfInBounds_toArray, List.set_cons_zero, List.set_cons_succ]
          (refine wpAnyH_take (i := 5) (oi := { dst := some 47, op := Go.Op.slice 22 (Go.Operand.tmp 42) none (some (Go.Operand.tmp 44)) (some (Go.Operand.tmp 46)), type := 22, pos := "chunk.go:35", after := #[{ on := 0, ground := Go.Ground.data }, { on := 2, ground := Go.Ground.data }, { on := 4, ground := Go.Ground.data }], guard := none }) (v := ?_) rfl (by kernel_rfl) (by kernel_rfl) (by kernel_rfl) (fun _ _ _ h => h) (Or.inl ⟨by rfl, ?_⟩) HX0.out ?_); rotate_left
          · (intro w' hSw; go_simp; try with_reducible rfl)
          try simp only [Act.put, List.setIfInBounds_toArray, List.set_cons_zero, List.set_cons_succ]
          (refine wpAnyH_take (i := 6) (oi := { dst := some 48, op := Go.Op.load 22 (Go.Operand.tmp 10), type := 22, pos := "chunk.go:35", after := #[], guard := none }) (v := ?_) rfl (by kernel_rfl) (by kernel_rfl) (by kernel_rfl) (fun _ _ _ h => h) (Or.inl ⟨by rfl, ?_⟩) HX0.out ?_); rotate_left
          · (intro w' hSw; have hsw : w'.cell? ⟨B, 0, none⟩ = some (.slice A5 ch.length c5) := hSw; go_simp; try with_reducible rfl)
          try simp only [Act.put, List.setIfInBounds_toArray, List.set_cons_zero, List.set_cons_succ]
          refine wpAnyH_ready (rs := [7]) (by kernel_rfl) (by simp) ?_
          refine AllReadyH.cons (o := { dst := some 49, op := Go.Op.call { callee := Go.Callee.builtin Go.Builtin.append, args := #[Go.Operand.tmp 47, Go.Operand.tmp 48], argTypes := #[22, 22] }, type := 22, pos := "chunk.go:35", after := #[{ on := 5, ground := Go.Ground.data }, { on := 6, ground := Go.Ground.data }], guard := none }) (by kernel_rfl) (fun K hK => ?_) AllReadyH.nil
          refine wanted_append rfl (.tmp 47) (.tmp 48) 22 22 rfl (.slice (some a) n n) (.slice A5 ch.length c5) rfl rfl HRUN.out ?_
          refine hK.out _ _ (kc HE9.out HX0.out) (fun _ => ?_)
          clear hK K
          (refine wpAnyH_take (i := 8) (oi := { dst := some 6, op := Go.Op.assign (Go.Operand.tmp 49), type := 22, pos := "chunk.go:35", after := #[{ on := 7, ground := Go.Ground.data }, { on := 7, ground := Go.Ground.chain }, { on := 0, ground := Go.Ground.phase }, { on := 1, ground := Go.Ground.phase }, { on := 2, ground := Go.Ground.phase }, { on := 3, ground := Go.Ground.phase }, { on := 4, ground := Go.Ground.phase }, { on := 5, ground := Go.Ground.phase }, { on := 6, ground := Go.Ground.phase }, { on := 7, ground := Go.Ground.phase }], guard := none }) (v := ?_) rfl (by kernel_rfl) (by kernel_rfl) (by kernel_rfl) (fun _ _ _ h => h) (Or.inl ⟨by rfl, ?_⟩) (kc HE9.out HX0.out) ?_); rotate_left
          · (intro w' hSw; go_simp; try with_reducible rfl)
          try simp only [Act.put, List.setIfInBounds_toArray, List.set_cons_zero, List.set_cons_succ]
          refine wpAnyH_done (by kernel_rfl) ?_ _
          go_wp2_with fail
          go_ret
          exact ⟨A9, c9, by rw [List.length_append]; rfl, HO9.out, HE0.out⟩
end Go.Proofs.YtckjmabacibojaaDoor.Chk
namespace Go.Proofs.YtckjmabacibojaaDoor.Chk
open Go.ChangeShapes Go.WideShapes Go.ChangeAt Go.RowKit
open Go.Proofs.YtckjmabacibojaaDoor.Wire
set_option linter.unusedVariables false

/-- The block of a row of the call's own. -/
theorem own_blk {W w : World} {g n c : Nat} {zs : List Nat} (h : Wire.Own W w (.slice (some ⟨g, 0, none⟩) n c) zs) (hp : 0 < n) : ∃ cur, Blk w g 5 cur ∧ ∀ j, j < zs.length → cur[j]? = some (.int .u8 (zs.getD j 0 : Nat)) := by
  rcases h.2 with ⟨h1, _⟩ | ⟨g', cap, cur, h1, h2, h3, h4, h5, h6, h7⟩
  · cases h1
  · obtain ⟨h8, h9, h10⟩ := Value.slice.inj h1
    obtain rfl : g = g' := by cases h8; rfl
    refine ⟨cur, h3, fun j hj => ?_⟩
    have h11 := c8_at hj
    rw [← h7, List.getElem?_take, if_pos (by omega)] at h11
    rw [← h11]; simp
theorem bs_blk {w : World} {g : Nat} {t : TypeId} {cur : Array Value} {zs : List Nat} (h : Blk w g t cur) (hc : ∀ j, j < zs.length → cur[j]? = some (.int .u8 (zs.getD j 0 : Nat))) (hz : ∀ j, zs.getD j 0 < 256) : Bs w (some ⟨g, 0, none⟩) zs.length zs :=
  ⟨rfl, hz, fun hp => ⟨g, 0, rfl, h.lt, fun j hj => by rw [Nat.zero_add, h.cell, hc j hj]⟩⟩
theorem blk_put {w : World} {g : Nat} {t : TypeId} {cur : Array Value} {zs : List Nat} (h : Blk w g t cur) (hc : ∀ j, j < zs.length → cur[j]? = some (.int .u8 (zs.getD j 0 : Nat))) (i c' : Nat) :
    Blk (w.setCell ⟨g, i, none⟩ (.int .u8 (c' : Int))) g t (cur.setIfInBounds i (.int .u8 (c' : Int))) ∧ ∀ j, j < (zs.set i c').length → (cur.setIfInBounds i (.int .u8 (c' : Int)))[j]? = some (.int .u8 ((zs.set i c').getD j 0 : Nat)) := by
  refine ⟨h.set_ i _, fun j hj => ?_⟩
  rw [List.length_set] at hj
  have h1 := hc j hj
  have h2 : j < cur.size := by
    rcases Nat.lt_or_ge j cur.size with h | h
    · exact h
    · rw [Array.getElem?_eq_none h] at h1; cases h1
  rw [Array.getElem?_setIfInBounds, List.getD_eq_getElem?_getD, List.getElem?_set]
  by_cases hij : i = j
  · subst hij
    rw [if_pos rfl, if_pos h2, if_pos rfl, if_pos hj]; rfl
  · rw [if_neg hij, if_neg hij, h1, List.getD_eq_getElem?_getD]
theorem set_small {zs : List Nat} (hz : ∀ j, zs.getD j 0 < 256) {i c' : Nat} (hc : c' < 256) : ∀ j, (zs.set i c').getD j 0 < 256 := small_mem fun c h => by
  rcases List.mem_or_eq_of_mem_set h with h | h
  · exact mem_small hz c h
  · omega
theorem pk_k97 : Lz.pk [97] 0 0 = [0, 97] := by
  have b0 : Lz.bst [97] 0 = (0, 0) := by decide
  rw [Lz.pk_lit (by decide) (by rw [b0]), Lz.pk_end (by decide)]
  have e2 : (([97] : List Nat).drop 0) = [97] := rfl
  rw [e2, Lz.litT_step (by decide)]
  have e3 : ([97] : List Nat).drop (min 64 [97].length) = [] := rfl
  rw [e3, Lz.litT_nil]
  rfl
theorem how_k : how [97] = 0 := by unfold how; rw [pk_k97]; rfl
theorem body_k : body [97] = [97] := by unfold body; rw [pk_k97]; rfl
theorem head_k : head 7 [97] = [7, 0, 1, 1, 97] := by
  unfold head
  rw [how_k, body_k]
  have : vb ([97] : List Nat).length = [1] := by rw [vb_small (by decide)]; rfl
  rw [this]; rfl
theorem chunk_k : chunk 7 [97] = [7, 0, 1, 1, 97] ++ fx (crc [7, 0, 1, 1, 97]) := by unfold chunk; rw [head_k]
theorem read_k : Chk.read ([7, 0, 1, 1, 98] ++ fx (crc [7, 0, 1, 1, 97])) = .bad 5 := by
  have hs : Chk.scan ([7, 0, 1, 1, 98] ++ fx (crc [7, 0, 1, 1, 97])) = .ok 0 1 1 4 := by
    generalize crc [7, 0, 1, 1, 97] = m
    simp [Chk.scan, fx, vr, lim]
  unfold Chk.read
  rw [hs]
  simp only
  rw [if_neg (by simp [fx]), if_pos]
  have e1 : ([7, 0, 1, 1, 98] ++ fx (crc [7, 0, 1, 1, 97])).take (4 + 1) = ([7, 0, 1, 1, 97] : List Nat).set 4 98 := rfl
  have e2 : (([7, 0, 1, 1, 98] ++ fx (crc [7, 0, 1, 1, 97])).drop (4 + 1)).take 4 = fx (crc [7, 0, 1, 1, 97]) := rfl
  rw [e1, e2, be_fx (crc_lt _)]
  intro h
  have := burst1 (head := [7, 0, 1, 1, 97]) (by decide) (i := 4) (by decide) (c' := 98) (by decide) h
  revert this; decide
set_option maxHeartbeats 8000000 in
set_option maxRecDepth 100000 in
theorem wakes (w : World) (h : Crc.Tab w) : Calls Tryd.prog 6 #[] w fun e w' => e = .returned (.bool true) ∧ Ext w w' := by
  have HT := Lib.hid h; clear h
  have kcv := fun (w : World) (C : Array Value) (n c : Nat) => Lib.run_convert_bytes_const (P := Tryd.prog) w 22 5 C n c Tryd.underlying22 Tryd.underlying5
  have kcv1 := Crc.conv1
  go_enter Tryd.func6, Tryd.ntmps6
  go_wp2_with fail
  refine (put (some ⟨w.heap.size, 0, none⟩) (some ⟨w.heap.size + 1, 0, none⟩) 2 2 1 1 7 [120, 121] [97] _ (HT.out.ext (ext_alloc (ext_alloc (Ext.rfl' _) _) _)) (by omega) (Bs.ext (show Bs _ _ 2 [120, 121] from Crc.rd_new w 5 (2, 3) [120, 121] (Crc.small_of (by decide))) (ext_alloc (Ext.rfl' _) _)) (fun h => by cases h) (by omega) (by omega) (by omega) (show Bs _ _ 1 [97] from Crc.rd_new1 w _ 5 (1, 2) [97] (Crc.small_of (by decide))) (by omega) (by omega) (by omega)).mono ?_
  rintro e w1 ⟨A1, c1, rfl, hO, hE⟩
  have HE := Lib.hid (ext_trans (ext_alloc (ext_alloc (Ext.rfl' w) _) _) hE)
  obtain ⟨Z, hZ⟩ : ∃ Z, Z = [120, 121] ++ chunk 7 [97] := ⟨_, rfl⟩
  rw [← hZ] at hO ⊢
  have hZs : ∀ j, Z.getD j 0 < 256 := by
    rw [hZ]
    exact small_app (Crc.small_of (by decide)) (small_mem (chunk_small (by omega) (Crc.small_of (by decide))))
  have hZl : Z.length = 11 := by rw [hZ, List.length_append, chunk_len, head_k]; rfl
  have hTK : takeAt Z 2 5 = .ok 7 [97] 11 := by
    have h := take_chunk (kind := 7) (xs := [97]) (Crc.small_of (by decide)) [120, 121] [] (by decide) 5 (by decide)
    rw [List.append_nil, ← hZ] at h
    rw [show (([120, 121] : List Nat).length : Int) = 2 from rfl] at h
    rw [h, chunk_len, head_k]; rfl
  have hRK : readAt Z 2 = .ok 7 (how [97]) 1 (body [97]) 11 := by
    have h := readAt_app (ps := [120, 121]) (L := chunk 7 [97] ++ [])
    rw [read_chunk 7 [97] [] (by decide), List.append_nil, ← hZ] at h
    rw [show (([120, 121] : List Nat).length : Int) = 2 from rfl] at h
    rw [h]
    simp only
    rw [chunk_len, head_k]; rfl
  have hR2 : readAt (Z.set 6 98) 2 = .bad 5 := by
    have e : Z.set 6 98 = [120, 121] ++ ([7, 0, 1, 1, 98] ++ fx (crc [7, 0, 1, 1, 97])) := by rw [hZ, chunk_k]; rfl
    have h := readAt_app (ps := [120, 121]) (L := [7, 0, 1, 1, 98] ++ fx (crc [7, 0, 1, 1, 97]))
    rw [read_k, ← e] at h
    exact h
  obtain ⟨g, rfl, hg⟩ : ∃ g, A1 = some ⟨g, 0, none⟩ ∧ w.heap.size ≤ g := by
    obtain ⟨A, c, h1, h2, h3, h4⟩ := own_shape hO
    obtain ⟨g, h5, h6⟩ := h4 (by omega)
    obtain ⟨rfl, _, _⟩ := Value.slice.inj h1
    exact ⟨g, h5, by have := (ext_alloc (ext_alloc (Ext.rfl' w) (.cells #[.int .u8 120, .int .u8 121] 5 (2, 3))) (.cells #[.int .u8 97] 5 (1, 2))).size; simp at this h6; omega⟩
  have hc1 : Z.length ≤ c1 ∧ c1 ≤ 9223372036854775807 := by
    obtain ⟨A, c, h1, h2, h3, h4⟩ := own_shape hO
    obtain ⟨_, _, rfl⟩ := Value.slice.inj h1
    unfold maxLen at h3
    exact ⟨h2, by omega⟩
  obtain ⟨cur, hcur, hcc⟩ := own_blk hO (by omega)
  have HBL := Lib.hid hcur; have HCC := Lib.hid hcc
  have HB := Lib.hid (bs_blk hcur hcc hZs)
  have HT1 := Lib.hid (HT.out.ext HE.out)
  have HTK := Lib.hid hTK; have HRK := Lib.hid hRK; have HR2 := Lib.hid hR2; have HZS := Lib.hid hZs
  clear hO hE hZ hTK hRK hR2 hcur hcc hZs
  rw [hZl] at HB hc1 ⊢
  have HTA := Lib.hid (fun W hT hB => take (some ⟨g, 0, none⟩) 11 c1 Z 2 5 W hT hB (fun h => by cases h) hc1.1 hc1.2 (by omega))
  have HSK := Lib.hid (fun W hT hB => skip (some ⟨g, 0, none⟩) 11 c1 Z 2 W hT hB (fun h => by cases h) hc1.1 hc1.2 (by omega))
  have HSK2 := Lib.hid (fun W hT hB => skip (some ⟨g, 0, none⟩) 11 c1 (Z.set 6 98) 2 W hT hB (fun h => by cases h) hc1.1 hc1.2 (by omega))
  rw [HTK.out] at HTA
  rw [HRK.out] at HSK
  rw [HR2.out] at HSK2
  go_wp2_with fail
  refine (HTA.out _ HT1.out HB.out).mono ?_
  rintro e w2 ⟨hE2, A2, c2, rfl, hB2, hF2⟩
  have HF2 := Lib.hid hF2; clear hF2
  have HB2 := Lib.hid hB2; have HE2 := Lib.hid hE2
  clear hB2 hE2
  go_wp2_with fail
  refine (HSK.out _ (HT1.out.ext HE2.out) (HB.out.ext HE2.out)).mono ?_
  rintro e w3 ⟨hE3, rfl⟩
  have HE3 := Lib.hid hE3
  have HBL3 := Lib.hid (HBL.out.ext (ext_trans HE2.out hE3))
  have HW3 := Lib.hid (ext_trans HE.out (ext_trans HE2.out hE3))
  have HB3 := Lib.hid (HB2.out.ext hE3)
  have HP := Lib.hid (blk_put HBL3.out HCC.out 6 98)
  have p0 := HBL3.out.cell 6
  rw [HCC.out 6 (by omega)] at p0
  have p1 := HBL3.out.frozen 6
  clear hE3
  go_wp2_with fail
  have HT3 := Lib.hid (HT1.out.ext (ext_trans HE2.out HE3.out))
  have HP4 := Lib.hid (bs_blk HP.out.1 HP.out.2 (set_small HZS.out (by omega)))
  have HW4 := Lib.hid (ext_set HW3.out (p := ⟨g, 6, none⟩) hg (.int .u8 98))
  have hTg : Crc.Tab (w3.setCell ⟨g, 6, none⟩ (.int .u8 98)) := HT.out.ext HW4.out
  have HT4 := Lib.hid hTg
  have HB4 : Hid (Bs (w3.setCell ⟨g, 6, none⟩ (.int .u8 98)) A2 1 [97]) := Lib.hid (bs_kept HB3.out (gb_set w3 g 6 _) (fun hp a ha => by have := HF2.out hp a ha; have := HBL.out.lt; omega))
  rw [List.length_set, hZl] at HP4
  clear hTg p0 p1
  change Hid (Bs (w3.setCell ⟨g, 6, none⟩ (.int .u8 98)) _ _ _) at HP4
  generalize w3.setCell ⟨g, 6, none⟩ (.int .u8 98) = w4 at *
  refine (HSK2.out _ HT4.out HP4.out).mono ?_
  rintro e w5 ⟨hE5, _, rfl⟩
  have HB5 := Lib.hid (HB4.out.ext hE5)
  have HW5 := Lib.hid (ext_trans HW4.out hE5)
  have hcv := Com.conv8 HB5.out c2
  have e1 : strOf [97] = ⟨#[97]⟩ := by decide
  rw [e1] at hcv
  clear hE5 e1
  go_wp2_with fail
  go_ret
  exact ⟨rfl, HW5.out⟩
end Go.Proofs.YtckjmabacibojaaDoor.Chk
namespace Go.Proofs.YtckjmabacibojaaDoor.Chk
open Go.ChangeShapes Go.WideShapes Go.ChangeAt Go.RowKit
open Go.Proofs.YtckjmabacibojaaDoor.Wire
set_option linter.unusedVariables false

theorem hmxF : Tryd.prog.follows .mixedOrders = true := by kernel_rfl
def SE (w w' : World) : Prop := Ext w w'
theorem two_new (w : World) (t : TypeId) (a b : Nat) (ha : a < 256) (hb : b ≤ 1) : Bs (w.alloc (.cells #[.int .u8 (a : Int), .int .u8 (b : Int)] t)) (some ⟨w.heap.size, 0, none⟩) 2 [a, b] := by
  refine ⟨rfl, fun j => ?_, fun _ => ⟨w.heap.size, 0, rfl, by simp, fun j hj => ?_⟩⟩
  · rcases j with _ | _ | j
    · exact ha
    · show b < 256; omega
    · simp
  · rw [Nat.zero_add, World.cell?_alloc_new]
    rcases j with _ | _ | j
    · rfl
    · rfl
    · omega
set_option maxHeartbeats 8000000 in
set_option maxRecDepth 100000 in
theorem refPutC (kind : Nat) (hk : kind < 256) (s : ByteArray) (w : World) (hs : s.size ≤ 900000) :
    Calls Tryd.prog 8 #[.int .u8 (kind : Int), .string s] w fun e w' => e = .returned (.string (strOf (chunk kind (natsOf s)))) ∧ Ext w w' := by
  have HPK := Lib.hid (fun W => Lz.refPack s W (by omega))
  obtain ⟨ys, hys⟩ : ∃ ys, ys = natsOf s := ⟨_, rfl⟩
  rw [← hys] at HPK ⊢
  have hyl : ys.length = s.size := by rw [hys, natsOf_len]
  have HYS : Hid (∀ j, ys.getD j 0 < 256) := Lib.hid (by rw [hys]; exact natsOf_small s)
  have HSY : Hid (strOf ys = s) := Lib.hid (by rw [hys, strOf_nats])
  have hbl := body_len ys
  have hhow := how_le ys
  clear hys
  obtain ⟨zs, hzs⟩ : ∃ zs, zs = Lz.pk ys 0 0 := ⟨_, rfl⟩
  rw [← hzs] at HPK
  have HZS := Lib.hid hzs
  have hzl : (strOf zs).size = zs.length := strOf_size zs
  clear hzs
  generalize hZZ : strOf zs = Z at *
  have HZZ := Lib.hid hZZ
  clear hZZ
  have HYL := Lib.hid hyl
  go_enter Tryd.func8, Tryd.ntmps8
  go_wp2_with fail
  refine (HPK.out _).mono ?_
  rintro e w1 ⟨rfl, hE⟩
  have HE := Lib.hid hE
  clear hE hyl
  go_upto_if 16 with fail
  go_cut [5, 6] from 7 to 40 (fun hv bv wx => hv = .int .u8 (how ys : Int) ∧ bv = .string (strOf (body ys)) ∧ Ext w wx)
  case first =>
    by_cases hlt : zs.length < s.size
    · have HBO : Hid (how ys = 1 ∧ body ys = zs) := Lib.hid (by
        have h2 : (Lz.pk ys 0 0).length < ys.length := by rw [← HZS.out, HYL.out]; exact hlt
        refine ⟨by unfold how; rw [if_pos h2], by unfold body; rw [if_pos h2, ← HZS.out]⟩)
      have hlt2 : Z.size < s.size := by omega
      go_wp2_with fail
      go_meet
      exact ⟨by rw [HBO.out.1]; rfl, by rw [HBO.out.2, HZZ.out], HE.out⟩
    · have HBO : Hid (how ys = 0 ∧ body ys = ys) := Lib.hid (by
        have h2 : ¬ (Lz.pk ys 0 0).length < ys.length := by rw [← HZS.out, HYL.out]; exact hlt
        refine ⟨by unfold how; rw [if_neg h2], by unfold body; rw [if_neg h2]⟩)
      have hlt2 : ¬ Z.size < s.size := by omega
      go_wp2_with fail
      go_meet
      exact ⟨by rw [HBO.out.1]; rfl, by rw [HBO.out.2, HSY.out], HE.out⟩
  case rest =>
    obtain ⟨rfl, rfl, hE⟩ := hcut
    have HBY := Lib.hid (body_small HYS.out)
    have hbs := strOf_size (body ys)
    have hys2 := HYL.out
    obtain ⟨S0, hS0⟩ : ∃ S, S = strOf [kind, how ys] := ⟨_, rfl⟩
    obtain ⟨S1, hS1⟩ : ∃ S, S = strOf (vb ys.length) := ⟨_, rfl⟩
    obtain ⟨S2, hS2⟩ : ∃ S, S = strOf (vb (body ys).length) := ⟨_, rfl⟩
    obtain ⟨S3, hS3⟩ : ∃ S, S = strOf (body ys) := ⟨_, rfl⟩
    have hz0 : S0.size = 2 := by rw [hS0, strOf_size]; rfl
    have hz1 : S1.size ≤ 10 := by rw [hS1, strOf_size]; exact vb_ten (by omega)
    have hz2 : S2.size ≤ 10 := by rw [hS2, strOf_size]; exact vb_ten (by omega)
    have hz3 : S3.size ≤ 900000 := by rw [hS3, strOf_size]; omega
    have HV1 := Lib.hid (fun W => Wire.refVarint ys.length (by omega) W)
    have HV2 := Lib.hid (fun W => Wire.refVarint (body ys).length (by omega) W)
    rw [← hS1] at HV1
    rw [← hS2] at HV2
    have HFIN : Hid (S0 ++ S1 ++ S2 ++ S3 = strOf (head kind ys)) := Lib.hid (by
      rw [hS0, hS1, hS2, hS3, ← strOf_app, ← strOf_app, ← strOf_app]
      congr 1
      simp [head, List.append_assoc])
    have HCV : Hid (∀ W g c, Bs W (some ⟨g, 0, none⟩) 2 [kind, how ys] → (convert 22 9 (.slice (some ⟨g, 0, none⟩) 2 c)).run Tryd.prog W = .ok (.string S0) W) := Lib.hid (fun W g c h => by rw [hS0]; exact Com.conv8 h c)
    have hq1 : ¬ 9223372036854775807 < S0.size + S1.size := by omega
    have hq2 : ¬ 9223372036854775807 < S0.size + S1.size + S2.size := by omega
    have hq3 : ¬ 9223372036854775807 < S0.size + S1.size + S2.size + S3.size := by omega
    rw [HYL.out] at HV1
    rw [← hS3] at hbs ⊢
    rw [← hbs] at HV2
    have hw1 : IntKind.u64.wrap (s.size : Int) = (s.size : Int) := by rw [IntKind.wrap_u64]; omega
    have hw2 : IntKind.u64.wrap (S3.size : Int) = (S3.size : Int) := by rw [IntKind.wrap_u64]; omega
    have HSM := Lib.hid (head_small hk HYS.out)
    have HSZ : Hid ((S0 ++ S1 ++ S2 ++ S3).size ≤ 1000000) := Lib.hid (by rw [ByteArray.size_append, ByteArray.size_append, ByteArray.size_append]; omega)
    have HE := Lib.hid hE
    clear hE hS0 hS1 hS2 hS3 hbs hys2 hz0 hz1 hz2 hz3
    go_upto_region 7 with fail
    go_cut [8] from 18 to 40 (fun sv wx => sv = .string (S0 ++ S1 ++ S2 ++ S3) ∧ Ext w wx)
    case first =>
      have HX := Lib.hid (show SE w (World.drew _) from ext_drew HE.out)
      refine wp_region_held_drew (S := SE w) hmxF HX.out (fun _ => ?_)
      generalize World.drew _ = WA at *
      (refine wpAnyH_take (i := 0) (oi := { dst := some 18, op := Go.Op.move (Go.Operand.tmp 0), type := 5, pos := "ref.go:20", after := #[], guard := none }) (v := ?_) rfl (by kernel_rfl) (by kernel_rfl) (by kernel_rfl) (fun _ _ _ h => h) (Or.inl ⟨by rfl, ?_⟩) HX.out ?_); rotate_left
      · (intro w' hSw; go_simp; try with_reducible rfl)
      (try simp only [Act.put, List.setIfInBounds_toArray, List.set_cons_zero, List.set_cons_succ])
      (refine wpAnyH_take (i := 1) (oi := { dst := some 19, op := Go.Op.move (Go.Operand.tmp 5), type := 5, pos := "ref.go:20", after := #[], guard := none }) (v := ?_) rfl (by kernel_rfl) (by kernel_rfl) (by kernel_rfl) (fun _ _ _ h => h) (Or.inl ⟨by rfl, ?_⟩) HX.out ?_); rotate_left
      · (intro w' hSw; go_simp; try with_reducible rfl)
      (try simp only [Act.put, List.setIfInBounds_toArray, List.set_cons_zero, List.set_cons_succ])
      (refine wpAnyH_take (i := 4) (oi := { dst := some 22, op := Go.Op.move (Go.Operand.tmp 1), type := 9, pos := "ref.go:20", after := #[], guard := none }) (v := ?_) rfl (by kernel_rfl) (by kernel_rfl) (by kernel_rfl) (fun _ _ _ h => h) (Or.inl ⟨by rfl, ?_⟩) HX.out ?_); rotate_left
      · (intro w' hSw; go_simp; try with_reducible rfl)
      (try simp only [Act.put, List.setIfInBounds_toArray, List.set_cons_zero, List.set_cons_succ])
      (refine wpAnyH_take (i := 5) (oi := { dst := some 23, op := Go.Op.call { callee := Go.Callee.builtin Go.Builtin.len, args := #[Go.Operand.tmp 22], argTypes := #[9] }, type := 3, pos := "ref.go:20", after := #[{ on := 4, ground := Go.Ground.data }], guard := none }) (v := ?_) rfl (by kernel_rfl) (by kernel_rfl) (by kernel_rfl) (fun _ _ _ h => h) (Or.inl ⟨by rfl, ?_⟩) HX.out ?_); rotate_left
      · (intro w' hSw; go_simp; try with_reducible rfl)
      (try simp only [Act.put, List.setIfInBounds_toArray, List.set_cons_zero, List.set_cons_succ])
      (refine wpAnyH_take (i := 6) (oi := { dst := some 24, op := Go.Op.convert 3 46 (Go.Operand.tmp 23), type := 46, pos := "ref.go:20", after := #[{ on := 5, ground := Go.Ground.data }], guard := none }) (v := ?_) rfl (by kernel_rfl) (by kernel_rfl) (by kernel_rfl) (fun _ _ _ h => h) (Or.inl ⟨by rfl, ?_⟩) HX.out ?_); rotate_left
      · (intro w' hSw; go_simp; try with_reducible rfl)
      (try simp only [Act.put, List.setIfInBounds_toArray, List.set_cons_zero, List.set_cons_succ])
      (refine wpAnyH_take (i := 9) (oi := { dst := some 27, op := Go.Op.move (Go.Operand.tmp 6), type := 9, pos := "ref.go:20", after := #[], guard := none }) (v := ?_) rfl (by kernel_rfl) (by kernel_rfl) (by kernel_rfl) (fun _ _ _ h => h) (Or.inl ⟨by rfl, ?_⟩) HX.out ?_); rotate_left
      · (intro w' hSw; go_simp; try with_reducible rfl)
      (try simp only [Act.put, List.setIfInBounds_toArray, List.set_cons_zero, List.set_cons_succ])
      (refine wpAnyH_take (i := 10) (oi := { dst := some 28, op := Go.Op.call { callee := Go.Callee.builtin Go.Builtin.len, args := #[Go.Operand.tmp 27], argTypes := #[9] }, type := 3, pos := "ref.go:20", after := #[{ on := 9, ground := Go.Ground.data }], guard := none }) (v := ?_) rfl (by kernel_rfl) (by kernel_rfl) (by kernel_rfl) (fun _ _ _ h => h) (Or.inl ⟨by rfl, ?_⟩) HX.out ?_); rotate_left
      · (intro w' hSw; go_simp; try with_reducible rfl)
      (try simp only [Act.put, List.setIfInBounds_toArray, List.set_cons_zero, List.set_cons_succ])
      (refine wpAnyH_take (i := 11) (oi := { dst := some 29, op := Go.Op.convert 3 46 (Go.Operand.tmp 28), type := 46, pos := "ref.go:20", after := #[{ on := 10, ground := Go.Ground.data }], guard := none }) (v := ?_) rfl (by kernel_rfl) (by kernel_rfl) (by kernel_rfl) (fun _ _ _ h => h) (Or.inl ⟨by rfl, ?_⟩) HX.out ?_); rotate_left
      · (intro w' hSw; go_simp; try with_reducible rfl)
      (try simp only [Act.put, List.setIfInBounds_toArray, List.set_cons_zero, List.set_cons_succ])
      (refine wpAnyH_take (i := 14) (oi := { dst := some 32, op := Go.Op.move (Go.Operand.tmp 6), type := 9, pos := "ref.go:20", after := #[], guard := none }) (v := ?_) rfl (by kernel_rfl) (by kernel_rfl) (by kernel_rfl) (fun _ _ _ h => h) (Or.inl ⟨by rfl, ?_⟩) HX.out ?_); rotate_left
      · (intro w' hSw; go_simp; try with_reducible rfl)
      (try simp only [Act.put, List.setIfInBounds_toArray, List.set_cons_zero, List.set_cons_succ])
      refine wpAnyH_ready (rs := [2, 7]) (by kernel_rfl) (by simp) ?_
      refine AllReadyH.cons (o := { dst := some 20, op := Go.Op.buildSlice 22 2 #[(0, Go.Operand.tmp 18), (1, Go.Operand.tmp 19)], type := 22, pos := "ref.go:20", after := #[{ on := 0, ground := Go.Ground.data }, { on := 1, ground := Go.Ground.data }], guard := none }) (by kernel_rfl) (fun K hK => ?_) (AllReadyH.cons (o := { dst := some 25, op := Go.Op.call { callee := Go.Callee.value (Go.Operand.func 19), args := #[Go.Operand.tmp 24], argTypes := #[46] }, type := 9, pos := "ref.go:20", after := #[{ on := 6, ground := Go.Ground.data }], guard := none }) (by kernel_rfl) (fun K hK => ?_) AllReadyH.nil)
      · go_simp
        have HG := Lib.hid (show Bs (WA.alloc (.cells #[.int .u8 (kind : Int), .int .u8 (how ys : Int)] 5)) (some ⟨WA.heap.size, 0, none⟩) 2 [kind, how ys] from two_new WA 5 kind (how ys) hk hhow)
        have HX := Lib.hid (show SE w (WA.alloc (.cells #[.int .u8 (kind : Int), .int .u8 (how ys : Int)] 5)) from ext_alloc HX.out _)
        generalize WA.alloc (.cells #[.int .u8 (kind : Int), .int .u8 (how ys : Int)] 5) = WA at *
        skip
        refine hK.out _ _ HX.out (fun _ => ?_)
        clear hK K
        (try simp only [Act.put, List.setIfInBounds_toArray, List.set_cons_zero, List.set_cons_succ])
        refine wpAnyH_ready (rs := [3, 7]) (by kernel_rfl) (by simp) ?_
        refine AllReadyH.cons (o := { dst := some 21, op := Go.Op.convert 22 9 (Go.Operand.tmp 20), type := 9, pos := "ref.go:20", after := #[{ on := 2, ground := Go.Ground.data }], guard := none }) (by kernel_rfl) (fun K hK => ?_) (AllReadyH.cons (o := { dst := some 25, op := Go.Op.call { callee := Go.Callee.value (Go.Operand.func 19), args := #[Go.Operand.tmp 24], argTypes := #[46] }, type := 9, pos := "ref.go:20", after := #[{ on := 6, ground := Go.Ground.data }], guard := none }) (by kernel_rfl) (fun K hK => ?_) AllReadyH.nil)
        · have hcv := HCV.out _ _ 2 HG.out
          go_simp
          refine hK.out _ _ HX.out (fun _ => ?_)
          clear hK K
          (try simp only [Act.put, List.setIfInBounds_toArray, List.set_cons_zero, List.set_cons_succ])
          refine wpAnyH_ready (rs := [7]) (by kernel_rfl) (by simp) ?_
          refine AllReadyH.cons (o := { dst := some 25, op := Go.Op.call { callee := Go.Callee.value (Go.Operand.func 19), args := #[Go.Operand.tmp 24], argTypes := #[46] }, type := 9, pos := "ref.go:20", after := #[{ on := 6, ground := Go.Ground.data }], guard := none }) (by kernel_rfl) (fun K hK => ?_) AllReadyH.nil
          go_simp
          refine (HV1.out _).mono ?_
          rintro e WA ⟨rfl, hE⟩
          have HX := Lib.hid (show SE w WA from ext_trans HX.out hE)
          have HG := Lib.hid (HG.out.ext hE)
          clear hE
          (try go_wp2_with fail)
          refine hK.out _ _ HX.out (fun _ => ?_)
          clear hK K
          (try simp only [Act.put, List.setIfInBounds_toArray, List.set_cons_zero, List.set_cons_succ])
          (refine wpAnyH_take (i := 8) (oi := { dst := some 26, op := Go.Op.binOp Go.BinOp.add 9 (Go.Operand.tmp 21) (Go.Operand.tmp 25) 9, type := 9, pos := "ref.go:20", after := #[{ on := 3, ground := Go.Ground.data }, { on := 7, ground := Go.Ground.data }], guard := none }) (v := ?_) rfl (by kernel_rfl) (by kernel_rfl) (by kernel_rfl) (fun _ _ _ h => h) (Or.inl ⟨by rfl, ?_⟩) HX.out ?_); rotate_left
          · (intro w' hSw; go_simp; try with_reducible rfl)
          (try simp only [Act.put, List.setIfInBounds_toArray, List.set_cons_zero, List.set_cons_succ])
          refine wpAnyH_ready (rs := [12]) (by kernel_rfl) (by simp) ?_
          refine AllReadyH.cons (o := { dst := some 30, op := Go.Op.call { callee := Go.Callee.value (Go.Operand.func 19), args := #[Go.Operand.tmp 29], argTypes := #[46] }, type := 9, pos := "ref.go:20", after := #[{ on := 11, ground := Go.Ground.data }, { on := 7, ground := Go.Ground.chain }], guard := none }) (by kernel_rfl) (fun K hK => ?_) AllReadyH.nil
          go_simp
          refine (HV2.out _).mono ?_
          rintro e WA ⟨rfl, hE⟩
          have HX := Lib.hid (show SE w WA from ext_trans HX.out hE)
          have HG := Lib.hid (HG.out.ext hE)
          clear hE
          (try go_wp2_with fail)
          refine hK.out _ _ HX.out (fun _ => ?_)
          clear hK K
          (try simp only [Act.put, List.setIfInBounds_toArray, List.set_cons_zero, List.set_cons_succ])
          (refine wpAnyH_take (i := 13) (oi := { dst := some 31, op := Go.Op.binOp Go.BinOp.add 9 (Go.Operand.tmp 26) (Go.Operand.tmp 30) 9, type := 9, pos := "ref.go:20", after := #[{ on := 8, ground := Go.Ground.data }, { on := 12, ground := Go.Ground.data }], guard := none }) (v := ?_) rfl (by kernel_rfl) (by kernel_rfl) (by kernel_rfl) (fun _ _ _ h => h) (Or.inl ⟨by rfl, ?_⟩) HX.out ?_); rotate_left
          · (intro w' hSw; go_simp; try with_reducible rfl)
          (try simp only [Act.put, List.setIfInBounds_toArray, List.set_cons_zero, List.set_cons_succ])
          (refine wpAnyH_take (i := 15) (oi := { dst := some 33, op := Go.Op.binOp Go.BinOp.add 9 (Go.Operand.tmp 31) (Go.Operand.tmp 32) 9, type := 9, pos := "ref.go:20", after := #[{ on := 13, ground := Go.Ground.data }, { on := 14, ground := Go.Ground.data }], guard := none }) (v := ?_) rfl (by kernel_rfl) (by kernel_rfl) (by kernel_rfl) (fun _ _ _ h => h) (Or.inl ⟨by rfl, ?_⟩) HX.out ?_); rotate_left
          · (intro w' hSw; go_simp; try with_reducible rfl)
          (try simp only [Act.put, List.setIfInBounds_toArray, List.set_cons_zero, List.set_cons_succ])
          (refine wpAnyH_take (i := 16) (oi := { dst := some 8, op := Go.Op.assign (Go.Operand.tmp 33), type := 9, pos := "ref.go:20", after := #[{ on := 15, ground := Go.Ground.data }, { on := 12, ground := Go.Ground.chain }, { on := 0, ground := Go.Ground.phase }, { on := 1, ground := Go.Ground.phase }, { on := 2, ground := Go.Ground.phase }, { on := 3, ground := Go.Ground.phase }, { on := 4, ground := Go.Ground.phase }, { on := 5, ground := Go.Ground.phase }, { on := 6, ground := Go.Ground.phase }, { on := 7, ground := Go.Ground.phase }, { on := 8, ground := Go.Ground.phase }, { on := 9, ground := Go.Ground.phase }, { on := 10, ground := Go.Ground.phase }, { on := 11, ground := Go.Ground.phase }, { on := 12, ground := Go.Ground.phase }, { on := 13, ground := Go.Ground.phase }, { on := 14, ground := Go.Ground.phase }, { on := 15, ground := Go.Ground.phase }], guard := none }) (v := ?_) rfl (by kernel_rfl) (by kernel_rfl) (by kernel_rfl) (fun _ _ _ h => h) (Or.inl ⟨by rfl, ?_⟩) HX.out ?_); rotate_left
          · (intro w' hSw; go_simp; try with_reducible rfl)
          (try simp only [Act.put, List.setIfInBounds_toArray, List.set_cons_zero, List.set_cons_succ])
          refine wpAnyH_done (by kernel_rfl) ?_ _
          go_wp2_with fail
          go_meet
          exact ⟨rfl, HX.out⟩
        · go_simp
          refine (HV1.out _).mono ?_
          rintro e WA ⟨rfl, hE⟩
          have HX := Lib.hid (show SE w WA from ext_trans HX.out hE)
          have HG := Lib.hid (HG.out.ext hE)
          clear hE
          (try go_wp2_with fail)
          refine hK.out _ _ HX.out (fun _ => ?_)
          clear hK K
          (try simp only [Act.put, List.setIfInBounds_toArray, List.set_cons_zero, List.set_cons_succ])
          refine wpAnyH_ready (rs := [3, 12]) (by kernel_rfl) (by simp) ?_
          refine AllReadyH.cons (o := { dst := some 21, op := Go.Op.convert 22 9 (Go.Operand.tmp 20), type := 9, pos := "ref.go:20", after := #[{ on := 2, ground := Go.Ground.data }], guard := none }) (by kernel_rfl) (fun K hK => ?_) (AllReadyH.cons (o := { dst := some 30, op := Go.Op.call { callee := Go.Callee.value (Go.Operand.func 19), args := #[Go.Operand.tmp 29], argTypes := #[46] }, type := 9, pos := "ref.go:20", after := #[{ on := 11, ground := Go.Ground.data }, { on := 7, ground := Go.Ground.chain }], guard := none }) (by kernel_rfl) (fun K hK => ?_) AllReadyH.nil)
          · have hcv := HCV.out _ _ 2 HG.out
            go_simp
            refine hK.out _ _ HX.out (fun _ => ?_)
            clear hK K
            (try simp only [Act.put, List.setIfInBounds_toArray, List.set_cons_zero, List.set_cons_succ])
            (refine wpAnyH_take (i := 8) (oi := { dst := some 26, op := Go.Op.binOp Go.BinOp.add 9 (Go.Operand.tmp 21) (Go.Operand.tmp 25) 9, type := 9, pos := "ref.go:20", after := #[{ on := 3, ground := Go.Ground.data }, { on := 7, ground := Go.Ground.data }], guard := none }) (v := ?_) rfl (by kernel_rfl) (by kernel_rfl) (by kernel_rfl) (fun _ _ _ h => h) (Or.inl ⟨by rfl, ?_⟩) HX.out ?_); rotate_left
            · (intro w' hSw; go_simp; try with_reducible rfl)
            (try simp only [Act.put, List.setIfInBounds_toArray, List.set_cons_zero, List.set_cons_succ])
            refine wpAnyH_ready (rs := [12]) (by kernel_rfl) (by simp) ?_
            refine AllReadyH.cons (o := { dst := some 30, op := Go.Op.call { callee := Go.Callee.value (Go.Operand.func 19), args := #[Go.Operand.tmp 29], argTypes := #[46] }, type := 9, pos := "ref.go:20", after := #[{ on := 11, ground := Go.Ground.data }, { on := 7, ground := Go.Ground.chain }], guard := none }) (by kernel_rfl) (fun K hK => ?_) AllReadyH.nil
            go_simp
            refine (HV2.out _).mono ?_
            rintro e WA ⟨rfl, hE⟩
            have HX := Lib.hid (show SE w WA from ext_trans HX.out hE)
            have HG := Lib.hid (HG.out.ext hE)
            clear hE
            (try go_wp2_with fail)
            refine hK.out _ _ HX.out (fun _ => ?_)
            clear hK K
            (try simp only [Act.put, List.setIfInBounds_toArray, List.set_cons_zero, List.set_cons_succ])
            (refine wpAnyH_take (i := 13) (oi := { dst := some 31, op := Go.Op.binOp Go.BinOp.add 9 (Go.Operand.tmp 26) (Go.Operand.tmp 30) 9, type := 9, pos := "ref.go:20", after := #[{ on := 8, ground := Go.Ground.data }, { on := 12, ground := Go.Ground.data }], guard := none }) (v := ?_) rfl (by kernel_rfl) (by kernel_rfl) (by kernel_rfl) (fun _ _ _ h => h) (Or.inl ⟨by rfl, ?_⟩) HX.out ?_); rotate_left
            · (intro w' hSw; go_simp; try with_reducible rfl)
            (try simp only [Act.put, List.setIfInBounds_toArray, List.set_cons_zero, List.set_cons_succ])
            (refine wpAnyH_take (i := 15) (oi := { dst := some 33, op := Go.Op.binOp Go.BinOp.add 9 (Go.Operand.tmp 31) (Go.Operand.tmp 32) 9, type := 9, pos := "ref.go:20", after := #[{ on := 13, ground := Go.Ground.data }, { on := 14, ground := Go.Ground.data }], guard := none }) (v := ?_) rfl (by kernel_rfl) (by kernel_rfl) (by kernel_rfl) (fun _ _ _ h => h) (Or.inl ⟨by rfl, ?_⟩) HX.out ?_); rotate_left
            · (intro w' hSw; go_simp; try with_reducible rfl)
            (try simp only [Act.put, List.setIfInBounds_toArray, List.set_cons_zero, List.set_cons_succ])
            (refine wpAnyH_take (i := 16) (oi := { dst := some 8, op := Go.Op.assign (Go.Operand.tmp 33), type := 9, pos := "ref.go:20", after := #[{ on := 15, ground := Go.Ground.data }, { on := 12, ground := Go.Ground.chain }, { on := 0, ground := Go.Ground.phase }, { on := 1, ground := Go.Ground.phase }, { on := 2, ground := Go.Ground.phase }, { on := 3, ground := Go.Ground.phase }, { on := 4, ground := Go.Ground.phase }, { on := 5, ground := Go.Ground.phase }, { on := 6, ground := Go.Ground.phase }, { on := 7, ground := Go.Ground.phase }, { on := 8, ground := Go.Ground.phase }, { on := 9, ground := Go.Ground.phase }, { on := 10, ground := Go.Ground.phase }, { on := 11, ground := Go.Ground.phase }, { on := 12, ground := Go.Ground.phase }, { on := 13, ground := Go.Ground.phase }, { on := 14, ground := Go.Ground.phase }, { on := 15, ground := Go.Ground.phase }], guard := none }) (v := ?_) rfl (by kernel_rfl) (by kernel_rfl) (by kernel_rfl) (fun _ _ _ h => h) (Or.inl ⟨by rfl, ?_⟩) HX.out ?_); rotate_left
            · (intro w' hSw; go_simp; try with_reducible rfl)
            (try simp only [Act.put, List.setIfInBounds_toArray, List.set_cons_zero, List.set_cons_succ])
            refine wpAnyH_done (by kernel_rfl) ?_ _
            go_wp2_with fail
            go_meet
            exact ⟨rfl, HX.out⟩
          · go_simp
            refine (HV2.out _).mono ?_
            rintro e WA ⟨rfl, hE⟩
            have HX := Lib.hid (show SE w WA from ext_trans HX.out hE)
            have HG := Lib.hid (HG.out.ext hE)
            clear hE
            (try go_wp2_with fail)
            refine hK.out _ _ HX.out (fun _ => ?_)
            clear hK K
            (try simp only [Act.put, List.setIfInBounds_toArray, List.set_cons_zero, List.set_cons_succ])
            refine wpAnyH_ready (rs := [3]) (by kernel_rfl) (by simp) ?_
            refine AllReadyH.cons (o := { dst := some 21, op := Go.Op.convert 22 9 (Go.Operand.tmp 20), type := 9, pos := "ref.go:20", after := #[{ on := 2, ground := Go.Ground.data }], guard := none }) (by kernel_rfl) (fun K hK => ?_) AllReadyH.nil
            have hcv := HCV.out _ _ 2 HG.out
            go_simp
            refine hK.out _ _ HX.out (fun _ => ?_)
            clear hK K
            (try simp only [Act.put, List.setIfInBounds_toArray, List.set_cons_zero, List.set_cons_succ])
            (refine wpAnyH_take (i := 8) (oi := { dst := some 26, op := Go.Op.binOp Go.BinOp.add 9 (Go.Operand.tmp 21) (Go.Operand.tmp 25) 9, type := 9, pos := "ref.go:20", after := #[{ on := 3, ground := Go.Ground.data }, { on := 7, ground := Go.Ground.data }], guard := none }) (v := ?_) rfl (by kernel_rfl) (by kernel_rfl) (by kernel_rfl) (fun _ _ _ h => h) (Or.inl ⟨by rfl, ?_⟩) HX.out ?_); rotate_left
            · (intro w' hSw; go_simp; try with_reducible rfl)
            (try simp only [Act.put, List.setIfInBounds_toArray, List.set_cons_zero, List.set_cons_succ])
            (refine wpAnyH_take (i := 13) (oi := { dst := some 31, op := Go.Op.binOp Go.BinOp.add 9 (Go.Operand.tmp 26) (Go.Operand.tmp 30) 9, type := 9, pos := "ref.go:20", after := #[{ on := 8, ground := Go.Ground.data }, { on := 12, ground := Go.Ground.data }], guard := none }) (v := ?_) rfl (by kernel_rfl) (by kernel_rfl) (by kernel_rfl) (fun _ _ _ h => h) (Or.inl ⟨by rfl, ?_⟩) HX.out ?_); rotate_left
            · (intro w' hSw; go_simp; try with_reducible rfl)
            (try simp only [Act.put, List.setIfInBounds_toArray, List.set_cons_zero, List.set_cons_succ])
            (refine wpAnyH_take (i := 15) (oi := { dst := some 33, op := Go.Op.binOp Go.BinOp.add 9 (Go.Operand.tmp 31) (Go.Operand.tmp 32) 9, type := 9, pos := "ref.go:20", after := #[{ on := 13, ground := Go.Ground.data }, { on := 14, ground := Go.Ground.data }], guard := none }) (v := ?_) rfl (by kernel_rfl) (by kernel_rfl) (by kernel_rfl) (fun _ _ _ h => h) (Or.inl ⟨by rfl, ?_⟩) HX.out ?_); rotate_left
            · (intro w' hSw; go_simp; try with_reducible rfl)
            (try simp only [Act.put, List.setIfInBounds_toArray, List.set_cons_zero, List.set_cons_succ])
            (refine wpAnyH_take (i := 16) (oi := { dst := some 8, op := Go.Op.assign (Go.Operand.tmp 33), type := 9, pos := "ref.go:20", after := #[{ on := 15, ground := Go.Ground.data }, { on := 12, ground := Go.Ground.chain }, { on := 0, ground := Go.Ground.phase }, { on := 1, ground := Go.Ground.phase }, { on := 2, ground := Go.Ground.phase }, { on := 3, ground := Go.Ground.phase }, { on := 4, ground := Go.Ground.phase }, { on := 5, ground := Go.Ground.phase }, { on := 6, ground := Go.Ground.phase }, { on := 7, ground := Go.Ground.phase }, { on := 8, ground := Go.Ground.phase }, { on := 9, ground := Go.Ground.phase }, { on := 10, ground := Go.Ground.phase }, { on := 11, ground := Go.Ground.phase }, { on := 12, ground := Go.Ground.phase }, { on := 13, ground := Go.Ground.phase }, { on := 14, ground := Go.Ground.phase }, { on := 15, ground := Go.Ground.phase }], guard := none }) (v := ?_) rfl (by kernel_rfl) (by kernel_rfl) (by kernel_rfl) (fun _ _ _ h => h) (Or.inl ⟨by rfl, ?_⟩) HX.out ?_); rotate_left
            · (intro w' hSw; go_simp; try with_reducible rfl)
            (try simp only [Act.put, List.setIfInBounds_toArray, List.set_cons_zero, List.set_cons_succ])
            refine wpAnyH_done (by kernel_rfl) ?_ _
            go_wp2_with fail
            go_meet
            exact ⟨rfl, HX.out⟩
      · go_simp
        refine (HV1.out _).mono ?_
        rintro e WA ⟨rfl, hE⟩
        have HX := Lib.hid (show SE w WA from ext_trans HX.out hE)
        clear hE
        (try go_wp2_with fail)
        refine hK.out _ _ HX.out (fun _ => ?_)
        clear hK K
        (try simp only [Act.put, List.setIfInBounds_toArray, List.set_cons_zero, List.set_cons_succ])
        refine wpAnyH_ready (rs := [2, 12]) (by kernel_rfl) (by simp) ?_
        refine AllReadyH.cons (o := { dst := some 20, op := Go.Op.buildSlice 22 2 #[(0, Go.Operand.tmp 18), (1, Go.Operand.tmp 19)], type := 22, pos := "ref.go:20", after := #[{ on := 0, ground := Go.Ground.data }, { on := 1, ground := Go.Ground.data }], guard := none }) (by kernel_rfl) (fun K hK => ?_) (AllReadyH.cons (o := { dst := some 30, op := Go.Op.call { callee := Go.Callee.value (Go.Operand.func 19), args := #[Go.Operand.tmp 29], argTypes := #[46] }, type := 9, pos := "ref.go:20", after := #[{ on := 11, ground := Go.Ground.data }, { on := 7, ground := Go.Ground.chain }], guard := none }) (by kernel_rfl) (fun K hK => ?_) AllReadyH.nil)
        · go_simp
          have HG := Lib.hid (show Bs (WA.alloc (.cells #[.int .u8 (kind : Int), .int .u8 (how ys : Int)] 5)) (some ⟨WA.heap.size, 0, none⟩) 2 [kind, how ys] from two_new WA 5 kind (how ys) hk hhow)
          have HX := Lib.hid (show SE w (WA.alloc (.cells #[.int .u8 (kind : Int), .int .u8 (how ys : Int)] 5)) from ext_alloc HX.out _)
          generalize WA.alloc (.cells #[.int .u8 (kind : Int), .int .u8 (how ys : Int)] 5) = WA at *
          skip
          refine hK.out _ _ HX.out (fun _ => ?_)
          clear hK K
          (try simp only [Act.put, List.setIfInBounds_toArray, List.set_cons_zero, List.set_cons_succ])
          refine wpAnyH_ready (rs := [3, 12]) (by kernel_rfl) (by simp) ?_
          refine AllReadyH.cons (o := { dst := some 21, op := Go.Op.convert 22 9 (Go.Operand.tmp 20), type := 9, pos := "ref.go:20", after := #[{ on := 2, ground := Go.Ground.data }], guard := none }) (by kernel_rfl) (fun K hK => ?_) (AllReadyH.cons (o := { dst := some 30, op := Go.Op.call { callee := Go.Callee.value (Go.Operand.func 19), args := #[Go.Operand.tmp 29], argTypes := #[46] }, type := 9, pos := "ref.go:20", after := #[{ on := 11, ground := Go.Ground.data }, { on := 7, ground := Go.Ground.chain }], guard := none }) (by kernel_rfl) (fun K hK => ?_) AllReadyH.nil)
          · have hcv := HCV.out _ _ 2 HG.out
            go_simp
            refine hK.out _ _ HX.out (fun _ => ?_)
            clear hK K
            (try simp only [Act.put, List.setIfInBounds_toArray, List.set_cons_zero, List.set_cons_succ])
            (refine wpAnyH_take (i := 8) (oi := { dst := some 26, op := Go.Op.binOp Go.BinOp.add 9 (Go.Operand.tmp 21) (Go.Operand.tmp 25) 9, type := 9, pos := "ref.go:20", after := #[{ on := 3, ground := Go.Ground.data }, { on := 7, ground := Go.Ground.data }], guard := none }) (v := ?_) rfl (by kernel_rfl) (by kernel_rfl) (by kernel_rfl) (fun _ _ _ h => h) (Or.inl ⟨by rfl, ?_⟩) HX.out ?_); rotate_left
            · (intro w' hSw; go_simp; try with_reducible rfl)
            (try simp only [Act.put, List.setIfInBounds_toArray, List.set_cons_zero, List.set_cons_succ])
            refine wpAnyH_ready (rs := [12]) (by kernel_rfl) (by simp) ?_
            refine AllReadyH.cons (o := { dst := some 30, op := Go.Op.call { callee := Go.Callee.value (Go.Operand.func 19), args := #[Go.Operand.tmp 29], argTypes := #[46] }, type := 9, pos := "ref.go:20", after := #[{ on := 11, ground := Go.Ground.data }, { on := 7, ground := Go.Ground.chain }], guard := none }) (by kernel_rfl) (fun K hK => ?_) AllReadyH.nil
            go_simp
            refine (HV2.out _).mono ?_
            rintro e WA ⟨rfl, hE⟩
            have HX := Lib.hid (show SE w WA from ext_trans HX.out hE)
            have HG := Lib.hid (HG.out.ext hE)
            clear hE
            (try go_wp2_with fail)
            refine hK.out _ _ HX.out (fun _ => ?_)
            clear hK K
            (try simp only [Act.put, List.setIfInBounds_toArray, List.set_cons_zero, List.set_cons_succ])
            (refine wpAnyH_take (i := 13) (oi := { dst := some 31, op := Go.Op.binOp Go.BinOp.add 9 (Go.Operand.tmp 26) (Go.Operand.tmp 30) 9, type := 9, pos := "ref.go:20", after := #[{ on := 8, ground := Go.Ground.data }, { on := 12, ground := Go.Ground.data }], guard := none }) (v := ?_) rfl (by kernel_rfl) (by kernel_rfl) (by kernel_rfl) (fun _ _ _ h => h) (Or.inl ⟨by rfl, ?_⟩) HX.out ?_); rotate_left
            · (intro w' hSw; go_simp; try with_reducible rfl)
            (try simp only [Act.put, List.setIfInBounds_toArray, List.set_cons_zero, List.set_cons_succ])
            (refine wpAnyH_take (i := 15) (oi := { dst := some 33, op := Go.Op.binOp Go.BinOp.add 9 (Go.Operand.tmp 31) (Go.Operand.tmp 32) 9, type := 9, pos := "ref.go:20", after := #[{ on := 13, ground := Go.Ground.data }, { on := 14, ground := Go.Ground.data }], guard := none }) (v := ?_) rfl (by kernel_rfl) (by kernel_rfl) (by kernel_rfl) (fun _ _ _ h => h) (Or.inl ⟨by rfl, ?_⟩) HX.out ?_); rotate_left
            · (intro w' hSw; go_simp; try with_reducible rfl)
            (try simp only [Act.put, List.setIfInBounds_toArray, List.set_cons_zero, List.set_cons_succ])
            (refine wpAnyH_take (i := 16) (oi := { dst := some 8, op := Go.Op.assign (Go.Operand.tmp 33), type := 9, pos := "ref.go:20", after := #[{ on := 15, ground := Go.Ground.data }, { on := 12, ground := Go.Ground.chain }, { on := 0, ground := Go.Ground.phase }, { on := 1, ground := Go.Ground.phase }, { on := 2, ground := Go.Ground.phase }, { on := 3, ground := Go.Ground.phase }, { on := 4, ground := Go.Ground.phase }, { on := 5, ground := Go.Ground.phase }, { on := 6, ground := Go.Ground.phase }, { on := 7, ground := Go.Ground.phase }, { on := 8, ground := Go.Ground.phase }, { on := 9, ground := Go.Ground.phase }, { on := 10, ground := Go.Ground.phase }, { on := 11, ground := Go.Ground.phase }, { on := 12, ground := Go.Ground.phase }, { on := 13, ground := Go.Ground.phase }, { on := 14, ground := Go.Ground.phase }, { on := 15, ground := Go.Ground.phase }], guard := none }) (v := ?_) rfl (by kernel_rfl) (by kernel_rfl) (by kernel_rfl) (fun _ _ _ h => h) (Or.inl ⟨by rfl, ?_⟩) HX.out ?_); rotate_left
            · (intro w' hSw; go_simp; try with_reducible rfl)
            (try simp only [Act.put, List.setIfInBounds_toArray, List.set_cons_zero, List.set_cons_succ])
            refine wpAnyH_done (by kernel_rfl) ?_ _
            go_wp2_with fail
            go_meet
            exact ⟨rfl, HX.out⟩
          · go_simp
            refine (HV2.out _).mono ?_
            rintro e WA ⟨rfl, hE⟩
            have HX := Lib.hid (show SE w WA from ext_trans HX.out hE)
            have HG := Lib.hid (HG.out.ext hE)
            clear hE
            (try go_wp2_with fail)
            refine hK.out _ _ HX.out (fun _ => ?_)
            clear hK K
            (try simp only [Act.put, List.setIfInBounds_toArray, List.set_cons_zero, List.set_cons_succ])
            refine wpAnyH_ready (rs := [3]) (by kernel_rfl) (by simp) ?_
            refine AllReadyH.cons (o := { dst := some 21, op := Go.Op.convert 22 9 (Go.Operand.tmp 20), type := 9, pos := "ref.go:20", after := #[{ on := 2, ground := Go.Ground.data }], guard := none }) (by kernel_rfl) (fun K hK => ?_) AllReadyH.nil
            have hcv := HCV.out _ _ 2 HG.out
            go_simp
            refine hK.out _ _ HX.out (fun _ => ?_)
            clear hK K
            (try simp only [Act.put, List.setIfInBounds_toArray, List.set_cons_zero, List.set_cons_succ])
            (refine wpAnyH_take (i := 8) (oi := { dst := some 26, op := Go.Op.binOp Go.BinOp.add 9 (Go.Operand.tmp 21) (Go.Operand.tmp 25) 9, type := 9, pos := "ref.go:20", after := #[{ on := 3, ground := Go.Ground.data }, { on := 7, ground := Go.Ground.data }], guard := none }) (v := ?_) rfl (by kernel_rfl) (by kernel_rfl) (by kernel_rfl) (fun _ _ _ h => h) (Or.inl ⟨by rfl, ?_⟩) HX.out ?_); rotate_left
            · (intro w' hSw; go_simp; try with_reducible rfl)
            (try simp only [Act.put, List.setIfInBounds_toArray, List.set_cons_zero, List.set_cons_succ])
            (refine wpAnyH_take (i := 13) (oi := { dst := some 31, op := Go.Op.binOp Go.BinOp.add 9 (Go.Operand.tmp 26) (Go.Operand.tmp 30) 9, type := 9, pos := "ref.go:20", after := #[{ on := 8, ground := Go.Ground.data }, { on := 12, ground := Go.Ground.data }], guard := none }) (v := ?_) rfl (by kernel_rfl) (by kernel_rfl) (by kernel_rfl) (fun _ _ _ h => h) (Or.inl ⟨by rfl, ?_⟩) HX.out ?_); rotate_left
            · (intro w' hSw; go_simp; try with_reducible rfl)
            (try simp only [Act.put, List.setIfInBounds_toArray, List.set_cons_zero, List.set_cons_succ])
            (refine wpAnyH_take (i := 15) (oi := { dst := some 33, op := Go.Op.binOp Go.BinOp.add 9 (Go.Operand.tmp 31) (Go.Operand.tmp 32) 9, type := 9, pos := "ref.go:20", after := #[{ on := 13, ground := Go.Ground.data }, { on := 14, ground := Go.Ground.data }], guard := none }) (v := ?_) rfl (by kernel_rfl) (by kernel_rfl) (by kernel_rfl) (fun _ _ _ h => h) (Or.inl ⟨by rfl, ?_⟩) HX.out ?_); rotate_left
            · (intro w' hSw; go_simp; try with_reducible rfl)
            (try simp only [Act.put, List.setIfInBounds_toArray, List.set_cons_zero, List.set_cons_succ])
            (refine wpAnyH_take (i := 16) (oi := { dst := some 8, op := Go.Op.assign (Go.Operand.tmp 33), type := 9, pos := "ref.go:20", after := #[{ on := 15, ground := Go.Ground.data }, { on := 12, ground := Go.Ground.chain }, { on := 0, ground := Go.Ground.phase }, { on := 1, ground := Go.Ground.phase }, { on := 2, ground := Go.Ground.phase }, { on := 3, ground := Go.Ground.phase }, { on := 4, ground := Go.Ground.phase }, { on := 5, ground := Go.Ground.phase }, { on := 6, ground := Go.Ground.phase }, { on := 7, ground := Go.Ground.phase }, { on := 8, ground := Go.Ground.phase }, { on := 9, ground := Go.Ground.phase }, { on := 10, ground := Go.Ground.phase }, { on := 11, ground := Go.Ground.phase }, { on := 12, ground := Go.Ground.phase }, { on := 13, ground := Go.Ground.phase }, { on := 14, ground := Go.Ground.phase }, { on := 15, ground := Go.Ground.phase }], guard := none }) (v := ?_) rfl (by kernel_rfl) (by kernel_rfl) (by kernel_rfl) (fun _ _ _ h => h) (Or.inl ⟨by rfl, ?_⟩) HX.out ?_); rotate_left
            · (intro w' hSw; go_simp; try with_reducible rfl)
            (try simp only [Act.put, List.setIfInBounds_toArray, List.set_cons_zero, List.set_cons_succ])
            refine wpAnyH_done (by kernel_rfl) ?_ _
            go_wp2_with fail
            go_meet
            exact ⟨rfl, HX.out⟩
        · go_simp
          refine (HV2.out _).mono ?_
          rintro e WA ⟨rfl, hE⟩
          have HX := Lib.hid (show SE w WA from ext_trans HX.out hE)
          clear hE
          (try go_wp2_with fail)
          refine hK.out _ _ HX.out (fun _ => ?_)
          clear hK K
          (try simp only [Act.put, List.setIfInBounds_toArray, List.set_cons_zero, List.set_cons_succ])
          refine wpAnyH_ready (rs := [2]) (by kernel_rfl) (by simp) ?_
          refine AllReadyH.cons (o := { dst := some 20, op := Go.Op.buildSlice 22 2 #[(0, Go.Operand.tmp 18), (1, Go.Operand.tmp 19)], type := 22, pos := "ref.go:20", after := #[{ on := 0, ground := Go.Ground.data }, { on := 1, ground := Go.Ground.data }], guard := none }) (by kernel_rfl) (fun K hK => ?_) AllReadyH.nil
          go_simp
          have HG := Lib.hid (show Bs (WA.alloc (.cells #[.int .u8 (kind : Int), .int .u8 (how ys : Int)] 5)) (some ⟨WA.heap.size, 0, none⟩) 2 [kind, how ys] from two_new WA 5 kind (how ys) hk hhow)
          have HX := Lib.hid (show SE w (WA.alloc (.cells #[.int .u8 (kind : Int), .int .u8 (how ys : Int)] 5)) from ext_alloc HX.out _)
          generalize WA.alloc (.cells #[.int .u8 (kind : Int), .int .u8 (how ys : Int)] 5) = WA at *
          skip
          refine hK.out _ _ HX.out (fun _ => ?_)
          clear hK K
          (try simp only [Act.put, List.setIfInBounds_toArray, List.set_cons_zero, List.set_cons_succ])
          refine wpAnyH_ready (rs := [3]) (by kernel_rfl) (by simp) ?_
          refine AllReadyH.cons (o := { dst := some 21, op := Go.Op.convert 22 9 (Go.Operand.tmp 20), type := 9, pos := "ref.go:20", after := #[{ on := 2, ground := Go.Ground.data }], guard := none }) (by kernel_rfl) (fun K hK => ?_) AllReadyH.nil
          have hcv := HCV.out _ _ 2 HG.out
          go_simp
          refine hK.out _ _ HX.out (fun _ => ?_)
          clear hK K
          (try simp only [Act.put, List.setIfInBounds_toArray, List.set_cons_zero, List.set_cons_succ])
          (refine wpAnyH_take (i := 8) (oi := { dst := some 26, op := Go.Op.binOp Go.BinOp.add 9 (Go.Operand.tmp 21) (Go.Operand.tmp 25) 9, type := 9, pos := "ref.go:20", after := #[{ on := 3, ground := Go.Ground.data }, { on := 7, ground := Go.Ground.data }], guard := none }) (v := ?_) rfl (by kernel_rfl) (by kernel_rfl) (by kernel_rfl) (fun _ _ _ h => h) (Or.inl ⟨by rfl, ?_⟩) HX.out ?_); rotate_left
          · (intro w' hSw; go_simp; try with_reducible rfl)
          (try simp only [Act.put, List.setIfInBounds_toArray, List.set_cons_zero, List.set_cons_succ])
          (refine wpAnyH_take (i := 13) (oi := { dst := some 31, op := Go.Op.binOp Go.BinOp.add 9 (Go.Operand.tmp 26) (Go.Operand.tmp 30) 9, type := 9, pos := "ref.go:20", after := #[{ on := 8, ground := Go.Ground.data }, { on := 12, ground := Go.Ground.data }], guard := none }) (v := ?_) rfl (by kernel_rfl) (by kernel_rfl) (by kernel_rfl) (fun _ _ _ h => h) (Or.inl ⟨by rfl, ?_⟩) HX.out ?_); rotate_left
          · (intro w' hSw; go_simp; try with_reducible rfl)
          (try simp only [Act.put, List.setIfInBounds_toArray, List.set_cons_zero, List.set_cons_succ])
          (refine wpAnyH_take (i := 15) (oi := { dst := some 33, op := Go.Op.binOp Go.BinOp.add 9 (Go.Operand.tmp 31) (Go.Operand.tmp 32) 9, type := 9, pos := "ref.go:20", after := #[{ on := 13, ground := Go.Ground.data }, { on := 14, ground := Go.Ground.data }], guard := none }) (v := ?_) rfl (by kernel_rfl) (by kernel_rfl) (by kernel_rfl) (fun _ _ _ h => h) (Or.inl ⟨by rfl, ?_⟩) HX.out ?_); rotate_left
          · (intro w' hSw; go_simp; try with_reducible rfl)
          (try simp only [Act.put, List.setIfInBounds_toArray, List.set_cons_zero, List.set_cons_succ])
          (refine wpAnyH_take (i := 16) (oi := { dst := some 8, op := Go.Op.assign (Go.Operand.tmp 33), type := 9, pos := "ref.go:20", after := #[{ on := 15, ground := Go.Ground.data }, { on := 12, ground := Go.Ground.chain }, { on := 0, ground := Go.Ground.phase }, { on := 1, ground := Go.Ground.phase }, { on := 2, ground := Go.Ground.phase }, { on := 3, ground := Go.Ground.phase }, { on := 4, ground := Go.Ground.phase }, { on := 5, ground := Go.Ground.phase }, { on := 6, ground := Go.Ground.phase }, { on := 7, ground := Go.Ground.phase }, { on := 8, ground := Go.Ground.phase }, { on := 9, ground := Go.Ground.phase }, { on := 10, ground := Go.Ground.phase }, { on := 11, ground := Go.Ground.phase }, { on := 12, ground := Go.Ground.phase }, { on := 13, ground := Go.Ground.phase }, { on := 14, ground := Go.Ground.phase }, { on := 15, ground := Go.Ground.phase }], guard := none }) (v := ?_) rfl (by kernel_rfl) (by kernel_rfl) (by kernel_rfl) (fun _ _ _ h => h) (Or.inl ⟨by rfl, ?_⟩) HX.out ?_); rotate_left
          · (intro w' hSw; go_simp; try with_reducible rfl)
          (try simp only [Act.put, List.setIfInBounds_toArray, List.set_cons_zero, List.set_cons_succ])
          refine wpAnyH_done (by kernel_rfl) ?_ _
          go_wp2_with fail
          go_meet
          exact ⟨rfl, HX.out⟩
    case rest =>
      obtain ⟨rfl, hE⟩ := hcut
      have HE := Lib.hid hE
      clear hE
      generalize S0 ++ S1 ++ S2 ++ S3 = T at *
      have hhl : (head kind ys).length = T.size := by rw [HFIN.out, strOf_size]
      obtain ⟨c3, w3, hcv, hc1, hc2, hB3, hE3⟩ := Com.conv_text wc T (by have := HSZ.out; omega)
      rw [HFIN.out, nats_strOf (small_mem HSM.out), ← HFIN.out] at hB3
      have HB3 := Lib.hid hB3; have HE3 := Lib.hid (ext_trans HE.out hE3)
      have HCS := Lib.hid (Crc.rsum (some ⟨wc.heap.size, 0, none⟩) T.size c3 (head kind ys) w3 hB3 (by have := HSZ.out; omega))
      have HRF := Lib.hid (fun W => Wire.refFixed (crc (head kind ys)) (crc_lt _) W)
      have hF4 : (strOf (fx (crc (head kind ys)))).size = 4 := by rw [strOf_size]; rfl
      have hTT : ¬ 9223372036854775807 < T.size + (strOf (fx (crc (head kind ys)))).size := by have := HSZ.out; omega
      have HOUT : Hid (T ++ strOf (fx (crc (head kind ys))) = strOf (chunk kind ys)) := Lib.hid (by unfold chunk; rw [strOf_app, HFIN.out])
      clear hB3 hE3 hhl hF4
      generalize strOf (fx (crc (head kind ys))) = F at *
      generalize wc.heap.size = G at *
      go_wp2_with fail
      refine (HCS.out).mono ?_
      rintro e w4 ⟨rfl, rfl⟩
      clear hcv
      go_wp2_with fail
      refine (HRF.out _).mono ?_
      rintro e w5 ⟨rfl, hE5⟩
      have HE5 := Lib.hid (ext_trans HE3.out hE5)
      clear hE5
      go_wp2_with fail
      go_ret
      exact ⟨by rw [← HOUT.out]; rfl, HE5.out⟩
end Go.Proofs.YtckjmabacibojaaDoor.Chk
