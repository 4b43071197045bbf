/- Any bytes, packed: the law's own region, walked. -/
import Derived.Test.YtodmjkhfckokhaaLzW
import Derived.Test.YtodmjkhfckokhaaLzV
namespace Go.Proofs.Ytodmjkhfckokhaa.Lz
open Go.ChangeShapes Go.WideShapes Go.ChangeAt Go.RowKit Go.Shelf
open Go.Proofs.Ytodmjkhfckokhaa.Wire Go.Proofs.Ytodmjkhfckokhaa.Map32
set_option linter.unusedVariables false

def SE (w0 w : World) : Prop := Ext w0 w
set_option maxHeartbeats 8000000 in
set_option maxRecDepth 100000 in
theorem packs (A : Option Addr) (N c : Nat) (xs : List Nat) (w : World) (hB : Bs w A N xs) (hN : N ≤ 600) (hc1 : N ≤ c) (hc2 : c ≤ 9223372036854775807) :
    Calls Try.prog 8 #[.slice A N c] w fun e w' => e = .returned (.bool true) ∧ Ext w w' := by
  have hx := hB.2.1
  have HB := Lib.hid hB; have HX := Lib.hid hx
  have hxl : xs.length = N := hB.1
  have HP := Lib.hid (fun W (h : Bs W A N xs) => pack A N c xs W h (by omega) hc1 hc2)
  have hsz : (strOf xs).size ≤ 1000000 := by rw [strOf_size]; omega
  have HR : Hid (∀ W, Calls Try.prog 36 #[.string (strOf xs)] W fun e w' => e = .returned (.string (strOf (pk xs 0 0))) ∧ Ext W w') := Lib.hid (fun W => by
    have h := refPack (strOf xs) W hsz
    rw [nats_strOf hx] at h
    exact h)
  have HZ := Lib.hid (pk_byte hx)
  clear hB hx hsz hxl
  generalize pk xs 0 0 = zs at *
  go_enter Try.func8, Try.ntmps8
  go_wp2_with fail
  have HX0 := Lib.hid (show SE w w.drew from ext_drew (Ext.rfl' w))
  have HCV : Hid (∀ w', SE w w' → (convert 22 9 (.slice A N c)).run Try.prog w' = .ok (.string (strOf xs)) w') := Lib.hid (fun w' h => Com.conv8 (HB.out.ext h) c)
  generalize strOf xs = S1 at *
  refine wp_region_held_drew (S := SE w) hmx HX0.out (fun _ => ?_)
  (refine wpAnyH_take (i := 0) (v := ?_) rfl (by kernel_rfl) (by kernel_rfl) (by kernel_rfl) (fun _ _ _ h => h) (Or.inl ⟨by rfl, ?_⟩) HX0.out ?_); rotate_left
  · (intro w' hSw; go_simp; try with_reducible rfl)
  (refine wpAnyH_take (i := 3) (v := ?_) rfl (by kernel_rfl) (by kernel_rfl) (by kernel_rfl) (fun _ _ _ h => h) (Or.inl ⟨by rfl, ?_⟩) HX0.out ?_); rotate_left
  · (intro w' hSw; go_simp; try with_reducible rfl)
  (refine wpAnyH_take (i := 4) (v := ?_) rfl (by kernel_rfl) (by kernel_rfl) (by kernel_rfl) (fun _ _ _ h => h) (Or.inl ⟨by rfl, ?_⟩) HX0.out ?_); rotate_left
  · (intro w' hSw; have hcv := HCV.out w' hSw; go_simp; try with_reducible rfl)
  refine wpAnyH_ready (rs := [1]) (by kernel_rfl) (by simp) ?_
  refine AllReadyH.cons rfl (fun K hK => ?_) AllReadyH.nil
  go_simp
  refine (HP.out _ (HB.out.ext HX0.out)).mono ?_
  rintro e w1 ⟨v1, rfl, hO1, hE1⟩
  obtain ⟨A1, k1, rfl, _⟩ := own_shape hO1
  have B1 := Lib.hid (Own.bs hO1 HZ.out)
  have HX1 := Lib.hid (show SE w w1 from ext_trans HX0.out hE1)
  clear hO1 hE1
  (try go_wp2_with fail)
  refine hK.out _ _ HX1.out (fun _ => ?_)
  clear hK K
  refine wpAnyH_ready (rs := [2, 5]) (by kernel_rfl) (by simp) ?_
  refine AllReadyH.cons rfl (fun K hK => ?_) (AllReadyH.cons rfl (fun K hK => ?_) AllReadyH.nil)
  · have hcv := Com.conv8 B1.out k1
    go_simp
    refine hK.out _ _ HX1.out (fun _ => ?_)
    clear hK K hcv
    refine wpAnyH_ready (rs := [5]) (by kernel_rfl) (by simp) ?_
    refine AllReadyH.cons rfl (fun K hK => ?_) AllReadyH.nil
    go_simp
    refine (HR.out _).mono ?_
    rintro e w2 ⟨rfl, hE2⟩
    have HX2 := Lib.hid (show SE w w2 from ext_trans HX1.out hE2)
    clear hE2
    (try go_wp2_with fail)
    refine hK.out _ _ HX2.out (fun _ => ?_)
    clear hK K
    (refine wpAnyH_take (i := 6) (v := ?_) rfl (by kernel_rfl) (by kernel_rfl) (by kernel_rfl) (fun _ _ _ h => h) (Or.inl ⟨by rfl, ?_⟩) HX2.out ?_); rotate_left
    · (intro w' hSw; go_simp; try with_reducible rfl)
    (refine wpAnyH_take (i := 7) (v := ?_) rfl (by kernel_rfl) (by kernel_rfl) (by kernel_rfl) (fun _ _ _ h => h) (Or.inl ⟨by rfl, ?_⟩) HX2.out ?_); rotate_left
    · (intro w' hSw; go_simp; try with_reducible rfl)
    refine wpAnyH_ready (rs := [8]) (by kernel_rfl) (by simp) ?_
    refine AllReadyH.cons rfl (fun K hK => ?_) AllReadyH.nil
    go_simp
    refine (wakes _).mono ?_
    rintro e w3 ⟨rfl, hE3⟩
    have HX3 := Lib.hid (show SE w w3 from ext_trans HX2.out hE3)
    clear hE3
    (try go_wp2_with fail)
    refine hK.out _ _ HX3.out (fun _ => ?_)
    clear hK K
    (refine wpAnyH_take (i := 9) (v := ?_) rfl (by kernel_rfl) (by kernel_rfl) (by kernel_rfl) (fun _ _ _ h => h) (Or.inl ⟨by rfl, ?_⟩) HX3.out ?_); rotate_left
    · (intro w' hSw; go_simp; try with_reducible rfl)
    refine wpAnyH_ready (rs := [10]) (by kernel_rfl) (by simp) ?_
    refine AllReadyH.cons rfl (fun K hK => ?_) AllReadyH.nil
    go_simp
    refine hK.out _ _ HX3.out (fun _ => ?_)
    clear hK K
    refine wpAnyH_done (by kernel_rfl) ?_ _
    go_wp2_with fail
    go_ret
    exact ⟨rfl, HX3.out⟩
  · go_simp
    refine (HR.out _).mono ?_
    rintro e w2 ⟨rfl, hE2⟩
    have HX2 := Lib.hid (show SE w w2 from ext_trans HX1.out hE2)
    have B2 := Lib.hid (B1.out.ext hE2)
    clear hE2
    (try go_wp2_with fail)
    refine hK.out _ _ HX2.out (fun _ => ?_)
    clear hK K
    refine wpAnyH_ready (rs := [2]) (by kernel_rfl) (by simp) ?_
    refine AllReadyH.cons rfl (fun K hK => ?_) AllReadyH.nil
    have hcv := Com.conv8 B2.out k1
    go_simp
    refine hK.out _ _ HX2.out (fun _ => ?_)
    clear hK K hcv
    (refine wpAnyH_take (i := 6) (v := ?_) rfl (by kernel_rfl) (by kernel_rfl) (by kernel_rfl) (fun _ _ _ h => h) (Or.inl ⟨by rfl, ?_⟩) HX2.out ?_); rotate_left
    · (intro w' hSw; go_simp; try with_reducible rfl)
    (refine wpAnyH_take (i := 7) (v := ?_) rfl (by kernel_rfl) (by kernel_rfl) (by kernel_rfl) (fun _ _ _ h => h) (Or.inl ⟨by rfl, ?_⟩) HX2.out ?_); rotate_left
    · (intro w' hSw; go_simp; try with_reducible rfl)
    refine wpAnyH_ready (rs := [8]) (by kernel_rfl) (by simp) ?_
    refine AllReadyH.cons rfl (fun K hK => ?_) AllReadyH.nil
    go_simp
    refine (wakes _).mono ?_
    rintro e w3 ⟨rfl, hE3⟩
    have HX3 := Lib.hid (show SE w w3 from ext_trans HX2.out hE3)
    clear hE3
    (try go_wp2_with fail)
    refine hK.out _ _ HX3.out (fun _ => ?_)
    clear hK K
    (refine wpAnyH_take (i := 9) (v := ?_) rfl (by kernel_rfl) (by kernel_rfl) (by kernel_rfl) (fun _ _ _ h => h) (Or.inl ⟨by rfl, ?_⟩) HX3.out ?_); rotate_left
    · (intro w' hSw; go_simp; try with_reducible rfl)
    refine wpAnyH_ready (rs := [10]) (by kernel_rfl) (by simp) ?_
    refine AllReadyH.cons rfl (fun K hK => ?_) AllReadyH.nil
    go_simp
    refine hK.out _ _ HX3.out (fun _ => ?_)
    clear hK K
    refine wpAnyH_done (by kernel_rfl) ?_ _
    go_wp2_with fail
    go_ret
    exact ⟨rfl, HX3.out⟩
end Go.Proofs.Ytodmjkhfckokhaa.Lz
