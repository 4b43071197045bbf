/- The document's literals as tokens, walked. -/
import Derived.Test.YtodmjkhfckokhaaLzS
import Derived.Test.YtodmjkhfckokhaaWireRef
import Derived.Test.YtodmjkhfckokhaaLzQ
namespace Go.Proofs.Ytodmjkhfckokhaa.Lz
open Go.ChangeShapes Go.WideShapes Go.ChangeAt Go.RowKit Go.Shelf
open Go.Proofs.Ytodmjkhfckokhaa.Wire Go.Proofs.Ytodmjkhfckokhaa.Map32
set_option linter.unusedVariables false

def RRRel (w : World) (R : List Nat) (M : Nat) (sv ov : Value) (wr : World) : Prop :=
  ∃ (X : ByteArray) (E : List Nat), sv = .string X ∧ ov = .string (strOf E) ∧ X.size ≤ M ∧ E ++ litT (natsOf X) = R ∧ Ext w wr
set_option maxHeartbeats 4000000 in
set_option maxRecDepth 100000 in
theorem refRun (s : ByteArray) (w : World) (hs : s.size ≤ 1000000) :
    Calls Try.prog 62 #[.string s] w fun e w' => e = .returned (.string (strOf (litT (natsOf s)))) ∧ Ext w w' := by
  have hl := litT_len _ (natsOf s) rfl
  rw [natsOf_len] at hl
  obtain ⟨R, hR⟩ : ∃ R, R = litT (natsOf s) := ⟨_, rfl⟩
  rw [← hR] at hl ⊢
  have hRl : R.length ≤ 2000000 := by omega
  have HR := Lib.hid hR; clear hl hR
  go_enter Try.func62, Try.ntmps62
  go_wp2_with fail
  go_loopw [0, 3] (fun sv ov wr => RRRel w R s.size sv ov wr) (fun sv _ _ => match sv with | .string X => X.size | _ => 0)
  case atStart => exact ⟨s, [], rfl, rfl, Nat.le_refl _, by rw [HR.out, List.nil_append], Ext.rfl' _⟩
  case round =>
    obtain ⟨X, E, rfl, rfl, hX, hE, hEx⟩ := hrel
    have hEl : E.length ≤ 2000000 := by
      have e := congrArg List.length hE
      rw [List.length_append] at e
      omega
    have HE := Lib.hid hE; have HEx := Lib.hid hEx; clear hE hEx
    by_cases h0 : 0 < X.size
    · obtain ⟨n, hn⟩ : ∃ n, n = min 64 X.size := ⟨_, rfl⟩
      have hn1 : 1 ≤ n := by omega
      have hn2 : n ≤ 64 := by omega
      have hn3 : n ≤ X.size := by omega
      have z0 : (0 : Int) < (X.size : Int) := by omega
      have HST := Lib.hid (litT_step (l := natsOf X) (by rw [natsOf_len]; exact h0))
      go_upto_region 3 with fail
      go_cut [4] (fun nv wx => nv = .int .i64 (n : Int) ∧ wr = wx)
      case first =>
        by_cases hm : 64 ≤ X.size
        · have hm1 : (64 : Int) ≤ (X.size : Int) := by omega
          go_wp2_with fail
          go_meet
          exact ⟨int_eq (by omega), rfl⟩
        · have hm1 : (X.size : Int) < 64 := by omega
          go_wp2_with fail
          go_meet
          exact ⟨int_eq (by omega), rfl⟩
      case rest =>
      obtain ⟨rfl, rfl⟩ := hcut
      obtain ⟨m, hm⟩ : ∃ m, m = 2 * (n - 1) := ⟨_, rfl⟩
      have hm1 : m ≤ 126 := by omega
      have HST2 : Hid (litT (natsOf X) = m :: ((natsOf X).take n ++ litT (natsOf (X.extract n X.size)))) := Lib.hid (by
        rw [HST.out, natsOf_len, ← hn, ← hm, Com.nats_ext])
      have q1 : IntKind.i64.wrap ((n : Int) - 1) = (n : Int) - 1 := by rw [IntKind.wrap_i64]; omega
      have q2 : (2 : Int) * ((n : Int) - 1) = (m : Int) := by omega
      have q3 : IntKind.i64.wrap (m : Int) = (m : Int) := by rw [IntKind.wrap_i64]; omega
      have q4 : IntKind.u8.wrap (m : Int) = (m : Int) := by rw [IntKind.wrap_u8]; omega
      have s1 : (0 : Int) ≤ (n : Int) := by omega
      have s2 : (n : Int) ≤ (X.size : Int) := by omega
      have HC := Lib.hid (one_conv wr.heap.size (wr.alloc (.cells #[.int .u8 (m : Int)] 5)).drew m (by omega) ((Blk.new wr 5 #[.int .u8 (m : Int)]).drew.cell 0))
      have HF : Hid (strOf E ++ strOf [m] ++ X.extract 0 n = strOf (E ++ (m :: (natsOf X).take n))) := Lib.hid (by
        rw [Com.str_ext X 0 n, List.drop_zero, Nat.sub_zero, ← strOf_app, ← strOf_app]
        simp only [List.append_assoc, List.singleton_append])
      have hs0 : (strOf E).size ≤ 2000000 := by rw [strOf_size]; exact hEl
      have hs1 : (strOf [m]).size = 1 := by rw [strOf_size]; rfl
      clear hn hm HST
      have HS1 := Lib.hid hs1
      have hs2 : (strOf [m]).size ≤ 1 := by omega
      clear hs1
      generalize strOf E = S0 at *
      generalize strOf [m] = S1 at *
      have hz1 : ¬ 9223372036854775807 < S0.size + S1.size := by omega
      have hz2 : ¬ 9223372036854775807 < S0.size + S1.size + n := by omega
      go_wp2_with fail
      go_cut [3] (fun ov wx => ov = .string (S0 ++ S1 ++ X.extract 0 n) ∧ Ext wr wx)
      case first =>
        refine wp_region_held_drew (S := fun _ => True) hmx trivial (fun _ => ?_)
        (refine wpAnyH_take (i := 0) (v := ?_) rfl (by kernel_rfl) (by kernel_rfl) (by kernel_rfl) (fun _ _ _ h => h) (Or.inl ⟨by rfl, ?_⟩) trivial ?_); rotate_left
        · (intro w hSw; go_simp; try with_reducible rfl)
        (refine wpAnyH_take (i := 1) (v := ?_) rfl (by kernel_rfl) (by kernel_rfl) (by kernel_rfl) (fun _ _ _ h => h) (Or.inl ⟨by rfl, ?_⟩) trivial ?_); rotate_left
        · (intro w hSw; go_simp; try with_reducible rfl)
        (refine wpAnyH_take (i := 2) (v := ?_) rfl (by kernel_rfl) (by kernel_rfl) (by kernel_rfl) (fun _ _ _ h => h) (Or.inl ⟨by rfl, ?_⟩) trivial ?_); rotate_left
        · (intro w hSw; go_simp; try with_reducible rfl)
        (refine wpAnyH_take (i := 3) (v := ?_) rfl (by kernel_rfl) (by kernel_rfl) (by kernel_rfl) (fun _ _ _ h => h) (Or.inl ⟨by rfl, ?_⟩) trivial ?_); rotate_left
        · (intro w hSw; go_simp; try with_reducible rfl)
        (refine wpAnyH_take (i := 4) (v := ?_) rfl (by kernel_rfl) (by kernel_rfl) (by kernel_rfl) (fun _ _ _ h => h) (Or.inl ⟨by rfl, ?_⟩) trivial ?_); rotate_left
        · (intro w hSw; go_simp; try with_reducible rfl)
        (refine wpAnyH_take (i := 8) (v := ?_) rfl (by kernel_rfl) (by kernel_rfl) (by kernel_rfl) (fun _ _ _ h => h) (Or.inl ⟨by rfl, ?_⟩) trivial ?_); rotate_left
        · (intro w hSw; go_simp; try with_reducible rfl)
        (refine wpAnyH_take (i := 9) (v := ?_) rfl (by kernel_rfl) (by kernel_rfl) (by kernel_rfl) (fun _ _ _ h => h) (Or.inl ⟨by rfl, ?_⟩) trivial ?_); rotate_left
        · (intro w hSw; go_simp; try with_reducible rfl)
        (refine wpAnyH_take (i := 10) (v := ?_) rfl (by kernel_rfl) (by kernel_rfl) (by kernel_rfl) (fun _ _ _ h => h) (Or.inl ⟨by rfl, ?_⟩) trivial ?_); rotate_left
        · (intro w hSw; go_simp; try with_reducible rfl)
        have hC := HC.out
        refine wpAnyH_ready (rs := [5]) (by kernel_rfl) (by simp) ?_
        refine AllReadyH.cons rfl (fun K hK => ?_) AllReadyH.nil
        go_simp
        refine hK.out _ _ trivial (fun _ => ?_)
        clear hK K
        refine wpAnyH_ready (rs := [6]) (by kernel_rfl) (by simp) ?_
        refine AllReadyH.cons rfl (fun K hK => ?_) AllReadyH.nil
        go_simp
        refine hK.out _ _ trivial (fun _ => ?_)
        clear hK K hC
        refine wpAnyH_ready (rs := [7]) (by kernel_rfl) (by simp) ?_
        refine AllReadyH.cons rfl (fun K hK => ?_) AllReadyH.nil
        go_simp
        refine hK.out _ _ trivial (fun _ => ?_)
        clear hK K
        refine wpAnyH_ready (rs := [11]) (by kernel_rfl) (by simp) ?_
        refine AllReadyH.cons rfl (fun K hK => ?_) AllReadyH.nil
        go_simp
        refine hK.out _ _ trivial (fun _ => ?_)
        clear hK K
        refine wpAnyH_ready (rs := [12]) (by kernel_rfl) (by simp) ?_
        refine AllReadyH.cons rfl (fun K hK => ?_) AllReadyH.nil
        go_simp
        refine hK.out _ _ trivial (fun _ => ?_)
        clear hK K
        refine wpAnyH_done (by kernel_rfl) ?_ _
        go_wp2_with fail
        go_meet
        exact ⟨rfl, ext_alloc (ext_drew (Ext.rfl' _)) _⟩
      case rest =>
        obtain ⟨rfl, hE2⟩ := hcut
        have HE2 := Lib.hid (ext_trans HEx.out hE2); clear hE2 HC q1 q2 q3 q4
        go_wp2_with fail
        go_roundw
        case rel => exact ⟨_, E ++ (m :: (natsOf X).take n), rfl, by rw [HF.out], by simp; omega, by rw [← HE.out, HST2.out]; simp only [List.append_assoc, List.cons_append], HE2.out⟩
        case measure => simp; omega
    · have z0 : ¬ (0 : Int) < (X.size : Int) := by omega
      have HF : Hid (E = R) := Lib.hid (by
        have e : natsOf X = [] := List.eq_nil_of_length_eq_zero (by rw [natsOf_len]; omega)
        rw [← HE.out, e, litT_nil, List.append_nil])
      go_wp2_with fail
      go_ret
      exact ⟨by rw [HF.out]; rfl, HEx.out⟩
end Go.Proofs.Ytodmjkhfckokhaa.Lz
