/- The document's Unpack, walked. -/
import Derived.Test.YtckjmabacibojaaDoorGK
import Derived.Test.YtckjmabacibojaaDoorGE
namespace Go.Proofs.YtckjmabacibojaaDoor.Lz
open Go.ChangeShapes Go.WideShapes Go.ChangeAt Go.RowKit
open Go.Proofs.YtckjmabacibojaaDoor.Wire
open Go.Proofs.YtckjmabacibojaaDoor.Ref
open Go.Proofs.YtckjmabacibojaaDoor.Com (natsOf_get str_ext nats_ext)
set_option linter.unusedVariables false

/-- What the document's Unpack comes to. -/
def RUPost (w : World) (R : UR) (e : Ending) (w' : World) : Prop :=
  Ext w w' ∧ match R with
  | .bad f => e = .returned (.tuple #[.string ⟨#[]⟩, .int .i64 f])
  | .ok zs => e = .returned (.tuple #[.string (strOf zs), .int .i64 0])
def RURel (w : World) (G M : Nat) (R : UR) (ov : Value) (wr : World) : Prop :=
  ∃ (s : ByteArray) (i : Nat) (out : List Nat), s.size + i ≤ 1000000 ∧ ov = .string (strOf out) ∧ Blk wr G 55 #[.string s, .int .i64 (i : Int), .int .i64 0] ∧ unp M out (natsOf s) = R ∧ out.length ≤ M ∧ (∀ c ∈ out, c < 256) ∧ Ext w wr
def URel2 (out : List Nat) (v n : Nat) (ov qv : Value) : Prop := ∃ q : Nat, q ≤ n ∧ ov = .string (strOf (rep out (v + 1) q)) ∧ qv = .int .i64 (q : Int)
theorem blk_set3 {w : World} {g t : Nat} {a b c : Value} (h : Blk w g t #[a, b, c]) (x y z : Value) : Blk (((w.setCell ⟨g, 0, none⟩ x).setCell ⟨g, 1, none⟩ y).setCell ⟨g, 2, none⟩ z) g t #[x, y, z] := ((h.set_ 0 x).set_ 1 y).set_ 2 z
set_option maxHeartbeats 16000000 in
set_option maxRecDepth 100000 in
theorem refUnpack (s0 : ByteArray) (M : Nat) (w : World) (hs : s0.size ≤ 1000000) (hM : M ≤ 4000000000) :
    Calls Tryd.prog 26 #[.string s0, .int .i64 (M : Int)] w (RUPost w (unp M [] (natsOf s0))) := by
  obtain ⟨R, hR⟩ : ∃ R, R = unp M [] (natsOf s0) := ⟨_, rfl⟩
  rw [← hR]
  have HR := Lib.hid hR; clear hR
  go_enter Tryd.func26, Tryd.ntmps26
  go_wp2_with fail
  go_loopw [6] (fun ov wr => RURel w w.heap.size M R ov wr) (fun _ wr => match wr.cell? ⟨w.heap.size, 0, none⟩ with | some (.string s) => s.size | _ => 0)
  case atStart => exact ⟨s0, 0, [], by omega, rfl, Blk.new _ _ _, by rw [HR.out], Nat.zero_le _, (fun c hc => by cases hc), ext_alloc (Ext.rfl' w) _⟩
  case round =>
    obtain ⟨s, i, out, hsi, rfl, hB, hU, hol, hos, hE⟩ := hrel
    have HOS := Lib.hid hos; clear hos
    have c0 := hB.cell 0
    have c1 := hB.cell 1
    have c2 := hB.cell 2
    have f0 := hB.frozen 0
    have f1 := hB.frozen 1
    have f2 := hB.frozen 2
    have hlt := hB.lt
    simp only [List.getElem?_toArray, List.getElem?_cons_zero, List.getElem?_cons_succ] at c0 c1 c2
    rw [c0]
    simp only
    have HB := Lib.hid hB; have HU := Lib.hid hU; have HE := Lib.hid hE
    clear hB hU hE
    by_cases hsz : s.size = 0
    · have k0 : ¬ (0 : Int) < (s.size : Int) := by omega
      have HRR : Hid (R = .ok out) := Lib.hid (by
        have e : natsOf s = [] := List.eq_nil_of_length_eq_zero (by rw [natsOf_len, hsz])
        rw [← HU.out, e, unp_nil])
      clear hsz
      generalize hS : strOf out = S at *
      have HS := Lib.hid hS; clear hS
      go_wp2_with fail
      go_ret2
      exact ⟨HE.out, by rw [HRR.out, ← HS.out]; rfl⟩
    · have k0 : (0 : Int) < (s.size : Int) := by omega
      go_wp2_with fail
      refine (bytes_ok s i 1 _ (by omega) (by omega) (by omega)).mono ?_
      rintro e w1 ⟨rfl, b1⟩
      have hx1 : (s.extract 0 1).size = 1 := by rw [ByteArray.size_extract]; omega
      have hkk : ((s.extract 0 1)[0]'(by omega)).toNat = (natsOf s).getD 0 0 := by
        rw [natsOf_get s 0 (by omega)]; exact congrArg UInt8.toNat (by simp [ByteArray.getElem_extract])
      have hxd : natsOf s = (natsOf s).getD 0 0 :: natsOf (s.extract 1 s.size) := by
        rw [nats_ext, ← List.drop_zero (l := natsOf s), List.drop_eq_getElem_cons (by rw [natsOf_len]; omega)]
        simp [List.getD_eq_getElem?_getD]
      have hs1 : (s.extract 1 s.size).size = s.size - 1 := by rw [ByteArray.size_extract]; omega
      have hkb : (natsOf s).getD 0 0 < 256 := natsOf_small s 0
      generalize (natsOf s).getD 0 0 = k at *
      generalize s.extract 1 s.size = s' at *
      have hU2 := HU.out
      rw [hxd] at hU2
      have HU2 := Lib.hid hU2
      have HXD := Lib.hid hxd
      have hz1 := b1.size
      have HB1 := Lib.hid (HB.out.ext b1)
      have HE1 := Lib.hid (ext_trans HE.out b1)
      obtain ⟨hcc, hff⟩ := ecell b1
      have c0 : w1.cell? ⟨w.heap.size, 0, none⟩ = some (.string s) := (hcc _ _ hlt).trans c0
      have c1 : w1.cell? ⟨w.heap.size, 1, none⟩ = some (.int .i64 (i : Int)) := (hcc _ _ hlt).trans c1
      have c2 : w1.cell? ⟨w.heap.size, 2, none⟩ = some (.int .i64 0) := (hcc _ _ hlt).trans c2
      have f0 : w1.frozen? ⟨w.heap.size, 0, none⟩ = false := (hff _ _ hlt).trans f0
      have f1 : w1.frozen? ⟨w.heap.size, 1, none⟩ = false := (hff _ _ hlt).trans f1
      have f2 : w1.frozen? ⟨w.heap.size, 2, none⟩ = false := (hff _ _ hlt).trans f2
      have hlt : w.heap.size < w1.heap.size := by omega
      clear hxd hU2 hcc hff hz1 b1
      have hSz : (strOf out).size = out.length := strOf_size out
      generalize hS : strOf out = S at *
      have HS := Lib.hid hS; clear hS
      by_cases hk : 128 ≤ k
      · have hk1 : ¬ (k : Int) ≤ 127 := by omega
        have hk2 : (127 : Int) < (k : Int) := by omega
        have HRR : Hid (R = .bad 4) := Lib.hid (by rw [← HU2.out, unp_high hk])
        go_wp2_with fail
        go_ret2
        exact ⟨ext_alloc HE1.out _, by rw [HRR.out]; rfl⟩
      · have hk1 : (k : Int) ≤ 127 := by omega
        have hk2 : ¬ (127 : Int) < (k : Int) := by omega
        by_cases hev : k % 2 = 0
        · have hk2 : (((k : Int) % 2) == 0) = true := beq_iff_eq.2 (by omega)
          by_cases hbig : M < out.length + (k / 2 + 1)
          · have k6 : (M : Int) < (S.size : Int) + (k : Int) / 2 + 1 := by omega
            have HRR : Hid (R = .bad 6) := Lib.hid (by rw [← HU2.out]; exact unp_run6 (by omega) hev hbig)
            go_wp2_with fail
            go_ret2
            exact ⟨ext_alloc HE1.out _, by rw [HRR.out]; rfl⟩
          · have k6 : ¬ (M : Int) < (S.size : Int) + (k : Int) / 2 + 1 := by omega
            by_cases hsh : s'.size < k / 2 + 1
            · have HRR : Hid (R = .bad 3) := Lib.hid (by rw [← HU2.out]; exact unp_run3 (by omega) hev hbig (by rw [natsOf_len]; exact hsh))
              go_wp2_with fail
              rw [show ((k : Int) / 2 + 1) = ((k / 2 + 1 : Nat) : Int) from by omega]
              refine (bytes_short s' (i + 1) (k / 2 + 1) _ hsh).mono ?_
              rintro e w2 ⟨rfl, b2⟩
              have hz2 := b2.size
              have HE2 := Lib.hid (ext_trans (ext_alloc HE1.out _) b2)
              go_wp2_with fail
              refine wp_still (by kernel_rfl) (by kernel_rfl) ?_
              repeat still_step
              refine wpStill_nil ?_
              go_wp2_with fail
              go_ret2
              exact ⟨ext_drew (ext_alloc HE2.out _), by rw [HRR.out]; rfl⟩
            · go_wp2_with fail
              rw [show ((k : Int) / 2 + 1) = ((k / 2 + 1 : Nat) : Int) from by omega]
              refine (bytes_ok s' (i + 1) (k / 2 + 1) _ (by omega) (by omega) (by omega)).mono ?_
              rintro e w2 ⟨rfl, b2⟩
              have hz2 := b2.size
              simp at hz2
              have HE2 := Lib.hid (ext_trans (ext_alloc HE1.out _) b2)
              have HB2 := Lib.hid ((HB1.out.alloc _).ext b2)
              have hlt2 : w.heap.size < w2.heap.size := by omega
              have c0 : w2.cell? ⟨w.heap.size, 0, none⟩ = some (.string s) := HB2.out.cell 0
              have c1 : w2.cell? ⟨w.heap.size, 1, none⟩ = some (.int .i64 (i : Int)) := HB2.out.cell 1
              have c2 : w2.cell? ⟨w.heap.size, 2, none⟩ = some (.int .i64 0) := HB2.out.cell 2
              have f0 : w2.frozen? ⟨w.heap.size, 0, none⟩ = false := HB2.out.frozen 0
              have f1 : w2.frozen? ⟨w.heap.size, 1, none⟩ = false := HB2.out.frozen 1
              have f2 : w2.frozen? ⟨w.heap.size, 2, none⟩ = false := HB2.out.frozen 2
              have hSs : (s'.extract 0 (k / 2 + 1)).size = k / 2 + 1 := by rw [ByteArray.size_extract]; omega
              have hSf : S ++ s'.extract 0 (k / 2 + 1) = strOf (out ++ (natsOf s').take (k / 2 + 1)) := by rw [str_ext, strOf_app, ← HS.out]; simp
              have hU3 : unp M (out ++ (natsOf s').take (k / 2 + 1)) (natsOf (s'.extract (k / 2 + 1) s'.size)) = R := by rw [nats_ext, ← HU2.out]; exact (unp_run (by omega) hev hbig (by rw [natsOf_len]; exact hsh)).symm
              have hol3 : (out ++ (natsOf s').take (k / 2 + 1)).length ≤ M := by rw [List.length_append, List.length_take, natsOf_len]; omega
              have hs3 : (s'.extract (k / 2 + 1) s'.size).size = s'.size - (k / 2 + 1) := by rw [ByteArray.size_extract]; omega
              have HOS3 : Hid (∀ c ∈ out ++ (natsOf s').take (k / 2 + 1), c < 256) := Lib.hid (fun c hc => by
                rcases List.mem_append.1 hc with hc | hc
                · exact HOS.out c hc
                · exact mem_small (natsOf_small s') c (List.mem_of_mem_take hc))
              have HSF := Lib.hid hSf; have HU3 := Lib.hid hU3; have HOL3 := Lib.hid hol3
              clear hSf hU3 hol3
              have hcat : ¬ (9223372036854775807 < S.size + (s'.extract 0 (k / 2 + 1)).size) := by omega
              generalize s'.extract 0 (k / 2 + 1) = S1 at *
              generalize s'.extract (k / 2 + 1) s'.size = s2 at *
              generalize hSS : S ++ S1 = S3 at *
              go_wp2_with fail
              go_roundw
              case rel => exact ⟨s2, i + 1 + (k / 2 + 1), _, by omega, congrArg Value.string HSF.out, by rw [show ((i + 1 + (k / 2 + 1) : Nat) : Int) = (i : Int) + 1 + ((k : Int) / 2 + 1) from by omega]; exact (blk_set3 HB2.out _ _ _).alloc _, HU3.out, HOL3.out, HOS3.out, ext_alloc (ext_set3 HE2.out (Nat.le_refl _) _ _ _) _⟩
              case measure => rw [((blk_set3 HB2.out _ _ _).alloc _).cell 0]; show s2.size < s.size; omega
        · have hk2 : (((k : Int) % 2) == 0) = false := beq_eq_false_iff_ne.2 (by omega)
          go_wp2_with fail
          have hrn := rnum s' (i + 1) 2147483647 (w1.alloc (.cells #[.string s', .int .i64 ((i : Int) + 1), .int .i64 0] 55)) (by omega) (by omega)
          refine hrn.mono ?_
          clear hrn
          rintro e w2 ⟨b2, hR⟩
          have hz2 := b2.size
          simp at hz2
          have HE2 := Lib.hid (ext_trans (ext_alloc HE1.out _) b2)
          have HB2 := Lib.hid ((HB1.out.alloc _).ext b2)
          have HVK := Lib.hid (fun v j (h : vr 0 0 (natsOf s') = .ok v j) => vr_ok (mem_small (natsOf_small s')) h)
          have HL' := Lib.hid (natsOf_len s')
          cases hv : vr 0 0 (natsOf s') with
          | short =>
            rw [hv] at hR
            obtain rfl := hR
            have HRR : Hid (R = .bad 3) := Lib.hid (by rw [← HU2.out]; exact unp_short (by omega) hev hv)
            clear hv
            go_wp2_with fail
            refine wp_still (by kernel_rfl) (by kernel_rfl) ?_
            repeat still_step
            refine wpStill_nil ?_
            go_wp2_with fail
            go_ret2
            exact ⟨ext_drew (ext_alloc HE2.out _), by rw [HRR.out]; rfl⟩
          | form =>
            rw [hv] at hR
            obtain rfl := hR
            have HRR : Hid (R = .bad 4) := Lib.hid (by rw [← HU2.out]; exact unp_form (by omega) hev hv)
            clear hv
            go_wp2_with fail
            refine wp_still (by kernel_rfl) (by kernel_rfl) ?_
            repeat still_step
            refine wpStill_nil ?_
            go_wp2_with fail
            go_ret2
            exact ⟨ext_drew (ext_alloc HE2.out _), by rw [HRR.out]; rfl⟩
          | ok v j =>
            rw [hv] at hR
            simp only at hR
            have hvk := HVK.out v j hv
            have hj1 := hvk.2.2.2
            rw [HL'.out] at hj1
            by_cases hbigv : v ≤ 2147483647
            · rw [if_pos hbigv] at hR
              obtain rfl := hR
              by_cases hfar : 4096 ≤ v ∨ out.length ≤ v
              · have HRR : Hid (R = .bad 4) := Lib.hid (by rw [← HU2.out]; exact unp_far (by omega) hev hv hfar)
                clear hv hvk
                by_cases hf4 : 4096 ≤ v
                · have k9 : (4095 : Int) < (v : Int) := by omega
                  go_wp2_with fail
                  go_ret2
                  exact ⟨ext_alloc HE2.out _, by rw [HRR.out]; rfl⟩
                · have k9 : ¬ (4095 : Int) < (v : Int) := by omega
                  have k10 : (S.size : Int) ≤ (v : Int) := by omega
                  go_wp2_with fail
                  go_ret2
                  exact ⟨ext_alloc HE2.out _, by rw [HRR.out]; rfl⟩
              · have k9 : ¬ (4095 : Int) < (v : Int) := by omega
                have k10 : ¬ (S.size : Int) ≤ (v : Int) := by omega
                by_cases hlim : M < out.length + (k / 2 + 3)
                · have HRR : Hid (R = .bad 6) := Lib.hid (by rw [← HU2.out]; exact unp_match6 (by omega) hev hv hfar hlim)
                  have k11 : (M : Int) < (S.size : Int) + (k : Int) / 2 + 3 := by omega
                  clear hv hvk
                  go_wp2_with fail
                  go_ret2
                  exact ⟨ext_alloc HE2.out _, by rw [HRR.out]; rfl⟩
                · have k11 : ¬ (M : Int) < (S.size : Int) + (k : Int) / 2 + 3 := by omega
                  have hvn : v < out.length := by omega
                  have HU3 : Hid (unp M (rep out (v + 1) (k / 2 + 3)) (natsOf (s'.extract j s'.size)) = R) := Lib.hid (by rw [nats_ext, ← HU2.out]; exact (unp_match (by omega) hev hv hfar hlim).symm)
                  have hv4 : v < 4096 := by omega
                  have hs3 : (s'.extract j s'.size).size = s'.size - j := by rw [ByteArray.size_extract]; omega
                  generalize s'.extract j s'.size = s2 at *
                  have hj2 : s2.size + j = s'.size := by omega
                  have hoM : out.length + (k / 2 + 3) ≤ M := by omega
                  clear hv hvk hfar hs3 hlim
                  go_wp2_with fail
                  go_loop [6, 15] (fun ov qv => URel2 out v (k / 2 + 3) ov qv) (fun _ qv => k / 2 + 3 - (intOf qv).toNat)
                  case atStart => exact ⟨0, Nat.zero_le _, by rw [← HS.out]; rfl, rfl⟩
                  case round =>
                    obtain ⟨q, hq, rfl, rfl⟩ := hrel
                    by_cases hqn : q = k / 2 + 3
                    · have k12 : ¬ (q : Int) < (k : Int) / 2 + 3 := by omega
                      have hlt2 : w.heap.size < w2.heap.size := by omega
                      have c0 : w2.cell? ⟨w.heap.size, 0, none⟩ = some (.string s) := HB2.out.cell 0
                      have c1 : w2.cell? ⟨w.heap.size, 1, none⟩ = some (.int .i64 (i : Int)) := HB2.out.cell 1
                      have c2 : w2.cell? ⟨w.heap.size, 2, none⟩ = some (.int .i64 0) := HB2.out.cell 2
                      have f0 : w2.frozen? ⟨w.heap.size, 0, none⟩ = false := HB2.out.frozen 0
                      have f1 : w2.frozen? ⟨w.heap.size, 1, none⟩ = false := HB2.out.frozen 1
                      have f2 : w2.frozen? ⟨w.heap.size, 2, none⟩ = false := HB2.out.frozen 2
                      obtain ⟨o2, ho2⟩ : ∃ o2, o2 = rep out (v + 1) q := ⟨_, rfl⟩
                      have hol3 : o2.length ≤ M := by rw [ho2, rep_len]; omega
                      have hU4 : unp M o2 (natsOf s2) = R := by rw [ho2, hqn]; exact HU3.out
                      rw [← ho2]
                      have HU4 := Lib.hid hU4
                      have HOL3 := Lib.hid hol3
                      have HOS4 : Hid (∀ c ∈ o2, c < 256) := Lib.hid (by rw [ho2]; exact rep_small HOS.out _ _)
                      clear hU4 hol3 ho2
                      generalize hS4 : strOf o2 = S4 at *
                      have HS4 := Lib.hid hS4.symm
                      clear hS4
                      go_wp2_with fail
                      go_roundw
                      case rel => exact ⟨s2, i + 1 + j, _, by omega, congrArg Value.string HS4.out, by rw [show ((i + 1 + j : Nat) : Int) = (i : Int) + 1 + (j : Int) from by omega]; exact (blk_set3 HB2.out _ _ _).alloc _, HU4.out, HOL3.out, HOS4.out, ext_alloc (ext_set3 HE2.out (Nat.le_refl _) _ _ _) _⟩
                      case measure => rw [((blk_set3 HB2.out _ _ _).alloc _).cell 0]; show s2.size < s.size; omega
                    · have k12 : (q : Int) < (k : Int) / 2 + 3 := by omega
                      have hrl : (strOf (rep out (v + 1) q)).size = out.length + q := by rw [strOf_size, rep_len]
                      have HNX : Hid (strOf (rep out (v + 1) (q + 1)) = strOf (rep out (v + 1) q) ++ (strOf (rep out (v + 1) q)).extract (out.length + q - 1 - v) (out.length + q - v)) := Lib.hid (by
                        rw [rep, strOf_app, str_ext, nats_strOf (small_mem (rep_small HOS.out _ _)), rep_len]
                        rw [show out.length + q - v - (out.length + q - 1 - v) = 1 from by omega, show out.length + q - (v + 1) = out.length + q - 1 - v from by omega]
                        rw [List.drop_eq_getElem_cons (by rw [rep_len]; omega), List.take_succ_cons, List.take_zero, List.getD_eq_getElem?_getD, List.getElem?_eq_getElem (by rw [rep_len]; omega)]
                        rfl)
                      generalize strOf (rep out (v + 1) q) = S5 at *
                      have k13 : (0 : Int) ≤ (S5.size : Int) - 1 - (v : Int) := by omega
                      have k14 : (S5.size : Int) - 1 - (v : Int) ≤ (S5.size : Int) - (v : Int) := by omega
                      have k15 : (S5.size : Int) - (v : Int) ≤ (S5.size : Int) := by omega
                      have e1 : ((S5.size : Int) - 1 - (v : Int)).toNat = out.length + q - 1 - v := by omega
                      have e2 : ((S5.size : Int) - (v : Int)).toNat = out.length + q - v := by omega
                      have hxs : (S5.extract (out.length + q - 1 - v) (out.length + q - v)).size = 1 := by rw [ByteArray.size_extract]; omega
                      have hcat : ¬ (9223372036854775807 < S5.size + (S5.extract (out.length + q - 1 - v) (out.length + q - v)).size) := by omega
                      go_wp2_with fail
                      exact ⟨⟨q + 1, by omega, by rw [HNX.out], by go_num⟩, by simp only [intOf]; omega⟩
            · rw [if_neg hbigv] at hR
              obtain rfl := hR
              have HRR : Hid (R = .bad 4) := Lib.hid (by rw [← HU2.out]; exact unp_far (by omega) hev hv (.inl (by omega)))
              clear hv hvk
              go_wp2_with fail
              refine wp_still (by kernel_rfl) (by kernel_rfl) ?_
              repeat still_step
              refine wpStill_nil ?_
              go_wp2_with fail
              go_ret2
              exact ⟨ext_drew (ext_alloc HE2.out _), by rw [HRR.out]; rfl⟩
set_option maxHeartbeats 16000000 in
set_option maxRecDepth 100000 in
theorem refUnpack_neg (s0 : ByteArray) (most : Int) (w : World) (hs : s0.size ≤ 1000000) (hm1 : -9223372036854775808 ≤ most) (hm2 : most < 0) :
    Calls Tryd.prog 26 #[.string s0, .int .i64 most] w (RUPost w (unp 0 [] (natsOf s0))) := by
  obtain ⟨R, hR⟩ : ∃ R, R = unp 0 [] (natsOf s0) := ⟨_, rfl⟩
  rw [← hR]
  have HR := Lib.hid hR; clear hR
  go_enter Tryd.func26, Tryd.ntmps26
  go_wp2_with fail
  go_loopw [6] (fun ov wr => RURel w w.heap.size 0 R ov wr) (fun _ wr => match wr.cell? ⟨w.heap.size, 0, none⟩ with | some (.string s) => s.size | _ => 0)
  case atStart => exact ⟨s0, 0, [], by omega, rfl, Blk.new _ _ _, by rw [HR.out], Nat.zero_le _, (fun c hc => by cases hc), ext_alloc (Ext.rfl' w) _⟩
  case round =>
    obtain ⟨s, i, out, hsi, rfl, hB, hU, hol, hos, hE⟩ := hrel
    have HOS := Lib.hid hos; clear hos
    have c0 := hB.cell 0
    have c1 := hB.cell 1
    have c2 := hB.cell 2
    have f0 := hB.frozen 0
    have f1 := hB.frozen 1
    have f2 := hB.frozen 2
    have hlt := hB.lt
    simp only [List.getElem?_toArray, List.getElem?_cons_zero, List.getElem?_cons_succ] at c0 c1 c2
    rw [c0]
    simp only
    have HB := Lib.hid hB; have HU := Lib.hid hU; have HE := Lib.hid hE
    clear hB hU hE
    by_cases hsz : s.size = 0
    · have k0 : ¬ (0 : Int) < (s.size : Int) := by omega
      have HRR : Hid (R = .ok out) := Lib.hid (by
        have e : natsOf s = [] := List.eq_nil_of_length_eq_zero (by rw [natsOf_len, hsz])
        rw [← HU.out, e, unp_nil])
      clear hsz
      generalize hS : strOf out = S at *
      have HS := Lib.hid hS; clear hS
      go_wp2_with fail
      go_ret2
      exact ⟨HE.out, by rw [HRR.out, ← HS.out]; rfl⟩
    · have k0 : (0 : Int) < (s.size : Int) := by omega
      go_wp2_with fail
      refine (bytes_ok s i 1 _ (by omega) (by omega) (by omega)).mono ?_
      rintro e w1 ⟨rfl, b1⟩
      have hx1 : (s.extract 0 1).size = 1 := by rw [ByteArray.size_extract]; omega
      have hkk : ((s.extract 0 1)[0]'(by omega)).toNat = (natsOf s).getD 0 0 := by
        rw [natsOf_get s 0 (by omega)]; exact congrArg UInt8.toNat (by simp [ByteArray.getElem_extract])
      have hxd : natsOf s = (natsOf s).getD 0 0 :: natsOf (s.extract 1 s.size) := by
        rw [nats_ext, ← List.drop_zero (l := natsOf s), List.drop_eq_getElem_cons (by rw [natsOf_len]; omega)]
        simp [List.getD_eq_getElem?_getD]
      have hs1 : (s.extract 1 s.size).size = s.size - 1 := by rw [ByteArray.size_extract]; omega
      have hkb : (natsOf s).getD 0 0 < 256 := natsOf_small s 0
      generalize (natsOf s).getD 0 0 = k at *
      generalize s.extract 1 s.size = s' at *
      have hU2 := HU.out
      rw [hxd] at hU2
      have HU2 := Lib.hid hU2
      have HXD := Lib.hid hxd
      have hz1 := b1.size
      have HB1 := Lib.hid (HB.out.ext b1)
      have HE1 := Lib.hid (ext_trans HE.out b1)
      obtain ⟨hcc, hff⟩ := ecell b1
      have c0 : w1.cell? ⟨w.heap.size, 0, none⟩ = some (.string s) := (hcc _ _ hlt).trans c0
      have c1 : w1.cell? ⟨w.heap.size, 1, none⟩ = some (.int .i64 (i : Int)) := (hcc _ _ hlt).trans c1
      have c2 : w1.cell? ⟨w.heap.size, 2, none⟩ = some (.int .i64 0) := (hcc _ _ hlt).trans c2
      have f0 : w1.frozen? ⟨w.heap.size, 0, none⟩ = false := (hff _ _ hlt).trans f0
      have f1 : w1.frozen? ⟨w.heap.size, 1, none⟩ = false := (hff _ _ hlt).trans f1
      have f2 : w1.frozen? ⟨w.heap.size, 2, none⟩ = false := (hff _ _ hlt).trans f2
      have hlt : w.heap.size < w1.heap.size := by omega
      clear hxd hU2 hcc hff hz1 b1
      have hSz : (strOf out).size = out.length := strOf_size out
      generalize hS : strOf out = S at *
      have HS := Lib.hid hS; clear hS
      by_cases hk : 128 ≤ k
      · have hk1 : ¬ (k : Int) ≤ 127 := by omega
        have hk2 : (127 : Int) < (k : Int) := by omega
        have HRR : Hid (R = .bad 4) := Lib.hid (by rw [← HU2.out, unp_high hk])
        go_wp2_with fail
        go_ret2
        exact ⟨ext_alloc HE1.out _, by rw [HRR.out]; rfl⟩
      · have hk1 : (k : Int) ≤ 127 := by omega
        have hk2 : ¬ (127 : Int) < (k : Int) := by omega
        by_cases hev : k % 2 = 0
        · have hk2 : (((k : Int) % 2) == 0) = true := beq_iff_eq.2 (by omega)
          by_cases hbig : 0 < out.length + (k / 2 + 1)
          · have k6 : (0 : Int) < (S.size : Int) + (k : Int) / 2 + 1 := by omega
            have HRR : Hid (R = .bad 6) := Lib.hid (by rw [← HU2.out]; exact unp_run6 (by omega) hev hbig)
            go_wp2_with fail
            go_ret2
            exact ⟨ext_alloc HE1.out _, by rw [HRR.out]; rfl⟩
          · omega
        · have hk2 : (((k : Int) % 2) == 0) = false := beq_eq_false_iff_ne.2 (by omega)
          go_wp2_with fail
          have hrn := rnum s' (i + 1) 2147483647 (w1.alloc (.cells #[.string s', .int .i64 ((i : Int) + 1), .int .i64 0] 55)) (by omega) (by omega)
          refine hrn.mono ?_
          clear hrn
          rintro e w2 ⟨b2, hR⟩
          have hz2 := b2.size
          simp at hz2
          have HE2 := Lib.hid (ext_trans (ext_alloc HE1.out _) b2)
          have HB2 := Lib.hid ((HB1.out.alloc _).ext b2)
          have HVK := Lib.hid (fun v j (h : vr 0 0 (natsOf s') = .ok v j) => vr_ok (mem_small (natsOf_small s')) h)
          have HL' := Lib.hid (natsOf_len s')
          cases hv : vr 0 0 (natsOf s') with
          | short =>
            rw [hv] at hR
            obtain rfl := hR
            have HRR : Hid (R = .bad 3) := Lib.hid (by rw [← HU2.out]; exact unp_short (by omega) hev hv)
            clear hv
            go_wp2_with fail
            refine wp_still (by kernel_rfl) (by kernel_rfl) ?_
            repeat still_step
            refine wpStill_nil ?_
            go_wp2_with fail
            go_ret2
            exact ⟨ext_drew (ext_alloc HE2.out _), by rw [HRR.out]; rfl⟩
          | form =>
            rw [hv] at hR
            obtain rfl := hR
            have HRR : Hid (R = .bad 4) := Lib.hid (by rw [← HU2.out]; exact unp_form (by omega) hev hv)
            clear hv
            go_wp2_with fail
            refine wp_still (by kernel_rfl) (by kernel_rfl) ?_
            repeat still_step
            refine wpStill_nil ?_
            go_wp2_with fail
            go_ret2
            exact ⟨ext_drew (ext_alloc HE2.out _), by rw [HRR.out]; rfl⟩
          | ok v j =>
            rw [hv] at hR
            simp only at hR
            have hvk := HVK.out v j hv
            have hj1 := hvk.2.2.2
            rw [HL'.out] at hj1
            by_cases hbigv : v ≤ 2147483647
            · rw [if_pos hbigv] at hR
              obtain rfl := hR
              by_cases hfar : 4096 ≤ v ∨ out.length ≤ v
              · have HRR : Hid (R = .bad 4) := Lib.hid (by rw [← HU2.out]; exact unp_far (by omega) hev hv hfar)
                clear hv hvk
                by_cases hf4 : 4096 ≤ v
                · have k9 : (4095 : Int) < (v : Int) := by omega
                  go_wp2_with fail
                  go_ret2
                  exact ⟨ext_alloc HE2.out _, by rw [HRR.out]; rfl⟩
                · have k9 : ¬ (4095 : Int) < (v : Int) := by omega
                  have k10 : (S.size : Int) ≤ (v : Int) := by omega
                  go_wp2_with fail
                  go_ret2
                  exact ⟨ext_alloc HE2.out _, by rw [HRR.out]; rfl⟩
              · omega
            · rw [if_neg hbigv] at hR
              obtain rfl := hR
              have HRR : Hid (R = .bad 4) := Lib.hid (by rw [← HU2.out]; exact unp_far (by omega) hev hv (.inl (by omega)))
              clear hv hvk
              go_wp2_with fail
              refine wp_still (by kernel_rfl) (by kernel_rfl) ?_
              repeat still_step
              refine wpStill_nil ?_
              go_wp2_with fail
              go_ret2
              exact ⟨ext_drew (ext_alloc HE2.out _), by rw [HRR.out]; rfl⟩
end Go.Proofs.YtckjmabacibojaaDoor.Lz
