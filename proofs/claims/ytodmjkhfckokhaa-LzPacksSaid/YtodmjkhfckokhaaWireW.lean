/- The known bytes of wire. -/
import Derived.Test.YtodmjkhfckokhaaWireO
import Derived.Test.YtodmjkhfckokhaaWireF
import Derived.Test.YtodmjkhfckokhaaWireT
import Derived.Lib.SlBytesConst
namespace Go.Proofs.Ytodmjkhfckokhaa.Wire
open Go.ChangeShapes Go.WideShapes Go.ChangeAt Go.RowKit
set_option linter.unusedVariables false

theorem bs_new (w : World) (t : TypeId) (fr : Nat × Nat) (xs : List Nat) (hb : ∀ j, xs.getD j 0 < 256) : Bs (w.alloc (.cells ((xs.map fun x => Value.int .u8 (x : Nat)).toArray) t fr)) (some ⟨w.heap.size, 0, none⟩) xs.length xs :=
  ⟨rfl, hb, fun _ => ⟨w.heap.size, 0, rfl, by simp, fun j hj => by
    rw [Nat.zero_add, World.cell?_alloc_mark]
    simp [List.getD_eq_getElem?_getD, List.getElem?_eq_getElem hj]⟩⟩
theorem small_of {xs : List Nat} (h : xs.all (fun x => decide (x < 256)) = true) (j : Nat) : xs.getD j 0 < 256 :=
  small_mem (fun c hc => by simpa using List.all_eq_true.1 h c hc) j
theorem vb300 : vb 300 = [172, 2] := by rw [vb_more (by omega), vb_small (by omega)]
theorem vb3 : vb (zz (-2)) = [3] := by rw [show zz (-2) = 3 from by decide, vb_small (by omega)]
theorem vb2 : vb 2 = [2] := vb_small (by omega)
theorem nats_hi : natsOf ⟨#[104, 105]⟩ = [104, 105] := by decide
theorem tr_known : tr [2, 104, 105] 5 = .ok [104, 105] 3 := by rfl
theorem vr_bad : vr 0 0 [128, 0] = .form := by rfl
theorem Rdr.other {w w' : World} {g g' : Nat} {s : Value} {i : Nat} {e : Int} (h : Rdr w g s i e) (hg : w.grownBy w' (some g')) (hne : g ≠ g') : Rdr w' g s i e :=
  (hg.block g (Blk.lt h) (by simpa using hne)).trans h
theorem RB.other {w w' : World} {g g' : Nat} {A : Option Addr} {n c : Nat} {xs : List Nat} (h : RB w g A n c xs) (hg : w.grownBy w' (some g')) (hne : ∀ a, A = some a → a.block ≠ g') : RB w' g A n c xs :=
  ⟨h.1.kept hg (fun a ha => by have := hne a ha; simpa using this), h.2⟩
theorem put_a (w : World) : Calls Try.prog 12 #[.slice (some ⟨w.heap.size, 0, none⟩) 1 1, .int .u64 300] (w.alloc (.cells #[.int .u8 97] 5 (1, 2))) (Puts (w.alloc (.cells #[.int .u8 97] 5 (1, 2))) [97, 172, 2]) := by
  have h := put (some ⟨w.heap.size, 0, none⟩) 1 1 [97] 300 (by omega) _ (bs_new w 5 (1, 2) [97] (small_of (by decide))) (fun h => by cases h) (by omega) (by omega) (by omega)
  rw [vb300] at h
  exact h
theorem put_b (w : World) : Calls Try.prog 13 #[.slice none 0 0, .int .i64 (-2)] w (Puts w [3]) := by
  have h := putSigned none 0 0 [] (-2) (by omega) (by omega) w (Bs.none _ _) (fun _ => ⟨rfl, rfl⟩) (by omega) (by omega) (by omega)
  rw [vb3] at h
  exact h
theorem put_c (w : World) : Calls Try.prog 14 #[.slice none 0 0, .int .u32 16909060] w (Puts w [1, 2, 3, 4]) :=
  putFixed none 0 0 [] 16909060 (by omega) w (Bs.none _ _) (fun _ => ⟨rfl, rfl⟩) (by omega) (by omega) (by omega)
theorem put_d (g c : Nat) (w : World) (h4 : 4 ≤ c) (hc : c ≤ 9223372036854775807) (hB : Bs w (some ⟨g, 0, none⟩) 4 [1, 2, 3, 4]) : Calls Try.prog 15 #[.slice (some ⟨g, 0, none⟩) 4 c, .string ⟨#[104, 105]⟩] w (Puts w [1, 2, 3, 4, 2, 104, 105]) := by
  have h := putText (some ⟨g, 0, none⟩) 4 c [1, 2, 3, 4] ⟨#[104, 105]⟩ w hB (fun h => by cases h) h4 hc (by omega) (by decide)
  rw [show (ByteArray.mk #[104, 105]).size = 2 from rfl, vb2, nats_hi] at h
  exact h
theorem len7 : ([1, 2, 3, 4, 2, 104, 105] : List Nat).length = 7 := rfl
set_option maxHeartbeats 4000000 in
set_option maxRecDepth 100000 in
theorem wakes (w : World) : Calls Try.prog 11 #[] w fun e w' => e = .returned (.bool true) ∧ Ext w w' := by
  have kcv := fun (w : World) (C : Array Value) (n c : Nat) => Lib.run_convert_bytes_const (P := Try.prog) w 22 5 C n c Try.underlying22 Try.underlying5
  go_enter Try.func11, Try.ntmps11
  go_wp2_with fail
  refine (put_a w).mono ?_
  rintro e w1 ⟨g1, k1, rfl, ha1, hb1, hg1, hO1, hE1⟩
  have B1 := Lib.hid (Own.bs hO1 (small_of (by decide)))
  have L1 : g1 < w1.heap.size := (World.ownsRow.lt hO1 g1 rfl).2
  have E1 := Lib.hid (ext_trans (ext_alloc (Ext.rfl' w) _) hE1)
  clear hO1 hE1 hg1 ha1 hb1
  go_wp2_with fail
  refine (put_b w1).mono ?_
  rintro e w2 ⟨g2, k2, rfl, ha1, hb1, hg2, hO1, hE1⟩
  have B2 := Lib.hid (Own.bs hO1 (small_of (by decide)))
  have L2 : g2 < w2.heap.size := (World.ownsRow.lt hO1 g2 rfl).2
  have E2 := Lib.hid hE1
  have Z2 := hE1.size
  clear hO1 hE1 hg2 ha1 hb1
  go_wp2_with fail
  refine (put_c w2).mono ?_
  rintro e w3 ⟨g3, k3, rfl, ha3, hb3, hg3, hO1, hE1⟩
  have B3 := Lib.hid (Own.bs hO1 (small_of (by decide)))
  have E3 := Lib.hid hE1
  have Z3 := hE1.size
  clear hO1 hE1 hg3
  unfold maxLen at hb3
  go_wp2_with fail
  refine (put_d g3 k3 w3 ha3 (by omega) B3.out).mono ?_
  rintro e w4 ⟨g4, k4, rfl, ha4, hb4, hg4, hO1, hE1⟩
  have B4 := Lib.hid (Own.bs hO1 (small_of (by decide)))
  have E4 := Lib.hid hE1
  have Z4 := hE1.size
  clear hO1 hE1 hg4
  go_wp2_with fail
  refine (of (some ⟨g4, 0, none⟩) 7 k4 _ w4 B4.out (fun h => by cases h) (by omega)).mono ?_
  rintro e w5 ⟨g, A, c, rfl, hg5, hR5, hB5, hE5⟩
  have R5 := Lib.hid hR5; have RB5 := Lib.hid hB5; have E5 := Lib.hid hE5
  have Z5 := hE5.size
  clear hR5 hB5 hE5
  go_wp2_with fail
  refine (fixed g 7 c 0 A _ w5 R5.out RB5.out (by omega) (by omega)).mono ?_
  rintro e w6 (⟨_, rfl, hF6⟩ | ⟨h6, _⟩)
  case inr => exact absurd h6 (by decide)
  have hv6 : (Value.int .u32 ((be ((([1, 2, 3, 4, 2, 104, 105] : List Nat).drop 0).take 4) : Nat) : Int)) = .int .u32 16909060 := by kernel_rfl
  rw [hv6]
  have F6 := Lib.hid hF6; have RB6 := Lib.hid (RB5.out.eff hF6.2); have Z6 := hF6.2.size
  clear hF6 hv6
  go_wp2_with fail
  refine (text g 7 c 4 5 (by omega) (by omega) A _ w6 F6.out.1 RB6.out (by omega) (by omega)).mono ?_
  rw [show ([1, 2, 3, 4, 2, 104, 105] : List Nat).drop 4 = [2, 104, 105] from rfl, tr_known]
  rintro e w7 ⟨rfl, hF7⟩
  rw [show strOf [104, 105] = ⟨#[104, 105]⟩ from rfl]
  have F7 := Lib.hid hF7; have RB7 := Lib.hid (RB6.out.eff hF7.2); have Z7 := hF7.2.size
  clear hF7
  go_wp2_with fail
  have hAE := ext_alloc (Ext.rfl' w7) (.cells #[.int .u8 128, .int .u8 0] 5)
  have HAE := Lib.hid hAE; clear hAE
  refine (of (some ⟨w7.heap.size, 0, none⟩) 2 2 [128, 0] (w7.alloc (.cells #[.int .u8 128, .int .u8 0] 5)) (bs_new w7 5 (0, 0) [128, 0] (small_of (by decide))) (fun h => by cases h) (by omega)).mono ?_
  rintro e w8 ⟨gb, Ab, cb, rfl, hgb, hR8, hB8, hE8⟩
  have hgb2 : w7.heap.size < gb := by rw [World.size_alloc] at hgb; omega
  clear hgb
  have R8 := Lib.hid hR8; have RB8 := Lib.hid hB8; have E8 := Lib.hid (ext_trans HAE.out hE8)
  clear hR8 hB8 hE8
  go_wp2_with fail
  refine (num gb 2 cb 0 Ab _ w8 R8.out RB8.out.1 (by omega) (by omega)).mono ?_
  rw [show ([128, 0] : List Nat).drop 0 = [128, 0] from rfl, vr_bad]
  rintro e w9 ⟨z, j, err, rfl, hz, hE9, rfl, rfl, rfl⟩
  clear hz
  rw [show (((0 : Nat)) : Int) = 0 from rfl]
  have F9 := Lib.hid hE9; clear hE9
  have n1 : g1 ≠ g := by omega
  have n2 : g2 ≠ g := by omega
  have n3 : g1 ≠ gb := by omega
  have n4 : g2 ≠ gb := by omega
  have n5 : g ≠ gb := by have := Blk.lt F7.out.1; omega
  have C1 := Lib.hid (F9.out.bs ((F7.out.bs (F6.out.bs (B1.out.ext (ext_trans (ext_trans E2.out E3.out) (ext_trans E4.out E5.out))) (fun a ha => by obtain rfl := Option.some.inj ha; exact n1)) (fun a ha => by obtain rfl := Option.some.inj ha; exact n1)).ext E8.out) (fun a ha => by obtain rfl := Option.some.inj ha; exact n3))
  have C2 := Lib.hid (F9.out.bs ((F7.out.bs (F6.out.bs (B2.out.ext (ext_trans E3.out (ext_trans E4.out E5.out))) (fun a ha => by obtain rfl := Option.some.inj ha; exact n2)) (fun a ha => by obtain rfl := Option.some.inj ha; exact n2)).ext E8.out) (fun a ha => by obtain rfl := Option.some.inj ha; exact n4))
  have R9 := Lib.hid ((F7.out.1.ext E8.out).other F9.out.2 n5)
  have hcv1 : (convert 22 9 (.slice (some ⟨g1, 0, none⟩) 3 k1)).run Try.prog w9 = .ok (.string ⟨#[97, 172, 2]⟩) w9 := C1.out.conv (P := Try.prog) 22 5 9 Try.underlying22 Try.underlying5 Try.underlying9 k1
  have hcv2 : (convert 22 9 (.slice (some ⟨g2, 0, none⟩) 1 k2)).run Try.prog w9 = .ok (.string ⟨#[3]⟩) w9 := C2.out.conv (P := Try.prog) 22 5 9 Try.underlying22 Try.underlying5 Try.underlying9 k2
  have HEE : Hid (Ext w w9) := Lib.hid (by
    have e5 : Ext w w5 := ext_trans E1.out (ext_trans (ext_trans E2.out E3.out) (ext_trans E4.out E5.out))
    have z5 := e5.size
    have e6 : Ext w w6 := ext_grown e5 F6.out.2 (fun k hk => by obtain rfl := Option.some.inj hk; have := (E1.out).size; omega)
    have e7 : Ext w w7 := ext_grown e6 F7.out.2 (fun k hk => by obtain rfl := Option.some.inj hk; have := (E1.out).size; omega)
    exact ext_grown (ext_trans e7 E8.out) F9.out.2 (fun k hk => by obtain rfl := Option.some.inj hk; have := e7.size; omega))
  go_wp2_with fail
  refine (end_ok g 7 c A 7 w9 R9.out (by omega) (by omega)).mono ?_
  rintro e w10 ⟨rfl, hE10⟩
  rw [if_pos rfl]
  have E10 := Lib.hid hE10; clear hE10
  go_wp2_with fail
  refine (err_any gb _ 0 4 w10 (F9.out.1.ext E10.out)).mono ?_
  rintro e w11 ⟨rfl, rfl⟩
  go_wp2_with fail
  refine (left_any gb 2 cb Ab 0 4 w10 (F9.out.1.ext E10.out) (by omega) (by omega)).mono ?_
  rintro e w11 ⟨rfl, hE11⟩
  rw [show (((2 - 0 : Nat)) : Int) = 2 from rfl]
  have E11 := Lib.hid hE11; clear hE11
  go_wp2_with fail
  go_ret
  exact ⟨rfl, ext_trans (ext_trans HEE.out E10.out) E11.out⟩
end Go.Proofs.Ytodmjkhfckokhaa.Wire
