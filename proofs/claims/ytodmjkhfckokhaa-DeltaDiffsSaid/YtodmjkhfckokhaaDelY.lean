/- The known difference. -/
import Derived.Test.YtodmjkhfckokhaaDelX
import Derived.Test.YtodmjkhfckokhaaWireW
namespace Go.Proofs.Ytodmjkhfckokhaa.Delta
open Go.ChangeShapes Go.WideShapes Go.ChangeAt Go.RowKit
open Go.Proofs.Ytodmjkhfckokhaa.Wire
set_option linter.unusedVariables false

theorem diff_k1 : diff [97, 98, 99] [97, 98, 100] = [3, 2, 1, 7] := by
  have e : mix [97, 98, 99] [97, 98, 100] = [0, 0, 7] := by decide
  have z : zr [0, 0, 7] = 2 := by decide
  have l : lit [7] = 1 := by decide
  have h1 := enc_more (l := [0, 0, 7]) (by rw [z]; decide)
  rw [z] at h1
  have d2 : ([0, 0, 7] : List Nat).drop 2 = [7] := rfl
  rw [d2, l] at h1
  have d3 : ([0, 0, 7] : List Nat).drop (2 + 1) = [] := rfl
  rw [d3, enc_stop (l := []) (by decide), vb_small (n := 2) (by omega), vb_small (n := 1) (by omega)] at h1
  unfold diff
  rw [e, h1, vb_small (by decide)]
  rfl
theorem diff_k2 : diff [97, 98, 99, 100, 101, 102, 103, 104] [97, 98, 99] = [3] := by
  have e : mix [97, 98, 99, 100, 101, 102, 103, 104] [97, 98, 99] = [0, 0, 0] := by decide
  unfold diff
  rw [e, enc_stop (by decide), vb_small (by decide)]
  rfl
theorem app_k1 : applied [97, 98, 99] [3, 2, 1, 7] 3 = .ok [97, 98, 100] := by
  have h := applied_diff [97, 98, 99] [97, 98, 100] (by decide) (by decide) (by decide)
  rw [diff_k1] at h
  exact h
theorem app_k2 : applied [97, 98, 99] [3, 2, 1, 7] 2 = .bad 6 := by
  unfold applied
  have : vr 0 0 [3, 2, 1, 7] = .ok 3 1 := rfl
  rw [this]
  rfl
def B3 (a b c : Nat) : Obj := .cells #[.int .u8 (a : Int), .int .u8 (b : Int), .int .u8 (c : Int)] 5
theorem diff_a (w : World) : Calls Try.prog 31 #[.slice (some ⟨w.heap.size, 0, none⟩) 3 3, .slice (some ⟨w.heap.size + 1, 0, none⟩) 3 3] ((w.alloc (.cells #[.int .u8 97, .int .u8 98, .int .u8 99] 5 (3, 4))).alloc (.cells #[.int .u8 97, .int .u8 98, .int .u8 100] 5 (3, 4)))
    (Puts ((w.alloc (.cells #[.int .u8 97, .int .u8 98, .int .u8 99] 5 (3, 4))).alloc (.cells #[.int .u8 97, .int .u8 98, .int .u8 100] 5 (3, 4))) [3, 2, 1, 7]) := by
  have h1 := bs_new w 5 (3, 4) [97, 98, 99] (small_of (by decide))
  have h2 := bs_new (w.alloc (.cells #[.int .u8 97, .int .u8 98, .int .u8 99] 5 (3, 4))) 5 (3, 4) [97, 98, 100] (small_of (by decide))
  rw [World.size_alloc] at h2
  have h := ddiff _ _ 3 3 3 3 _ _ _ (h1.ext (ext_alloc (Ext.rfl' _) _)) h2 (by omega) (by omega)
  rw [diff_k1] at h
  exact h
theorem diff_b (w : World) : Calls Try.prog 31 #[.slice (some ⟨w.heap.size, 0, none⟩) 8 8, .slice (some ⟨w.heap.size + 1, 0, none⟩) 3 3] ((w.alloc (.cells #[.int .u8 97, .int .u8 98, .int .u8 99, .int .u8 100, .int .u8 101, .int .u8 102, .int .u8 103, .int .u8 104] 5 (8, 9))).alloc (.cells #[.int .u8 97, .int .u8 98, .int .u8 99] 5 (3, 4)))
    (Puts ((w.alloc (.cells #[.int .u8 97, .int .u8 98, .int .u8 99, .int .u8 100, .int .u8 101, .int .u8 102, .int .u8 103, .int .u8 104] 5 (8, 9))).alloc (.cells #[.int .u8 97, .int .u8 98, .int .u8 99] 5 (3, 4))) [3]) := by
  have h1 := bs_new w 5 (8, 9) [97, 98, 99, 100, 101, 102, 103, 104] (small_of (by decide))
  have h2 := bs_new (w.alloc (.cells #[.int .u8 97, .int .u8 98, .int .u8 99, .int .u8 100, .int .u8 101, .int .u8 102, .int .u8 103, .int .u8 104] 5 (8, 9))) 5 (3, 4) [97, 98, 99] (small_of (by decide))
  rw [World.size_alloc] at h2
  have h := ddiff _ _ 8 8 3 3 _ _ _ (h1.ext (ext_alloc (Ext.rfl' _) _)) h2 (by omega) (by omega)
  rw [diff_k2] at h
  exact h
theorem app_a (B : Option Addr) (cd : Nat) (w : World) (hB : Bs w B 4 [3, 2, 1, 7]) : Calls Try.prog 33 #[.slice (some ⟨w.heap.size, 0, none⟩) 3 3, .slice B 4 cd, .int .i64 3] (w.alloc (.cells #[.int .u8 97, .int .u8 98, .int .u8 99] 5 (3, 4))) (APost (w.alloc (.cells #[.int .u8 97, .int .u8 98, .int .u8 99] 5 (3, 4))) (.ok [97, 98, 100])) := by
  have h1 := bs_new w 5 (3, 4) [97, 98, 99] (small_of (by decide))
  have hn : B = none → 4 = 0 ∧ cd = 0 := fun e => by obtain ⟨b, o, he, _⟩ := hB.2.2 (by omega); rw [e] at he; cases he
  have h := apply _ _ 3 3 4 cd _ _ 3 _ h1 (hB.ext (ext_alloc (Ext.rfl' _) _)) hn (by omega) (by omega) (by omega) (by omega)
  rw [app_k1] at h
  exact h
theorem app_b (B : Option Addr) (cd : Nat) (w : World) (hB : Bs w B 4 [3, 2, 1, 7]) : Calls Try.prog 33 #[.slice (some ⟨w.heap.size, 0, none⟩) 3 3, .slice B 4 cd, .int .i64 2] (w.alloc (.cells #[.int .u8 97, .int .u8 98, .int .u8 99] 5 (3, 4))) (APost (w.alloc (.cells #[.int .u8 97, .int .u8 98, .int .u8 99] 5 (3, 4))) (.bad 6)) := by
  have h1 := bs_new w 5 (3, 4) [97, 98, 99] (small_of (by decide))
  have hn : B = none → 4 = 0 ∧ cd = 0 := fun e => by obtain ⟨b, o, he, _⟩ := hB.2.2 (by omega); rw [e] at he; cases he
  have h := apply _ _ 3 3 4 cd _ _ 2 _ h1 (hB.ext (ext_alloc (Ext.rfl' _) _)) hn (by omega) (by omega) (by omega) (by omega)
  rw [app_k2] at h
  exact h
theorem conv8 {w : World} {A : Option Addr} {n : Nat} {xs : List Nat} (h : Bs w A n xs) (c : Nat) : (convert 22 9 (.slice A n c)).run Try.prog w = .ok (.string (strOf xs)) w :=
  h.conv (P := Try.prog) 22 5 9 Try.underlying22 Try.underlying5 Try.underlying9 c
set_option maxHeartbeats 4000000 in
set_option maxRecDepth 100000 in
theorem wakes (w : World) : Calls Try.prog 30 #[] w fun e w' => e = .returned (.bool true) ∧ Ext w w' := by
  have kcv := fun (w : World) (C : Array Value) (n c : Nat) => Lib.run_convert_bytes_const (P := Try.prog) w 22 5 C n c Try.underlying22 Try.underlying5
  have kcv2 := fun (w : World) (o : Obj) (C : Array Value) (n c : Nat) => by
    have h := Lib.run_convert_bytes_const (P := Try.prog) (w.alloc o) 22 5 C n c Try.underlying22 Try.underlying5
    rw [World.size_alloc] at h
    exact h
  go_enter Try.func30, Try.ntmps30
  go_wp2_with fail
  refine (diff_a w).mono ?_
  rintro e w1 ⟨g1, k1, rfl, _, _, hg1, hO1, hE1⟩
  have B1 := Lib.hid (Own.bs hO1 (small_of (by decide)))
  have E1 := Lib.hid (ext_trans (ext_alloc (ext_alloc (Ext.rfl' w) _) _) hE1)
  clear hO1 hE1
  go_wp2_with fail
  refine (app_a _ _ w1 B1.out).mono ?_
  rintro e w2 ⟨hE2, g2, rfl, hO2⟩
  have B2 := Lib.hid (Own.bs hO2 (small_of (by decide)))
  have B12 := Lib.hid (B1.out.ext (ext_trans (ext_alloc (Ext.rfl' _) _) hE2))
  have E2 := Lib.hid (ext_trans E1.out (ext_trans (ext_alloc (Ext.rfl' _) _) hE2))
  clear hO2 hE2
  go_wp2_with fail
  refine (app_b _ _ w2 B12.out).mono ?_
  rintro e w3 ⟨hE3, rfl, _⟩
  have X3 := ext_trans (ext_alloc (Ext.rfl' _) _) hE3
  have c1 := conv8 (n := 4) (B12.out.ext X3) k1
  have c2 := conv8 (n := 3) (B2.out.ext X3) 3
  have e1 : strOf [3, 2, 1, 7] = ⟨#[3, 2, 1, 7]⟩ := by decide
  have e2 : strOf [97, 98, 100] = ⟨#[97, 98, 100]⟩ := by decide
  rw [e1] at c1
  rw [e2] at c2
  have E3 := Lib.hid (ext_trans E2.out X3)
  clear X3 hE3 e1 e2
  go_wp2_with fail
  refine (diff_b w3).mono ?_
  rintro e w4 ⟨g4, k4, rfl, _, _, hg4, hO4, hE4⟩
  have c4 := conv8 (n := 1) (Own.bs hO4 (small_of (by decide))) k4
  have e4 : strOf [3] = ⟨#[3]⟩ := by decide
  rw [e4] at c4
  have E4 := Lib.hid (ext_trans E3.out (ext_trans (ext_alloc (ext_alloc (Ext.rfl' w3) _) _) hE4))
  clear hO4 hE4 e4
  go_wp2_with fail
  go_ret
  exact ⟨rfl, E4.out⟩
end Go.Proofs.Ytodmjkhfckokhaa.Delta
