/- The document's rows of rules, and the walk of the law where there is no kind. -/
import Derived.Test.YtdbjknljdplinaaDoorRulC
namespace Go.Proofs.YtdbjknljdplinaaDoor.Rul
open Go.ChangeShapes Go.WideShapes Go.ChangeAt Go.RowKit
set_option linter.unusedVariables false

theorem row_none (n : Nat) (hn : n < 256) (h : isN n = false) (w : World) : Calls Tryd.prog 6 #[.int .i64 (n : Int)] w fun e w' => e = .returned (.slice none 0 0) ∧ w = w' := by
  have hh := isN_no h
  have h1 : ((n : Int) == 1) = false := beq_eq_false_iff_ne.2 (by omega)
  have h2 : ((n : Int) == 2) = false := beq_eq_false_iff_ne.2 (by omega)
  have h3 : ((n : Int) == 3) = false := beq_eq_false_iff_ne.2 (by omega)
  have h4 : ((n : Int) == 4) = false := beq_eq_false_iff_ne.2 (by omega)
  have h5 : ((n : Int) == 5) = false := beq_eq_false_iff_ne.2 (by omega)
  clear h hh
  go_enter Tryd.func6, Tryd.ntmps6
  go_wp2
  go_ret
  exact ⟨rfl, rfl⟩
theorem row_1 (w : World) : Calls Tryd.prog 6 #[.int .i64 1] w fun e w' => e = .returned (.slice (some ⟨w.heap.size, 0, none⟩) 11 11) ∧ w.alloc (.cells #[.int .i64 60, .int .i64 0, .int .i64 0, .int .i64 0, .int .i64 0, .int .i64 100, .int .i64 30, .int .i64 5, .int .i64 0, .int .i64 0, .int .i64 0] 3) = w' := by
  go_enter Tryd.func6, Tryd.ntmps6
  go_wp2
  go_ret
  exact ⟨rfl, rfl⟩
theorem row_2 (w : World) : Calls Tryd.prog 6 #[.int .i64 2] w fun e w' => e = .returned (.slice (some ⟨w.heap.size, 0, none⟩) 11 11) ∧ w.alloc (.cells #[.int .i64 10, .int .i64 3, .int .i64 1, .int .i64 1, .int .i64 4, .int .i64 10, .int .i64 6, .int .i64 3, .int .i64 0, .int .i64 1, .int .i64 0] 3) = w' := by
  go_enter Tryd.func6, Tryd.ntmps6
  go_wp2
  go_ret
  exact ⟨rfl, rfl⟩
theorem row_3 (w : World) : Calls Tryd.prog 6 #[.int .i64 3] w fun e w' => e = .returned (.slice (some ⟨w.heap.size, 0, none⟩) 11 11) ∧ w.alloc (.cells #[.int .i64 20, .int .i64 2, .int .i64 1, .int .i64 4, .int .i64 4, .int .i64 20, .int .i64 8, .int .i64 4, .int .i64 0, .int .i64 5, .int .i64 0] 3) = w' := by
  go_enter Tryd.func6, Tryd.ntmps6
  go_wp2
  go_ret
  exact ⟨rfl, rfl⟩
theorem row_4 (w : World) : Calls Tryd.prog 6 #[.int .i64 4] w fun e w' => e = .returned (.slice (some ⟨w.heap.size, 0, none⟩) 11 11) ∧ w.alloc (.cells #[.int .i64 12, .int .i64 2, .int .i64 4, .int .i64 3, .int .i64 6, .int .i64 25, .int .i64 10, .int .i64 5, .int .i64 1, .int .i64 5, .int .i64 1] 3) = w' := by
  go_enter Tryd.func6, Tryd.ntmps6
  go_wp2
  go_ret
  exact ⟨rfl, rfl⟩
theorem row_5 (w : World) : Calls Tryd.prog 6 #[.int .i64 5] w fun e w' => e = .returned (.slice (some ⟨w.heap.size, 0, none⟩) 11 11) ∧ w.alloc (.cells #[.int .i64 40, .int .i64 0, .int .i64 0, .int .i64 0, .int .i64 0, .int .i64 40, .int .i64 12, .int .i64 3, .int .i64 0, .int .i64 2, .int .i64 0] 3) = w' := by
  go_enter Tryd.func6, Tryd.ntmps6
  go_wp2
  go_ret
  exact ⟨rfl, rfl⟩
theorem makes_no1 {m n : Nat} (h : isN n = false) : makesB m n = false := by simp [makesB, h]
theorem makes_no2 {m n : Nat} (h : isN n = false) : makesB n m = false := by simp [makesB, h]
set_option maxHeartbeats 1000000 in
theorem tell_none (n m : Nat) (hn : n < 256) (hm : m < 256) (hk : isN n = false) (w : World) (h : Tab w) : Calls Tryd.prog 3 #[.int .u8 (n : Int), .int .u8 (m : Int)] w fun e w' => e = .returned (.bool true) ∧ Ext w w' := by
  have H := Lib.hid h; clear h
  have HK := Lib.hid hk
  have HO : Hid (∀ W, Tab W → Calls Tryd.prog 5 #[.int .u8 (n : Int)] W fun e w' => e = .returned (.tuple #[.agg #[.int .i64 0, .int .i64 0, .int .i64 0, .int .i64 0, .int .i64 0, .int .i64 0, .int .i64 0, .int .i64 0, .int .i64 0, .int .u8 0, .bool false], .bool false]) ∧ Ext W w') := Lib.hid (fun W hW => by
    rcases isN_no hk with rfl | h6
    · exact of_0 W hW
    · exact of_far n (by omega) hn W)
  clear hk
  go_enter Tryd.func3, Tryd.ntmps3
  go_wp2_with fail
  refine (HO.out _ H.out).mono ?_
  rintro e w1 ⟨rfl, b1⟩
  go_wp2_with fail
  refine (row_none n hn HK.out _).mono ?_
  rintro e w2 ⟨rfl, rfl⟩
  go_wp2_with fail
  have T1 := Lib.hid (H.out.ext (ext_alloc b1 (.cells #[.int .i64 0, .int .i64 0, .int .i64 0, .int .i64 0, .int .i64 0, .int .i64 0, .int .i64 0, .int .i64 0, .int .i64 0, .int .u8 0, .bool false] 23)))
  refine (makes m n hm hn _ T1.out).mono ?_
  rintro e w3 ⟨rfl, b3⟩
  rw [makes_no1 HK.out]
  go_wp2_with fail
  refine (makes n m hn hm _ (T1.out.ext b3)).mono ?_
  rintro e w4 ⟨rfl, b4⟩
  rw [makes_no2 HK.out]
  go_wp2_with fail
  refine (wakes _ ((T1.out.ext b3).ext b4)).mono ?_
  rintro e w5 ⟨rfl, b5⟩
  go_wp2_with fail
  go_ret
  exact ⟨rfl, ext_trans (ext_alloc b1 _) (ext_trans b3 (ext_trans b4 b5))⟩
end Go.Proofs.YtdbjknljdplinaaDoor.Rul
