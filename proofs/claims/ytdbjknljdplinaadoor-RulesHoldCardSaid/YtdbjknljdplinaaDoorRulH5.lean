/- The walk of the law on makers, at one kind. -/
import Derived.Test.YtdbjknljdplinaaDoorRulC
import Derived.LoopTactic
import Derived.Deep.RegionHeld3
namespace Go.Proofs.YtdbjknljdplinaaDoor.Rul
open Go.ChangeShapes Go.WideShapes Go.ChangeAt Go.RowKit
set_option maxHeartbeats 1000000 in
set_option maxRecDepth 100000 in
theorem hold_5 (w : World) (h : Tab w) : Calls Tryd.prog 4 #[.int .u8 5] w fun e w' => e = .returned (.bool true) ∧ Ext w w' := by
  have H := Lib.hid h; clear h
  go_enter Tryd.func4, Tryd.ntmps4
  go_wp2_with fail
  refine (of_5 _ H.out).mono ?_
  rintro e w1 ⟨rfl, b1⟩
  have T1 := Lib.hid (H.out.ext b1)
  go_wp2_with fail
  go_loopw [5, 6] (fun mk i wr => HRel 5 (w1.alloc (.cells #[.int .i64 40, .int .i64 0, .int .i64 0, .int .i64 0, .int .i64 0, .int .i64 40, .int .i64 12, .int .i64 3, .int .i64 0, .int .u8 2, .bool false] 23)) mk i wr) (fun _ i _ => 256 - (intOf i).toNat)
  case atStart => exact ⟨0, by omega, rfl, rfl, Ext.rfl' _⟩
  case round =>
    obtain ⟨m, hm, rfl, rfl, hx⟩ := hrel
    by_cases hlt : m < 256
    · have hc := cnt_le 5 m
      have TR := Lib.hid ((T1.out.ext (ext_alloc (Ext.rfl' _) _)).ext hx)
      cases hb : makesB m 5 with
      | true =>
        have HB := Lib.hid hb; clear hb
        go_wp2_with fail
        refine (makes m 5 (by omega) (by omega) _ TR.out).mono ?_
        rintro e w2 ⟨rfl, b2⟩
        rw [HB.out]
        go_wp2_with fail
        go_roundw
        case rel => exact ⟨m + 1, by omega, by rw [cnt_yes HB.out]; go_num, by go_num, ext_trans hx b2⟩
        case measure => simp [intOf]; omega
      | false =>
        have HB := Lib.hid hb; clear hb
        go_wp2_with fail
        refine (makes m 5 (by omega) (by omega) _ TR.out).mono ?_
        rintro e w2 ⟨rfl, b2⟩
        rw [HB.out]
        go_wp2_with fail
        go_roundw
        case rel => exact ⟨m + 1, by omega, by rw [cnt_no HB.out], by go_num, ext_trans hx b2⟩
        case measure => simp [intOf]; omega
    · obtain rfl : m = 256 := by omega
      rw [show cnt 5 256 = 1 from by decide +kernel]
      have TR := (T1.out.ext (ext_alloc (Ext.rfl' _) _)).ext hx
      have EX := ext_drew (ext_trans (ext_trans b1 (ext_alloc (Ext.rfl' _) _)) hx)
      have c0 : wr.cell? ⟨w1.heap.size, 0, none⟩ = some (.int .i64 40) := kc hx (by go_simp)
      have c1 : wr.cell? ⟨w1.heap.size, 1, none⟩ = some (.int .i64 0) := kc hx (by go_simp)
      have c2 : wr.cell? ⟨w1.heap.size, 2, none⟩ = some (.int .i64 0) := kc hx (by go_simp)
      have c3 : wr.cell? ⟨w1.heap.size, 3, none⟩ = some (.int .i64 0) := kc hx (by go_simp)
      have c4 : wr.cell? ⟨w1.heap.size, 4, none⟩ = some (.int .i64 0) := kc hx (by go_simp)
      have c5 : wr.cell? ⟨w1.heap.size, 5, none⟩ = some (.int .i64 40) := kc hx (by go_simp)
      have c6 : wr.cell? ⟨w1.heap.size, 6, none⟩ = some (.int .i64 12) := kc hx (by go_simp)
      have c7 : wr.cell? ⟨w1.heap.size, 7, none⟩ = some (.int .i64 3) := kc hx (by go_simp)
      have c8 : wr.cell? ⟨w1.heap.size, 8, none⟩ = some (.int .i64 0) := kc hx (by go_simp)
      have c9 : wr.cell? ⟨w1.heap.size, 9, none⟩ = some (.int .u8 2) := kc hx (by go_simp)
      have c10 : wr.cell? ⟨w1.heap.size, 10, none⟩ = some (.bool false) := kc hx (by go_simp)
      have hl : w1.heap.size < (w1.alloc (.cells #[.int .i64 40, .int .i64 0, .int .i64 0, .int .i64 0, .int .i64 0, .int .i64 40, .int .i64 12, .int .i64 3, .int .i64 0, .int .u8 2, .bool false] 23)).heap.size := by simp
      clear hx
      go_wp2_with fail
      go_region_held3 (fun w' => w'.cell? ⟨w1.heap.size, 0, none⟩ = some (.int .i64 40) ∧ w'.cell? ⟨w1.heap.size, 1, none⟩ = some (.int .i64 0) ∧ w'.cell? ⟨w1.heap.size, 2, none⟩ = some (.int .i64 0) ∧ w'.cell? ⟨w1.heap.size, 3, none⟩ = some (.int .i64 0) ∧ w'.cell? ⟨w1.heap.size, 4, none⟩ = some (.int .i64 0) ∧ w'.cell? ⟨w1.heap.size, 5, none⟩ = some (.int .i64 40) ∧ w'.cell? ⟨w1.heap.size, 6, none⟩ = some (.int .i64 12) ∧ w'.cell? ⟨w1.heap.size, 7, none⟩ = some (.int .i64 3) ∧ w'.cell? ⟨w1.heap.size, 8, none⟩ = some (.int .i64 0) ∧ w'.cell? ⟨w1.heap.size, 9, none⟩ = some (.int .u8 2) ∧ w'.cell? ⟨w1.heap.size, 10, none⟩ = some (.bool false) ∧ Tab w' ∧ Ext w w')
        (first | exact ⟨c0, c1, c2, c3, c4, c5, c6, c7, c8, c9, c10, TR, EX⟩ | (go_split_ands; refine ⟨?_, ?_, ?_, ?_, ?_, ?_, ?_, ?_, ?_, ?_, ?_, ?_, ?_⟩ <;> first | exact kc b2 (by assumption) | exact Tab.ext (by assumption) b2 | exact ext_trans (by assumption) b2))
        (first | (go_at_call 9; refine (building _ _ _ _ _ _ _ _ _ _ _ _).mono ?_; rintro e w2 ⟨rfl, b2⟩) | (go_at_call 8; refine (wakes _ ?_).mono ?_; (go_split_ands; assumption); rintro e w2 ⟨rfl, b2⟩))
      go_wp2_with fail
      go_ret
      refine ⟨rfl, ?_⟩
      go_split_ands
      assumption
end Go.Proofs.YtdbjknljdplinaaDoor.Rul
