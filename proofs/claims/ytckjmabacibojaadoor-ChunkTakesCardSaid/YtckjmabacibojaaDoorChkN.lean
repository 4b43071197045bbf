/- What is told of any bytes: the law, walked. -/
import Derived.Test.YtckjmabacibojaaDoorGJ
import Derived.Test.YtckjmabacibojaaDoorChkI
namespace Go.Proofs.YtckjmabacibojaaDoor.Chk
open Go.ChangeShapes Go.WideShapes Go.ChangeAt Go.RowKit
open Go.Proofs.YtckjmabacibojaaDoor.Wire
set_option linter.unusedVariables false

set_option maxHeartbeats 8000000 in
set_option maxRecDepth 100000 in
theorem takes (s : ByteArray) (at_ most : Int) (w : World) (hT : Crc.Tab w) (hs : s.size ≤ 4000) :
    Calls Tryd.prog 4 #[.string s, .int .i64 at_, .int .i64 most] w fun e w' => e = .returned (.bool true) ∧ Ext w w' := by
  have HT := Lib.hid hT
  obtain ⟨c1, w1, hcv, h1, h2, hB, hE⟩ := Com.conv_text w s (by omega)
  have HSK := Lib.hid (skip (some ⟨w.heap.size, 0, none⟩) s.size c1 (natsOf s) at_ w1 (hT.ext hE) hB (fun h => by cases h) h1 h2 (by omega))
  have HRR := Lib.hid (fun W => refReadC s at_ W (by omega))
  have HRT := Lib.hid (fun W => refTakeC s at_ most W (by omega))
  have HTK := Lib.hid (fun (A : Addr) (c : Nat) W hT hB h1 h2 => take (some A) s.size c (natsOf s) at_ most W hT hB (fun h => by cases h) h1 h2 (by omega))
  have HE := Lib.hid hE
  clear hT hE hB h1 h2
  generalize readAt (natsOf s) at_ = R at *
  generalize takeAt (natsOf s) at_ most = K at *
  go_enter Tryd.func4, Tryd.ntmps4
  go_wp2_with fail
  refine HSK.out.mono ?_
  clear hcv
  rintro e w2 ⟨hE2, hm2⟩
  have HE2 := Lib.hid (ext_trans HE.out hE2)
  clear hE2
  cases R with
  | bad f =>
    obtain ⟨hf, rfl⟩ := hm2
    have HF := Lib.hid hf
    clear hf
    go_wp2_with fail
    refine (HRR.out _).mono ?_
    rintro e w3 ⟨hE3, hm3⟩
    obtain rfl := hm3
    have HE3 := Lib.hid (ext_trans HE2.out hE3)
    clear hE3
    have HE4 := Lib.hid (ext_alloc HE3.out (.cells CZ 31))
    go_upto_region 7 with fail
    generalize w3.alloc (.cells #[.int .u8 0, .bool false, .int .i64 0, .string ⟨#[]⟩, .int .i64 0] 31) = w4 at *
    obtain ⟨c5, w5, hcv, h1, h2, hB, hE5⟩ := Com.conv_text w4 s (by omega)
    have HTA := Lib.hid (HTK.out ⟨w4.heap.size, 0, none⟩ c5 w5 (HT.out.ext (ext_trans HE4.out hE5)) hB h1 h2)
    have HE5 := Lib.hid (ext_trans HE4.out hE5)
    clear hB h1 h2 hE5
    go_wp2_with fail
    refine HTA.out.mono ?_
    clear hcv
    rintro e w6 ⟨hE6, hm6⟩
    have HE6 := Lib.hid (ext_trans HE5.out hE6)
    clear hE6
    cases K with
    | bad f2 =>
      obtain ⟨_, rfl⟩ := hm6
      go_wp2_with fail
      refine (HRT.out _).mono ?_
      rintro e w7 ⟨hE7, hm7⟩
      obtain rfl := hm7
      have HE7 := Lib.hid (ext_trans HE6.out hE7)
      have hcv : (convert 22 9 (.slice none 0 0)).run Tryd.prog w7 = .ok (.string ⟨#[]⟩) w7 := Com.conv8 (Bs.none w7 none) 0
      clear hE7
      go_wp2_with fail
      refine (wakes _ (HT.out.ext HE7.out)).mono ?_
      rintro e w8 ⟨rfl, b8⟩
      go_wp2_with fail
      go_ret
      exact ⟨rfl, ext_trans HE7.out b8⟩
    | ok k2 zs n2 =>
      obtain ⟨A6, c6, rfl, hB6, _⟩ := hm6
      go_wp2_with fail
      refine (HRT.out _).mono ?_
      rintro e w7 ⟨hE7, hm7⟩
      obtain rfl := hm7
      have HE7 := Lib.hid (ext_trans HE6.out hE7)
      have hcv := Com.conv8 (hB6.ext hE7) c6
      clear hE7 hB6
      generalize strOf zs = Z at *
      go_wp2_with fail
      refine (wakes _ (HT.out.ext HE7.out)).mono ?_
      rintro e w8 ⟨rfl, b8⟩
      go_wp2_with fail
      go_ret
      exact ⟨rfl, ext_trans HE7.out b8⟩
  | ok kind h size ys next =>
    obtain rfl := hm2
    go_wp2_with fail
    refine (HRR.out _).mono ?_
    rintro e w3 ⟨hE3, hm3⟩
    obtain rfl := hm3
    have HE3 := Lib.hid (ext_trans HE2.out hE3)
    clear hE3
    have HE4 := Lib.hid (ext_alloc HE3.out (.cells #[.int .u8 (kind : Int), .bool (decide (h = 1)), .int .i64 (size : Int), .string (strOf ys), .int .i64 (next : Int)] 31))
    go_upto_region 7 with fail
    generalize w3.alloc (.cells #[.int .u8 (kind : Int), .bool (decide (h = 1)), .int .i64 (size : Int), .string (strOf ys), .int .i64 (next : Int)] 31) = w4 at *
    obtain ⟨c5, w5, hcv, h1, h2, hB, hE5⟩ := Com.conv_text w4 s (by omega)
    have HTA := Lib.hid (HTK.out ⟨w4.heap.size, 0, none⟩ c5 w5 (HT.out.ext (ext_trans HE4.out hE5)) hB h1 h2)
    have HE5 := Lib.hid (ext_trans HE4.out hE5)
    clear hB h1 h2 hE5
    go_wp2_with fail
    refine HTA.out.mono ?_
    clear hcv
    rintro e w6 ⟨hE6, hm6⟩
    have HE6 := Lib.hid (ext_trans HE5.out hE6)
    clear hE6
    cases K with
    | bad f2 =>
      obtain ⟨_, rfl⟩ := hm6
      go_wp2_with fail
      refine (HRT.out _).mono ?_
      rintro e w7 ⟨hE7, hm7⟩
      obtain rfl := hm7
      have HE7 := Lib.hid (ext_trans HE6.out hE7)
      have hcv : (convert 22 9 (.slice none 0 0)).run Tryd.prog w7 = .ok (.string ⟨#[]⟩) w7 := Com.conv8 (Bs.none w7 none) 0
      clear hE7
      go_wp2_with fail
      refine (wakes _ (HT.out.ext HE7.out)).mono ?_
      rintro e w8 ⟨rfl, b8⟩
      go_wp2_with fail
      go_ret
      exact ⟨rfl, ext_trans HE7.out b8⟩
    | ok k2 zs n2 =>
      obtain ⟨A6, c6, rfl, hB6, _⟩ := hm6
      go_wp2_with fail
      refine (HRT.out _).mono ?_
      rintro e w7 ⟨hE7, hm7⟩
      obtain rfl := hm7
      have HE7 := Lib.hid (ext_trans HE6.out hE7)
      have hcv := Com.conv8 (hB6.ext hE7) c6
      clear hE7 hB6
      generalize strOf zs = Z at *
      go_wp2_with fail
      refine (wakes _ (HT.out.ext HE7.out)).mono ?_
      rintro e w8 ⟨rfl, b8⟩
      go_wp2_with fail
      go_ret
      exact ⟨rfl, ext_trans HE7.out b8⟩
theorem takes_all (s : ByteArray) (at_ most : Int) (w : World) (hT : Crc.Tab w) (ha1 : -9223372036854775808 ≤ at_) (ha2 : at_ ≤ 9223372036854775807) (hm1 : -9223372036854775808 ≤ most) (hm2 : most ≤ 9223372036854775807) (hz : s.size ≤ 9223372036854775807) :
    Calls Tryd.prog 4 #[.string s, .int .i64 at_, .int .i64 most] w fun e w' => e = .returned (.bool true) ∧ Ext w w' := by
  by_cases hs : s.size ≤ 4000
  · exact takes s at_ most w hT hs
  · have H := Lib.hid hT; clear hT
    go_enter Tryd.func4, Tryd.ntmps4
    go_wp2_with fail
    refine (wakes _ H.out).mono ?_
    rintro e w1 ⟨rfl, b1⟩
    go_wp2_with fail
    go_ret
    exact ⟨rfl, b1⟩
end Go.Proofs.YtckjmabacibojaaDoor.Chk
