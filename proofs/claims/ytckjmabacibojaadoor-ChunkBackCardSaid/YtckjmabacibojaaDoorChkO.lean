/- What is put is taken as itself, and a changed byte is refused: the law, walked. -/
import Derived.Test.YtckjmabacibojaaDoorGJ
namespace Go.Proofs.YtckjmabacibojaaDoor.Chk
open Go.ChangeShapes Go.WideShapes Go.ChangeAt Go.RowKit
open Go.Proofs.YtckjmabacibojaaDoor.Wire
set_option linter.unusedVariables false

theorem xor8 (a b : Nat) : bits .xor .u8 (a : Int) (b : Int) = ((BitVec.ofNat 8 a ^^^ BitVec.ofNat 8 b).toNat : Int) := by
  show IntKind.u8.wrap ((BitVec.ofInt 8 (a : Int) ^^^ BitVec.ofInt 8 (b : Int)).toNat : Int) = _
  rw [BitVec.ofInt_natCast, BitVec.ofInt_natCast]
  have := (BitVec.ofNat 8 a ^^^ BitVec.ofNat 8 b).isLt
  rw [IntKind.wrap_u8]
  omega
theorem xor8_ne {a b : Nat} (ha : a < 256) (hb : b < 256) (h0 : b ≠ 0) : ∃ y : Nat, y < 256 ∧ bits .xor .u8 (a : Int) (b : Int) = (y : Int) ∧ y ≠ a := by
  refine ⟨_, (BitVec.ofNat 8 a ^^^ BitVec.ofNat 8 b).isLt, xor8 a b, fun h => h0 ?_⟩
  have h1 : BitVec.ofNat 8 a ^^^ BitVec.ofNat 8 b = BitVec.ofNat 8 a := by
    apply BitVec.eq_of_toNat_eq
    rw [h, BitVec.toNat_ofNat, Nat.mod_eq_of_lt (by omega)]
  have h2 : BitVec.ofNat 8 b = 0#8 := by
    have := congrArg (BitVec.ofNat 8 a ^^^ ·) h1
    simpa [← BitVec.xor_assoc] using this
  have h3 := congrArg BitVec.toNat h2
  rw [BitVec.toNat_ofNat, Nat.mod_eq_of_lt (by omega)] at h3
  simpa using h3
theorem idx_eq (n m at_ : Nat) (hn : n ≤ 2000) (hm1 : 0 < m) (hm2 : m ≤ 100000) : ∃ j i : Nat, j < m ∧ i = n + j ∧ wrap64 ((n : Int) + (at_ : Int) % ((n : Int) + (m : Int) - (n : Int))) = (i : Int) := by
  refine ⟨at_ % m, n + at_ % m, Nat.mod_lt _ hm1, rfl, ?_⟩
  have e1 : (n : Int) + (m : Int) - (n : Int) = (m : Int) := by omega
  have e2 : (at_ : Int) % (m : Int) = ((at_ % m : Nat) : Int) := (Int.natCast_emod at_ m).symm
  have h3 := Nat.mod_lt at_ hm1
  rw [e1, e2]
  generalize at_ % m = j at *
  rw [IntWalk.wrap64_in _ (by omega)]
  omega
set_option maxHeartbeats 16000000 in
set_option maxRecDepth 100000 in
theorem back (A A2 A3 : Option Addr) (n c n2 c2 n3 c3 kind at_ ch : Nat) (xs ys zs : List Nat) (w : World) (hT : Crc.Tab w) (hk : kind < 256) (hat : at_ < 65536) (hch : ch < 256) (hB : Bs w A n xs) (hnil : A = none → n = 0 ∧ c = 0) (hn : n ≤ c) (hc : c ≤ 9223372036854775807) (hN : n ≤ 2000)
    (hB2 : Bs w A2 n2 ys) (hn2 : n2 ≤ c2) (hc2 : c2 ≤ 9223372036854775807) (hN2 : n2 ≤ 2000) (hB3 : Bs w A3 n3 zs) (hn3 : n3 ≤ c3) (hc3 : c3 ≤ 9223372036854775807) (hN3 : n3 ≤ 2000) :
    Calls Tryd.prog 5 #[.slice A n c, .slice A2 n2 c2, .slice A3 n3 c3, .int .u8 (kind : Int), .int .u16 (at_ : Int), .int .u8 (ch : Int)] w fun e w' => e = .returned (.bool true) ∧ Ext w w' := by
  have HP := Lib.hid (put A A2 n c n2 c2 kind xs ys w hT hk hB hnil hn hc (by omega) hB2 hn2 hc2 (by omega))
  have hxl : xs.length = n := hB.1
  have hyl : ys.length = n2 := hB2.1
  have hzl : zs.length = n3 := hB3.1
  have hcs := chunk_short kind (xs := ys) (by omega)
  have hcp := chunk_pos kind ys
  have HCB : Hid (∀ j, (chunk kind ys).getD j 0 < 256) := Lib.hid (small_mem (chunk_small hk hB2.2.1))
  have HXS := Lib.hid hB.2.1; have HYS := Lib.hid hB2.2.1; have HZS := Lib.hid hB3.2.1
  have HTK : Hid (takeAt (xs ++ (chunk kind ys ++ zs)) (n : Int) (n2 : Int) = .ok kind ys (n + (chunk kind ys).length)) := Lib.hid (by
    have h := take_chunk (kind := kind) hB2.2.1 xs zs (by omega) (n2 : Int) (by omega)
    rw [hxl] at h; exact h)
  have HTL : Hid (takeAt (xs ++ (chunk kind ys ++ zs)) (n : Int) ((n2 : Int) - 1) = .bad 6) := Lib.hid (by
    have h := take_low (kind := kind) (xs := ys) xs zs (by omega) ((n2 : Int) - 1) (by omega)
    rw [hxl] at h; exact h)
  have HRK : Hid (readAt (xs ++ (chunk kind ys ++ zs)) (n : Int) = .ok kind (how ys) ys.length (body ys) (n + (chunk kind ys).length)) := Lib.hid (by
    have h := readAt_app (ps := xs) (L := chunk kind ys ++ zs)
    rw [read_chunk kind ys zs (by omega), hxl] at h; exact h)
  have HRC : Hid (∀ i c', i < (chunk kind ys).length → c' < 256 → c' ≠ (chunk kind ys).getD i 0 → ∀ k h s b, readAt (xs ++ ((chunk kind ys).set i c' ++ zs)) (n : Int) ≠ .ok k h s b (n + (chunk kind ys).length)) := Lib.hid (fun i c' hi hc' hne k h s b hr => by
    have h1 := readAt_app (ps := xs) (L := (chunk kind ys).set i c' ++ zs)
    rw [hxl, hr] at h1
    cases h2 : Chk.read ((chunk kind ys).set i c' ++ zs) with
    | bad e => rw [h2] at h1; cases h1
    | ok k2 h3 s2 b2 n4 =>
      rw [h2] at h1
      have h5 : n + (chunk kind ys).length = n + n4 := by injection h1
      obtain rfl : n4 = (chunk kind ys).length := by omega
      exact read_changed hk hB2.2.1 zs hi hc' hne k2 h3 s2 b2 h2)
  have HT := Lib.hid hT; have HB2 := Lib.hid hB2; have HB3 := Lib.hid hB3
  obtain ⟨Z, hZ⟩ : ∃ Z, Z = chunk kind ys := ⟨_, rfl⟩
  rw [← hZ] at HP hcs hcp HCB HTK HTL HRK HRC
  obtain ⟨L, hL⟩ : ∃ L, L = xs ++ (Z ++ zs) := ⟨_, rfl⟩
  rw [← hL] at HTK HTL HRK
  have HLL := Lib.hid hL
  have hLl : L.length = n + Z.length + n3 := by rw [hL, List.length_append, List.length_append]; omega
  have HLS : Hid (∀ j, L.getD j 0 < 256) := Lib.hid (by rw [hL]; exact small_app HXS.out (small_app HCB.out HZS.out))
  have HXZ : Hid (∀ j, (xs ++ Z).getD j 0 < 256) := Lib.hid (small_app HXS.out HCB.out)
  obtain ⟨m, hm⟩ : ∃ m, m = Z.length := ⟨_, rfl⟩
  have hxz : (xs ++ Z).length = n + m := by rw [List.length_append, hxl, hm]
  rw [← hm] at hcs hcp hLl HTK HRK HRC
  have HM := Lib.hid hm
  obtain ⟨j, i, hjm, hi, hwi⟩ := idx_eq n m at_ hN (by omega) (by omega)
  have HWI := Lib.hid hwi
  clear hwi
  have hil : i < L.length := by omega
  have hLx : L.getD i 0 = Z.getD j 0 := by
    rw [HLL.out, List.getD_eq_getElem?_getD, List.getD_eq_getElem?_getD, List.getElem?_append_right (by omega), hxl, show i - n = j from by omega, List.getElem?_append_left (by omega)]
  have hxb : L.getD i 0 < 256 := HLS.out i
  have hLset : ∀ y, L.set i y = xs ++ (Z.set j y ++ zs) := fun y => by
    rw [HLL.out, List.set_append_right _ _ (by omega), hxl, show i - n = j from by omega, List.set_append_left _ _ (by omega)]
  have HY : Hid (ch ≠ 0 → ∃ y : Nat, y < 256 ∧ bits .xor .u8 (L.getD i 0 : Int) (ch : Int) = (y : Int) ∧ Hid (∀ k h s b, readAt (L.set i y) (n : Int) ≠ .ok k h s b (n + m))) := Lib.hid (fun h0 => by
    obtain ⟨y, hy, hxy, hyn⟩ := xor8_ne hxb hch h0
    refine ⟨y, hy, hxy, Lib.hid ?_⟩
    rw [hLset y]
    exact HRC.out j y hjm hy (by rw [← hLx]; exact hyn))
  have hii : i < n + m := by omega
  have HIL := Lib.hid hil
  clear hT hB hB2 hB3 hnil hZ hL hm hil hLx hLset hjm hi
  go_enter Tryd.func5, Tryd.ntmps5
  go_wp2_with fail
  refine HP.out.mono ?_
  rintro e w1 ⟨A1, c1, rfl, hO, hE⟩
  have hO1 := hO
  rw [hxz] at hO1 ⊢
  have HB1 := Lib.hid (Wire.Own.bs hO HXZ.out)
  rw [hxz] at HB1
  have HE := Lib.hid hE
  clear hO hE hO1
  have HSR1 : Hid (Src Tryd.prog 1 22 (.slice A1 (n + m) c1) (xs ++ Z).length (c8 (xs ++ Z)) w1) := Lib.hid (by rw [hxz]; exact Bs.src HB1.out Tryd.underlying22 c1)
  have HON : Hid (Wire.Own w1 w1 (.slice none 0 0) []) := Lib.hid (World.ownsRow_nil _ _ _ _)
  have q1 : ¬ (n : Int) + (n2 : Int) + 16 < (n : Int) + (m : Int) := by omega
  have q2 : ¬ (n : Int) + (m : Int) ≤ (n : Int) := by omega
  have HQ1 : Hid (([] : List Nat).length + (xs ++ Z).length ≤ 140737488355328) := Lib.hid (by rw [hxz]; simp; omega)
  have HSR3 : Hid (∀ W, Ext w1 W → Src Tryd.prog 1 22 (.slice A3 n3 c3) zs.length (c8 zs) W) := Lib.hid (fun W h => by rw [hzl]; exact Bs.src (HB3.out.ext (ext_trans HE.out h)) Tryd.underlying22 c3)
  have HQ2 : Hid (([] ++ (xs ++ Z) : List Nat).length + zs.length ≤ 140737488355328) := Lib.hid (by rw [List.nil_append, hxz, hzl]; omega)
  go_upto_region 8 with (first
    | (at_builtin; refine wpList_own (W := w1) rfl (.const (.slice none 0 0)) (.tmp 61) 22 rfl (.slice none 0 0) (.slice A1 (n + m) c1) [] (xs ++ Z) rfl rfl HON.out (Ext.rfl' w1) HSR1.out HQ1.out ?_; intro v2 w2 hO2 hE2)
    | (at_builtin; refine wpList_own (W := w1) rfl (.tmp 62) (.tmp 63) 22 rfl v2 (.slice A3 n3 c3) ([] ++ (xs ++ Z)) zs rfl rfl hO2 hE2 (HSR3.out _ hE2) HQ2.out ?_; intro v3 w3 hO3 hE3))
  have HL3 : [] ++ (xs ++ Z) ++ zs = L := by rw [HLL.out, List.nil_append, List.append_assoc]
  rw [HL3] at hO3
  obtain ⟨A5, c5, rfl, hc5, hc6, hA5⟩ := own_shape hO3
  obtain ⟨g, rfl, hg⟩ := hA5 (by omega)
  obtain ⟨cur, hcur, hcc⟩ := own_blk hO3 (by omega)
  have HBL := Lib.hid hcur; have HCC := Lib.hid hcc
  have HBQ := Lib.hid (bs_blk hcur hcc HLS.out)
  have HE3 := Lib.hid (ext_trans HE.out hE3)
  have hg0 : w.heap.size ≤ g := by have := HE.out.size; omega
  have hc6' : c5 ≤ 9223372036854775807 := by unfold maxLen at hc6; omega
  have HTA := Lib.hid (fun W hT hB => take (some ⟨g, 0, none⟩) L.length c5 L (n : Int) (n2 : Int) W hT hB (fun h => by cases h) hc5 hc6' (by omega))
  have HTB := Lib.hid (fun W hT hB => take (some ⟨g, 0, none⟩) L.length c5 L (n : Int) ((n2 : Int) - 1) W hT hB (fun h => by cases h) hc5 hc6' (by omega))
  have HSK := Lib.hid (fun W hT hB => skip (some ⟨g, 0, none⟩) L.length c5 L (n : Int) W hT hB (fun h => by cases h) hc5 hc6' (by omega))
  have HSK2 := Lib.hid (fun L' W (hl : L'.length = L.length) hT hB => skip (some ⟨g, 0, none⟩) L.length c5 L' (n : Int) W hT hB (fun h => by cases h) hc5 hc6' (by omega))
  rw [HTK.out] at HTA
  rw [HTL.out] at HTB
  rw [HRK.out] at HSK
  obtain ⟨l, hl⟩ : ∃ l, l = L.length := ⟨_, rfl⟩
  rw [← hl] at HTA HTB HSK HSK2 HBQ hc5 hLl ⊢
  have HLn := Lib.hid hl
  have HLl := Lib.hid hLl
  have hlb : n + m ≤ l ∧ l ≤ 8000 := by omega
  have HXL := Lib.hid hxl
  clear hO2 hE2 hO3 hE3 hcur hcc HL3 HTK HTL HRK HSR1 HON HQ1 HQ2 HSR3 hl hLl hxl hzl hxz hA5
  go_wp2_with fail
  refine (HTA.out _ (HT.out.ext HE3.out) HBQ.out).mono ?_
  rintro e w4 ⟨hE4, A6, c7, rfl, hB6, hF6⟩
  have HB6 := Lib.hid hB6; have HE4 := Lib.hid hE4
  clear hB6 hF6 hE4
  go_wp2_with fail
  refine (HSK.out _ (HT.out.ext (ext_trans HE3.out HE4.out)) (HBQ.out.ext HE4.out)).mono ?_
  rintro e w5 ⟨hE5, rfl⟩
  have HE5 := Lib.hid (ext_trans HE4.out hE5)
  have hcv1 := Com.conv8 (HB6.out.ext hE5) c7
  have hcv2 := Com.conv8 (HB2.out.ext (ext_trans HE3.out HE5.out)) c2
  rw [hyl] at hcv1
  clear hE5
  generalize strOf ys = S at *
  go_wp2_with fail
  refine (HTB.out _ (HT.out.ext (ext_trans HE3.out HE5.out)) (HBQ.out.ext HE5.out)).mono ?_
  rintro e w6 ⟨hE6, _, rfl⟩
  have HE6 := Lib.hid (ext_trans HE5.out hE6)
  have HT6 := Lib.hid (HT.out.ext (ext_trans HE3.out HE6.out))
  have HW6 := Lib.hid (ext_trans HE3.out HE6.out)
  clear hE6 hcv1 hcv2
  by_cases h0 : ch = 0
  · have hb0 : ((ch : Int) == 0) = true := beq_iff_eq.2 (by omega)
    clear h0
    go_wp2_with fail
    refine (wakes _ HT6.out).mono ?_
    rintro e w7 ⟨rfl, b7⟩
    go_wp2_with fail
    go_ret
    exact ⟨rfl, ext_trans HW6.out b7⟩
  · have hb0 : ((ch : Int) == 0) = false := beq_eq_false_iff_ne.2 (by omega)
    go_upto_region 18 with fail
    obtain ⟨y, hy, hxy, HRD⟩ := HY.out h0
    rw [HWI.out]
    have HBL6 := Lib.hid (HBL.out.ext HE6.out)
    have HPU := Lib.hid (blk_put HBL6.out HCC.out i y)
    have p0 := HBL6.out.cell i
    rw [HCC.out i HIL.out] at p0
    have p1 := HBL6.out.frozen i
    have hil2 : i < l := by omega
    have HBS := Lib.hid (bs_blk HPU.out.1 HPU.out.2 (set_small HLS.out hy))
    have HSET := Lib.hid (show (L.set i y).length = l from by rw [List.length_set, HLn.out])
    rw [HSET.out] at HBS
    have HW7 := Lib.hid (ext_set HW6.out (p := ⟨g, i, none⟩) hg0 (.int .u8 (y : Int)))
    have HT7 := Lib.hid (HT.out.ext HW7.out)
    have HS7 := Lib.hid (HSK2.out (L.set i y) _ (by rw [HSET.out]) HT7.out HBS.out)
    generalize readAt (L.set i y) (n : Int) = R at *
    generalize L.getD i 0 = x at *
    have k1 : (0 : Int) ≤ (i : Int) := by omega
    have k2 : (i : Int) < (l : Int) := by omega
    clear HBS HPU HSET
    go_upto_region 19 with fail
    clear p0 p1 k1 k2 hxy
    generalize w6.setCell ⟨g, i, none⟩ (.int .u8 (y : Int)) = w7 at *
    go_wp2_with fail
    refine HS7.out.mono ?_
    rintro e w8 ⟨hE8, hm8⟩
    have HT8 := Lib.hid (HT7.out.ext hE8)
    have HW8 := Lib.hid (ext_trans HW7.out hE8)
    clear hE8
    cases R with
    | bad f =>
      obtain ⟨hf, rfl⟩ := hm8
      have hfb : (f != 0) = true := by simpa using hf
      clear hf
      go_wp2_with fail
      refine (wakes _ HT8.out).mono ?_
      rintro e w9 ⟨rfl, b9⟩
      go_wp2_with fail
      go_ret
      exact ⟨rfl, ext_trans HW8.out b9⟩
    | ok k h2 s2 b2 nx =>
      obtain rfl := hm8
      have hnx : nx ≠ n + m := fun h => HRD.out k h2 s2 b2 (by rw [h])
      have hnb : ((nx : Int) != (n : Int) + (m : Int)) = true := by simp; omega
      clear hnx
      go_wp2_with fail
      refine (wakes _ HT8.out).mono ?_
      rintro e w9 ⟨rfl, b9⟩
      go_wp2_with fail
      go_ret
      exact ⟨rfl, ext_trans HW8.out b9⟩
set_option maxHeartbeats 8000000 in
set_option maxRecDepth 100000 in
theorem back_all (A A2 A3 : Option Addr) (n c n2 c2 n3 c3 kind at_ ch : Nat) (xs ys zs : List Nat) (w : World) (hT : Crc.Tab w) (hk : kind < 256) (hat : at_ < 65536) (hch : ch < 256) (hB : Bs w A n xs) (hnil : A = none → n = 0 ∧ c = 0) (hn : n ≤ c) (hc : c ≤ 9223372036854775807)
    (hB2 : Bs w A2 n2 ys) (hn2 : n2 ≤ c2) (hc2 : c2 ≤ 9223372036854775807) (hB3 : Bs w A3 n3 zs) (hn3 : n3 ≤ c3) (hc3 : c3 ≤ 9223372036854775807) :
    Calls Tryd.prog 5 #[.slice A n c, .slice A2 n2 c2, .slice A3 n3 c3, .int .u8 (kind : Int), .int .u16 (at_ : Int), .int .u8 (ch : Int)] w fun e w' => e = .returned (.bool true) ∧ Ext w w' := by
  by_cases hN : n ≤ 2000 ∧ n2 ≤ 2000 ∧ n3 ≤ 2000
  · exact back A A2 A3 n c n2 c2 n3 c3 kind at_ ch xs ys zs w hT hk hat hch hB hnil hn hc hN.1 hB2 hn2 hc2 hN.2.1 hB3 hn3 hc3 hN.2.2
  · have H := Lib.hid hT; clear hT hB hB2 hB3 hnil
    by_cases h1 : n ≤ 2000
    · by_cases h2 : n2 ≤ 2000
      · have h3 : ¬ n3 ≤ 2000 := fun h => hN ⟨h1, h2, h⟩
        clear hN
        go_enter Tryd.func5, Tryd.ntmps5
        go_wp2_with fail
        refine (wakes _ H.out).mono ?_
        rintro e w1 ⟨rfl, b1⟩
        go_wp2_with fail
        go_ret
        exact ⟨rfl, b1⟩
      · clear hN
        go_enter Tryd.func5, Tryd.ntmps5
        go_wp2_with fail
        refine (wakes _ H.out).mono ?_
        rintro e w1 ⟨rfl, b1⟩
        go_wp2_with fail
        go_ret
        exact ⟨rfl, b1⟩
    · clear hN
      go_enter Tryd.func5, Tryd.ntmps5
      go_wp2_with fail
      refine (wakes _ H.out).mono ?_
      rintro e w1 ⟨rfl, b1⟩
      go_wp2_with fail
      go_ret
      exact ⟨rfl, b1⟩
end Go.Proofs.YtckjmabacibojaaDoor.Chk
