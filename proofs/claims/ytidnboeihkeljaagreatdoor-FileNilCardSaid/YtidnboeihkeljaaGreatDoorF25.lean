
import Derived.Test.YtidnboeihkeljaaGreatDoorFilQ
set_option maxHeartbeats 16000000
set_option maxRecDepth 100000
set_option linter.all false
open Go.ChangeShapes Go.WideShapes Go.ChangeAt Go.RowKit
namespace Go.Proofs.YtidnboeihkeljaaGreatDoor.Fil
open Wire
open Rec
open Trk (Sl Tv Tk TkV mayT encT takeT RfV Room)
open Log (Hv Ev En cH cS cV mayH putL encH OwnR_mono' OwnR_keep)
def x0 : Hv := ⟨4, 4, 1, 0, ⟨#[0, 0, 0, 0, 0, 0, 0, 0, 0, 0, 0, 0, 0, 0, 0, 0]⟩, []⟩
def tr0 : Tk := ⟨[], [], [], [], []⟩
def ts0 : List ByteArray := [⟨#[97, 98, 99]⟩, ⟨#[97, 98, 100]⟩, ⟨#[120]⟩]
def r0 : Rc := ⟨x0, [], 2, 2, tr0, [[97, 98, 99], [97, 98, 100], [120]]⟩
theorem ts0_map : ts0.map natsOf = [[97, 98, 99], [97, 98, 100], [120]] := by decide
theorem low0 : Low r0 := by
 refine ⟨by decide, by decide, fun u hu => absurd hu (by simp [r0, x0]), by decide, by decide, by decide, fun e he => absurd he (by simp [r0]), by decide, by decide, by decide, ?_, ?_⟩
 ·intro f hf; revert f; decide
 ·intro f hf; revert f; decide
theorem may0 : mayR r0 := by
 refine ⟨by decide, by decide, by decide, by decide, by decide, ?_, by decide⟩
 intro f hf; revert f; decide
theorem put0 : ∃ L, putL r0.N r0.evs = some L := by
 have h := may0.2.1
 exact Option.isSome_iff_exists.1 h
theorem opn0 : ∃ L b3 b4 iA, putL r0.N r0.evs = some L ∧ Opn (built (encH r0.x.hd) L (encT r0.tr) r0.N.toNat r0.K.toNat r0.fs) r0 L b3 b4 iA := by
 obtain ⟨L, hL⟩ := put0
 have hl := low0
 have hm := may0
 refine ⟨L, _, _, _, hL, rds_built _ _ _ _ _ _ (Log.encH_small _ hl.seed (mem_small (natsOf_small _))) (Log.putL_small hl.efit hL) (Trk.encT_both hm.2.2.1).2 hl.small (by have := Log.encH_len _ hm.1 hl.sfit; omega) (Log.putL_len hl.efit (by have := hl.evs; omega) hL) (Trk.encT_both hm.2.2.1).1 hl.frame (by decide) (by decide) (by decide), hL, hl, hm⟩
end Go.Proofs.YtidnboeihkeljaaGreatDoor.Fil
namespace Go.Proofs.YtidnboeihkeljaaGreatDoor.Fil
open Wire
open Rec
open Com (conv8)
open Trk (Sl Tv Tk TkV mayT encT takeT RfV Room)
open Log (Hv Ev En cH cS cV mayH putL encH OwnR_mono' OwnR_keep)

theorem row_ts {w : World} {g : Nat} (h : Blk w g 9 #[.string ⟨#[97, 98, 99]⟩, .string ⟨#[97, 98, 100]⟩, .string ⟨#[120]⟩]) : RowR w (some ⟨g, 0, none⟩) 3 1 cT ts0 := by
 refine ⟨rfl, fun _ => ⟨g, 0, rfl, h.lt, fun j hj i hi => ?_⟩⟩
 obtain rfl : i = 0 := by omega
 have hj3 : j < 3 := hj
 rcases (by omega : j = 0 ∨ j = 1 ∨ j = 2) with rfl | rfl | rfl
 ·exact h.cell 0
 ·exact h.cell 1
 ·exact h.cell 2
theorem of_known (g : Nat) (w : World) (h : Blk w g 9 #[.string ⟨#[97, 98, 99]⟩, .string ⟨#[97, 98, 100]⟩, .string ⟨#[120]⟩]) : Calls Tryz.prog 6 #[.agg #[.int .i64 4, .int .i64 4, .int .i64 1, .int .u32 0, .string ⟨#[0, 0, 0, 0, 0, 0, 0, 0, 0, 0, 0, 0, 0, 0, 0, 0]⟩, .slice none 0 0, .slice none 0 0, .int .i64 2, .int .i64 2, .slice none 0 0, .slice none 0 0, .slice none 0 0, .slice none 0 0, .slice none 0 0, .slice (some ⟨g, 0, none⟩) 3 3]] w
  fun e w' => ∃ p' : Pv, e = .returned (.tuple #[.agg (p'.cells r0), .bool true]) ∧ PaV w' p' r0 ∧ Ext w w' := by
 refine (of_parts ⟨none, 0, none, 0, ⟨⟨none, 0, 0⟩, ⟨none, 0, 0⟩, ⟨none, 0, 0⟩, ⟨none, 0, 0⟩, ⟨none, 0, 0⟩⟩, some ⟨g, 0, none⟩, 3⟩ x0 [] 2 2 tr0 ts0 w ?_ ?_ (by decide) (by decide) ?_).mono ?_
 ·have hp : Trk.PtsR w none 0 0 [] := ⟨RowR.nil _ _ _ _, by omega, by omega, fun _ => ⟨rfl, rfl⟩⟩
  exact ⟨RowR.nil _ _ _ _, RowR.nil _ _ _ _, ⟨hp, hp, hp, hp, RowR.nil _ _ _ _, Nat.le_refl 0, Nat.zero_le _, fun _ => ⟨rfl, rfl⟩, fun m hm => by cases hm⟩, row_ts h⟩
 ·exact ⟨fun c hc => by revert c; decide, by decide⟩
 ·intro s hs; revert s; decide
 ·rintro e w' ⟨hE, p', b, rfl, h1, h2⟩
  have hb : b = true := h2 (fun c hc q hq => by
   simp only [tr0, Tk.cams, List.mem_cons, List.not_mem_nil, or_false] at hc
   rcases hc with rfl | rfl | rfl | rfl <;> cases hq)
  subst hb
  have h3 := (h1 rfl).1
  rw [ts0_map] at h3 ⊢
  exact ⟨p', rfl, h3, hE⟩
theorem bs_abc (w : World) (m : Nat × Nat) : Bs (w.alloc (.cells #[.int .u8 97, .int .u8 98, .int .u8 99] 5 m)) (some ⟨w.heap.size, 0, none⟩) 3 [97, 98, 99] :=
 bs_new w 5 m [97, 98, 99] (small_mem (by decide))
theorem dpost_n {w w' : World} {zs : List Nat} {e : Ending} (h : DPost w zs e w') (n : Nat) (hn : zs.length = n) : ∃ A c, e = .returned (.tuple #[.slice A n c, .int .i64 0]) ∧ Bs w' A n zs ∧ Ext w w' := by
 subst hn
 exact h
theorem str_abd : strOf [97, 98, 100] = ⟨#[97, 98, 100]⟩ := rfl
theorem str_x : strOf [120] = ⟨#[120]⟩ := rfl
theorem wakes_st (w : World) (hT : Crc.Tab w) : Calls Tryz.prog 8 #[] w fun e w' => e = .returned (.bool true) ∧ Ext w w' := by
 have HTB := zh hT
 have HKN := zh (known_st w)
 obtain ⟨L, b3, b4, iA, hL, hop⟩ := opn0
 have HL := zh hL; have HOP := zh hop
 clear hT hL hop
 go_enter Tryz.func8, Tryz.ntmps8
 go_wp2_with fail
 refine (HKN.out).mono ?_
 rintro e w1 ⟨g, rfl, hb, hE1⟩
 have HOF := zh (of_known g w1 hb)
 have HE := zh hE1
 clear hb hE1 HKN
 go_wp2_with fail
 refine (HOF.out).mono ?_
 rintro e w2 ⟨⟨A, c, Al, cl, ⟨⟨A0, n0, c0⟩, ⟨A1, n1, c1⟩, ⟨A2, n2, c2⟩, ⟨A3, n3, c3⟩, ⟨Am, nm, cm⟩⟩, Af, cf⟩, rfl, hP, hE2⟩
 replace HE := zh (ext_trans HE.out hE2)
 have hcl : Pv.cells ⟨A, c, Al, cl, ⟨⟨A0, n0, c0⟩, ⟨A1, n1, c1⟩, ⟨A2, n2, c2⟩, ⟨A3, n3, c3⟩, ⟨Am, nm, cm⟩⟩, Af, cf⟩ r0 = #[.int .i64 4, .int .i64 4, .int .i64 1, .int .u32 0, .string ⟨#[0, 0, 0, 0, 0, 0, 0, 0, 0, 0, 0, 0, 0, 0, 0, 0]⟩, .slice A 0 c, .slice Al 0 cl, .int .i64 2, .int .i64 2, .slice A0 n0 c0, .slice A1 n1 c1, .slice A2 n2 c2, .slice A3 n3 c3, .slice Am nm cm, .slice Af 3 cf] := rfl
 have HBU : Hid (∀ w', Ext w2 w' → Calls Tryz.prog 9 #[.agg #[.int .i64 4, .int .i64 4, .int .i64 1, .int .u32 0, .string ⟨#[0, 0, 0, 0, 0, 0, 0, 0, 0, 0, 0, 0, 0, 0, 0, 0]⟩, .slice A 0 c, .slice Al 0 cl, .int .i64 2, .int .i64 2, .slice A0 n0 c0, .slice A1 n1 c1, .slice A2 n2 c2, .slice A3 n3 c3, .slice Am nm cm, .slice Af 3 cf]] w' (BuPost w' r0)) := zh (fun w' e => build_st ⟨A, c, Al, cl, ⟨⟨A0, n0, c0⟩, ⟨A1, n1, c1⟩, ⟨A2, n2, c2⟩, ⟨A3, n3, c3⟩, ⟨Am, nm, cm⟩⟩, Af, cf⟩ r0 w' (HTB.out.ext (ext_trans HE.out e)) (hP.ext e) low0)
 rw [hcl]
 clear hE2 HOF hP hcl
 have hh := fun i => (Blk.new w2 43 #[.int .i64 4, .int .i64 4, .int .i64 1, .int .u32 0, .string ⟨#[0, 0, 0, 0, 0, 0, 0, 0, 0, 0, 0, 0, 0, 0, 0, 0]⟩, .slice A 0 c, .slice Al 0 cl, .int .i64 2, .int .i64 2, .slice A0 n0 c0, .slice A1 n1 c1, .slice A2 n2 c2, .slice A3 n3 c3, .slice Am nm cm, .slice Af 3 cf]).cell i
 go_wp2_with fail
 clear hh
 refine (HBU.out _ (ext_alloc (Ext.rfl' w2) (.cells #[.int .i64 4, .int .i64 4, .int .i64 1, .int .u32 0, .string ⟨#[0, 0, 0, 0, 0, 0, 0, 0, 0, 0, 0, 0, 0, 0, 0, 0]⟩, .slice A 0 c, .slice Al 0 cl, .int .i64 2, .int .i64 2, .slice A0 n0 c0, .slice A1 n1 c1, .slice A2 n2 c2, .slice A3 n3 c3, .slice Am nm cm, .slice Af 3 cf] 43))).mono ?_
 rintro e w3 ⟨hE3, hok, _⟩
 obtain ⟨v, rfl, hO⟩ := hok may0 L HL.out
 replace HE := zh (ext_trans (ext_alloc HE.out (.cells #[.int .i64 4, .int .i64 4, .int .i64 1, .int .u32 0, .string ⟨#[0, 0, 0, 0, 0, 0, 0, 0, 0, 0, 0, 0, 0, 0, 0, 0]⟩, .slice A 0 c, .slice Al 0 cl, .int .i64 2, .int .i64 2, .slice A0 n0 c0, .slice A1 n1 c1, .slice A2 n2 c2, .slice A3 n3 c3, .slice Am nm cm, .slice Af 3 cf] 43)) hE3)
 clear hE3 hok HBU
 obtain ⟨xs, hxs⟩ : ∃ q, q = built (encH r0.x.hd) L (encT r0.tr) r0.N.toNat r0.K.toNat r0.fs := ⟨_, rfl⟩
 rw [← hxs] at HOP hO
 clear hxs HL
 obtain ⟨A4, c4, rfl, hn4, hc4, _, _⟩ := hO.shape
 have hB4 := (hO.bs HOP.out.rds.small).2
 obtain ⟨n4, hn⟩ : ∃ q, xs.length = q := ⟨_, rfl⟩
 rw [hn] at hO hn4 hB4 ⊢
 have HLN := zh hn
 have HOPN := zh (open_ok A4 n4 c4 xs r0 L b3 b4 iA w3 (HTB.out.ext HE.out) hB4 hn4 hc4 HOP.out)
 clear hO hn4 hc4 hB4 hn
 go_wp2_with fail
 refine (HOPN.out).mono ?_
 rintro e w4 ⟨f, rfl, hF, hE4⟩
 have HF := zh hF
 replace HE := zh (ext_trans HE.out hE4)
 clear hF hE4 HOPN
 have HFR : Hid (Calls Tryz.prog 14 #[.pointer (some ⟨f, 0, none⟩), .int .i64 1] w4 (DPost w4 [97, 98, 100])) := zh (frame_in f xs r0 L b3 b4 iA 1 w4 (HTB.out.ext HE.out) HF.out HOP.out (by decide))
 go_wp2_with fail
 refine (HFR.out).mono ?_
 intro e w5 hd
 obtain ⟨A5, c5, rfl, hB5, hE5⟩ := dpost_n hd 3 rfl
 replace HE := zh (ext_trans HE.out hE5)
 replace HF := zh (HF.out.ext hE5)
 have HB5 := zh hB5
 clear hd hB5 hE5 HFR
 have kcv := fun (w : World) (C : Array Value) (n c : Nat) => Lib.run_convert_bytes_const (P := Tryz.prog) w 48 5 C n c Tryz.underlying48 Tryz.underlying5
 go_wp2_with fail
 clear kcv
 have hea := ext_alloc (Ext.rfl' w5) (.cells #[.int .u8 97, .int .u8 98, .int .u8 99] 5 (3, 4))
 refine (show Calls Tryz.prog 13 #[.pointer (some ⟨f, 0, none⟩), .int .i64 1, .slice (some ⟨w5.heap.size, 0, none⟩) 3 3] (w5.alloc (.cells #[.int .u8 97, .int .u8 98, .int .u8 99] 5 (3, 4))) (DPost _ [97, 98, 100]) from delta_in f xs r0 L b3 b4 iA 1 _ 3 3 _ (HTB.out.ext (ext_trans HE.out hea)) (HF.out.ext hea) HOP.out (by decide) (by decide) (bs_abc w5 (3, 4)) (by decide)).mono ?_
 intro e w6 hd
 obtain ⟨A6, c6, rfl, hB6, hE6⟩ := dpost_n hd 3 rfl
 replace hE6 := ext_trans hea hE6
 replace HE := zh (ext_trans HE.out hE6)
 replace HF := zh (HF.out.ext hE6)
 replace HB5 := zh (HB5.out.ext hE6)
 have HB6 := zh hB6
 clear hd hB6 hE6 hea
 have HKY : Hid (Calls Tryz.prog 12 #[.pointer (some ⟨f, 0, none⟩), .int .i64 2] w6 (DPost w6 [120])) := zh (key_in f xs r0 L b3 b4 iA 2 w6 (HTB.out.ext HE.out) HF.out HOP.out (by decide) (by decide))
 go_wp2_with fail
 refine (HKY.out).mono ?_
 intro e w7 hd
 obtain ⟨A7, c7, rfl, hB7, hE7⟩ := dpost_n hd 1 rfl
 replace HE := zh (ext_trans HE.out hE7)
 replace HF := zh (HF.out.ext hE7)
 replace HB5 := zh (HB5.out.ext hE7)
 replace HB6 := zh (HB6.out.ext hE7)
 have HB7 := zh hB7
 clear hd hB7 hE7 HKY
 have HFO : Hid (Calls Tryz.prog 14 #[.pointer (some ⟨f, 0, none⟩), .int .i64 3] w7 (NPost w7 8)) := zh (frame_out f xs r0 b3 b4 iA 3 w7 HF.out (by decide))
 go_wp2_with fail
 refine (HFO.out).mono ?_
 rintro e w8 ⟨rfl, hE8⟩
 replace HE := zh (ext_trans HE.out hE8)
 have hsz := size_st f xs r0 b3 b4 iA w8 (HF.out.ext hE8)
 rw [HLN.out] at hsz
 have HSZ := zh hsz
 have q5 := conv8 (HB5.out.ext hE8) c5
 have q6 := conv8 (HB6.out.ext hE8) c6
 have q7 := conv8 (HB7.out.ext hE8) c7
 rw [str_abd] at q5 q6
 rw [str_x] at q7
 clear hE8 HFO hsz HF HB5 HB6 HB7
 go_wp2_with fail
 refine (HSZ.out).mono ?_
 rintro e w' ⟨rfl, rfl⟩
 go_wp2_with fail
 go_ret
 exact ⟨rfl, HE.out⟩
end Go.Proofs.YtidnboeihkeljaaGreatDoor.Fil
namespace Go.Proofs.YtidnboeihkeljaaGreatDoor.Fil
open Wire

theorem zero_tr (w : World) : (Instr.field 43 (.agg #[.int .i64 0, .int .i64 0, .int .i64 0, .int .u32 0, .string ⟨#[]⟩, .slice none 0 0, .slice none 0 0, .int .i64 0, .int .i64 0, .slice none 0 0, .slice none 0 0, .slice none 0 0, .slice none 0 0, .slice none 0 0, .slice none 0 0]) 4).run Tryz.prog w = .ok (.agg #[.slice none 0 0, .slice none 0 0, .slice none 0 0, .slice none 0 0, .slice none 0 0]) w := by kernel_rfl
theorem zero_n (w : World) : (Instr.field 43 (.agg #[.int .i64 0, .int .i64 0, .int .i64 0, .int .u32 0, .string ⟨#[]⟩, .slice none 0 0, .slice none 0 0, .int .i64 0, .int .i64 0, .slice none 0 0, .slice none 0 0, .slice none 0 0, .slice none 0 0, .slice none 0 0, .slice none 0 0]) 2).run Tryz.prog w = .ok (.int .i64 0) w := by kernel_rfl
theorem parts_nil (w : World) : Calls Tryz.prog 16 #[.pointer none] w fun e w' => e = .returned (.agg #[.int .i64 0, .int .i64 0, .int .i64 0, .int .u32 0, .string ⟨#[]⟩, .slice none 0 0, .slice none 0 0, .int .i64 0, .int .i64 0, .slice none 0 0, .slice none 0 0, .slice none 0 0, .slice none 0 0, .slice none 0 0, .slice none 0 0]) ∧ Ext w w' := by
 go_enter Tryz.func16, Tryz.ntmps16
 have HB := zh (Blk.new w 43 zPa)
 simp only [zPa] at HB
 have HE := zh (ext_alloc (Ext.rfl' w) (.cells zPa 43))
 simp only [zPa] at HE
 have z := fun i => HB.out.frozen i
 have y := fun i => HB.out.cell i
 go_wp2_with fail
 clear z y
 refine bodyPost_ret (results_cell_row Tryz.results16 _ _ w.heap.size 43 _ (0, 0) _ rfl HB.out Tryz.underlying43 rfl (by kernel_rfl)) rfl ?_
 exact ⟨rfl, HE.out⟩
theorem with_nil (w : World) : Calls Tryz.prog 15 #[.pointer none, .agg #[.slice none 0 0, .slice none 0 0, .slice none 0 0, .slice none 0 0, .slice none 0 0]] w (NPost w 1) := by
 have HE := zh (ext_alloc (Ext.rfl' w) (.cells #[.slice none 0 0, .slice none 0 0, .slice none 0 0, .slice none 0 0, .slice none 0 0] 40))
 go_enter Tryz.func15, Tryz.ntmps15
 go_wp2_with fail
 go_ret2
 exact ⟨rfl, HE.out⟩
theorem fileNil (t : Int) (w : World) (hT : Crc.Tab w) : Calls Tryz.prog 4 #[.int .i64 t] w fun e w' => e = .returned (.bool true) ∧ Ext w w' := by
 have HTB := zh hT
 clear hT
 go_enter Tryz.func4, Tryz.ntmps4
 have HK := zh (key_nil t w)
 go_wp2_with fail
 refine (HK.out).mono ?_
 rintro e w1 ⟨rfl, hE⟩
 have HE := zh hE
 clear hE
 have HD := zh (delta_nil t (.slice none 0 0) w1)
 go_wp2_with fail
 refine (HD.out).mono ?_
 rintro e w2 ⟨rfl, hE⟩
 replace HE := zh (ext_trans HE.out hE)
 clear hE
 have HF := zh (frame_nil t w2)
 go_wp2_with fail
 refine (HF.out).mono ?_
 rintro e w3 ⟨rfl, hE⟩
 replace HE := zh (ext_trans HE.out hE)
 clear hE
 have HP := zh (parts_nil w3)
 go_wp2_with fail
 refine (HP.out).mono ?_
 rintro e w4 ⟨rfl, hE⟩
 replace HE := zh (ext_trans HE.out hE)
 clear hE
 have HW := zh (with_nil w4)
 have z4 := fun (w : World) => zero_tr w
 go_wp2_with fail
 refine (HW.out).mono ?_
 rintro e w5 ⟨rfl, hE⟩
 replace HE := zh (ext_trans HE.out hE)
 clear hE
 clear z4
 have HS := zh (size_nil w5)
 go_wp2_with fail
 refine (HS.out).mono ?_
 rintro e w5' ⟨rfl, rfl⟩
 have HQ := zh (parts_nil w5)
 go_wp2_with fail
 refine (HQ.out).mono ?_
 rintro e w6 ⟨rfl, hE⟩
 replace HE := zh (ext_trans HE.out hE)
 clear hE
 have z2 := fun (w : World) => zero_n w
 have HX := zh (wakes_st w6 (HTB.out.ext HE.out))
 go_wp2_with fail
 refine (HX.out).mono ?_
 rintro e w7 ⟨rfl, hE⟩
 go_wp2_with fail
 go_ret
 exact ⟨rfl, ext_trans HE.out hE⟩
end Go.Proofs.YtidnboeihkeljaaGreatDoor.Fil
