
import Derived.Test.YtidnboeihkeljaaGreatDoorLogO
import Derived.StillTailTactics
import Derived.BigQuiet
import Derived.OrdersHeld
import Derived.Deep.RegionHeld
set_option maxHeartbeats 16000000
set_option maxRecDepth 100000
set_option linter.all false
open Go.ChangeShapes Go.WideShapes Go.ChangeAt Go.RowKit
namespace Go.Proofs.YtidnboeihkeljaaGreatDoor.Log
open Wire
open Rec

theorem hmxL : Tryz.prog.follows .mixedOrders = true := by kernel_rfl
def SE (w : World) : World → Prop := fun w' => Ext w w'
def VRel (w : World) (evs : List Ev) (gh : Nat) (ov iv : Value) (wr : World) : Prop :=
 ∃ (k : Nat), k + gh = evs.length ∧ iv = .int .i64 (k : Int) ∧ OwnR w.heap.size wr 104 7 cV ov (evs.take k) ∧ Ext w wr
theorem of_law (A : Option Addr) (m c : Nat) (evs : List Ev) (w : World) (hB : RowR w A m 7 cV evs) (hm : m ≤ 1000000) :
  Calls Tryz.prog 23 #[.slice A m c] w fun e w' => ∃ v, e = .returned v ∧ OwnR w.heap.size w' 104 7 cV v evs ∧ Ext w w' := by
 have HB := Lib.hid hB; have HLEN := Lib.hid hB.1
 clear hB
 go_enter Tryz.func23, Tryz.ntmps23
 go_wp2_with fail
 go_loopg [3, 4] m (fun gh ov iv wr => VRel w evs gh ov iv wr)
 case atStart => exact ⟨0, by rw [HLEN.out]; omega, rfl, by simpa using OwnR.nil _ _ _ _ _, Ext.rfl' _⟩
 case round =>
  obtain ⟨k, hk, rfl, hO, hE⟩ := hrel
  obtain ⟨wi, rfl⟩ : ∃ wi : World, wi = wr := ⟨_, rfl⟩
  obtain ⟨vi, rfl⟩ : ∃ vi : Value, vi = u3 := ⟨_, rfl⟩
  obtain ⟨gh, rfl⟩ : ∃ gh : Nat, gh = gk := ⟨_, rfl⟩
  have HO := Lib.hid hO; have HE := Lib.hid hE
  have hkm : k + gh = m := by rw [hk, HLEN.out]
  clear hO hE hk
  have y1 : (0 : Int) ≤ (k : Int) := by omega
  by_cases hlt : k < m
  ·have hke : k < evs.length := by rw [HLEN.out]; exact hlt
   obtain ⟨b, o, rfl, hbw, hc⟩ := HB.out.2 (by omega)
   have hcx := hc k hke
   have htk : evs.take (k + 1) = evs.take k ++ [evs[k]] := (List.take_append_getElem hke).symm
   obtain ⟨x, hx⟩ : ∃ x, x = evs[k] := ⟨_, rfl⟩
   rw [← hx] at hcx htk
   have HTK := Lib.hid htk
   obtain ⟨x0, x1, x2, x3, x4, x5, x6⟩ := x
   have HCC : Hid (∀ w', SE w w' → w'.cell? ⟨b, o + k * 7, none⟩ = some (.int .i64 x0) ∧ w'.cell? ⟨b, o + k * 7 + 1, none⟩ = some (.int .u8 (x1 : Int)) ∧ w'.cell? ⟨b, o + k * 7 + 2, none⟩ = some (.int .u8 (x2 : Int)) ∧ w'.cell? ⟨b, o + k * 7 + 3, none⟩ = some (.int .u16 (x3 : Int)) ∧ w'.cell? ⟨b, o + k * 7 + 4, none⟩ = some (.int .u16 (x4 : Int)) ∧ w'.cell? ⟨b, o + k * 7 + 5, none⟩ = some (.int .u16 (x5 : Int)) ∧ w'.cell? ⟨b, o + k * 7 + 6, none⟩ = some (.int .u8 (x6 : Int))) := Lib.hid (fun w' e =>
    ⟨(Below.cell e (p := ⟨b, o + k * 7 + 0, none⟩) hbw).trans (hcx 0 (by omega)), (Below.cell e (p := ⟨b, o + k * 7 + 1, none⟩) hbw).trans (hcx 1 (by omega)), (Below.cell e (p := ⟨b, o + k * 7 + 2, none⟩) hbw).trans (hcx 2 (by omega)), (Below.cell e (p := ⟨b, o + k * 7 + 3, none⟩) hbw).trans (hcx 3 (by omega)), (Below.cell e (p := ⟨b, o + k * 7 + 4, none⟩) hbw).trans (hcx 4 (by omega)), (Below.cell e (p := ⟨b, o + k * 7 + 5, none⟩) hbw).trans (hcx 5 (by omega)), (Below.cell e (p := ⟨b, o + k * 7 + 6, none⟩) hbw).trans (hcx 6 (by omega))⟩)
   have y2 : (k : Int) < (m : Int) := by omega
   clear hc hcx hx hke htk
   go_upto_region 5 with fail
   have HX := Lib.hid (show SE w wi.drew from ext_drew HE.out)
   have HOA := Lib.hid (HO.out.ext (ext_drew (Ext.rfl' wi)))
   have HDL : Hid ((evs.take k).length ≤ 100000000) := Lib.hid (by rw [List.length_take]; omega)
   refine wp_region_held_drew (S := SE w) hmxL HX.out (fun _ => ?_)
   generalize wi.drew = WA at *
   clear HO HE
   (refine wpAnyH_take (i := 0) (v := ?_) rfl (by kernel_rfl) (by kernel_rfl) (by kernel_rfl) (fun _ _ _ h => h) (Or.inl ⟨by rfl, ?_⟩) HX.out ?_); rotate_left
   ·(intro w' hSw; obtain ⟨c0, c1, c2, c3, c4, c5, c6⟩ := HCC.out w' hSw; go_simp; try with_reducible rfl)
   (try simp only [Act.put, zzA, zzB, zzC])
   (refine wpAnyH_take (i := 1) (v := ?_) rfl (by kernel_rfl) (by kernel_rfl) (by kernel_rfl) (fun _ _ _ h => h) (Or.inl ⟨by rfl, ?_⟩) HX.out ?_); rotate_left
   ·(intro w' hSw; obtain ⟨c0, c1, c2, c3, c4, c5, c6⟩ := HCC.out w' hSw; go_simp; try with_reducible rfl)
   (try simp only [Act.put, zzA, zzB, zzC])
   (refine wpAnyH_take (i := 2) (v := ?_) rfl (by kernel_rfl) (by kernel_rfl) (by kernel_rfl) (fun _ _ _ h => h) (Or.inl ⟨by rfl, ?_⟩) HX.out ?_); rotate_left
   ·(intro w' hSw; obtain ⟨c0, c1, c2, c3, c4, c5, c6⟩ := HCC.out w' hSw; go_simp; try with_reducible rfl)
   (try simp only [Act.put, zzA, zzB, zzC])
   (refine wpAnyH_take (i := 3) (v := ?_) rfl (by kernel_rfl) (by kernel_rfl) (by kernel_rfl) (fun _ _ _ h => h) (Or.inl ⟨by rfl, ?_⟩) HX.out ?_); rotate_left
   ·(intro w' hSw; obtain ⟨c0, c1, c2, c3, c4, c5, c6⟩ := HCC.out w' hSw; go_simp; try with_reducible rfl)
   (try simp only [Act.put, zzA, zzB, zzC])
   (refine wpAnyH_take (i := 4) (v := ?_) rfl (by kernel_rfl) (by kernel_rfl) (by kernel_rfl) (fun _ _ _ h => h) (Or.inl ⟨by rfl, ?_⟩) HX.out ?_); rotate_left
   ·(intro w' hSw; obtain ⟨c0, c1, c2, c3, c4, c5, c6⟩ := HCC.out w' hSw; go_simp; try with_reducible rfl)
   (try simp only [Act.put, zzA, zzB, zzC])
   (refine wpAnyH_take (i := 5) (v := ?_) rfl (by kernel_rfl) (by kernel_rfl) (by kernel_rfl) (fun _ _ _ h => h) (Or.inl ⟨by rfl, ?_⟩) HX.out ?_); rotate_left
   ·(intro w' hSw; obtain ⟨c0, c1, c2, c3, c4, c5, c6⟩ := HCC.out w' hSw; go_simp; try with_reducible rfl)
   (try simp only [Act.put, zzA, zzB, zzC])
   (refine wpAnyH_take (i := 6) (v := ?_) rfl (by kernel_rfl) (by kernel_rfl) (by kernel_rfl) (fun _ _ _ h => h) (Or.inl ⟨by rfl, ?_⟩) HX.out ?_); rotate_left
   ·(intro w' hSw; obtain ⟨c0, c1, c2, c3, c4, c5, c6⟩ := HCC.out w' hSw; go_simp; try with_reducible rfl)
   (try simp only [Act.put, zzA, zzB, zzC])
   (refine wpAnyH_take (i := 7) (v := ?_) rfl (by kernel_rfl) (by kernel_rfl) (by kernel_rfl) (fun _ _ _ h => h) (Or.inl ⟨by rfl, ?_⟩) HX.out ?_); rotate_left
   ·(intro w' hSw; obtain ⟨c0, c1, c2, c3, c4, c5, c6⟩ := HCC.out w' hSw; go_simp; try with_reducible rfl)
   (try simp only [Act.put, zzA, zzB, zzC])
   (refine wpAnyH_take (i := 8) (v := ?_) rfl (by kernel_rfl) (by kernel_rfl) (by kernel_rfl) (fun _ _ _ h => h) (Or.inl ⟨by rfl, ?_⟩) HX.out ?_); rotate_left
   ·(intro w' hSw; obtain ⟨c0, c1, c2, c3, c4, c5, c6⟩ := HCC.out w' hSw; go_simp; try with_reducible rfl)
   (try simp only [Act.put, zzA, zzB, zzC])
   (refine wpAnyH_take (i := 9) (v := ?_) rfl (by kernel_rfl) (by kernel_rfl) (by kernel_rfl) (fun _ _ _ h => h) (Or.inl ⟨by rfl, ?_⟩) HX.out ?_); rotate_left
   ·(intro w' hSw; obtain ⟨c0, c1, c2, c3, c4, c5, c6⟩ := HCC.out w' hSw; go_simp; try with_reducible rfl)
   (try simp only [Act.put, zzA, zzB, zzC])
   (refine wpAnyH_take (i := 10) (v := ?_) rfl (by kernel_rfl) (by kernel_rfl) (by kernel_rfl) (fun _ _ _ h => h) (Or.inl ⟨by rfl, ?_⟩) HX.out ?_); rotate_left
   ·(intro w' hSw; obtain ⟨c0, c1, c2, c3, c4, c5, c6⟩ := HCC.out w' hSw; go_simp; try with_reducible rfl)
   (try simp only [Act.put, zzA, zzB, zzC])
   (refine wpAnyH_take (i := 11) (v := ?_) rfl (by kernel_rfl) (by kernel_rfl) (by kernel_rfl) (fun _ _ _ h => h) (Or.inl ⟨by rfl, ?_⟩) HX.out ?_); rotate_left
   ·(intro w' hSw; obtain ⟨c0, c1, c2, c3, c4, c5, c6⟩ := HCC.out w' hSw; go_simp; try with_reducible rfl)
   (try simp only [Act.put, zzA, zzB, zzC])
   refine wpAnyH_ready (rs := [12]) (by kernel_rfl) (by simp) ?_
   refine AllReadyH.cons (o := ⟨some 23, .buildSlice 35 1 #[(0, .tmp 22)], 35, "law.go:27", #[⟨11, .data⟩], none⟩) (by kernel_rfl) (fun K hK => ?_) AllReadyH.nil
   go_simp
   have HX := Lib.hid (show SE w (WA.alloc (.cells (cV ⟨x0, x1, x2, x3, x4, x5, x6⟩).toArray 104)) from ext_alloc HX.out _)
   refine hK.out _ _ HX.out (fun _ => ?_)
   clear hK K
   (try simp only [Act.put, zzA, zzB, zzC])
   refine wpAnyH_ready (rs := [13]) (by kernel_rfl) (by simp) ?_
   refine AllReadyH.cons (o := ⟨some 24, .call { callee := .builtin .append, args := #[.tmp 11, .tmp 23], argTypes := #[35, 35] }, 35, "law.go:27", #[⟨0, .data⟩, ⟨12, .data⟩], none⟩) (by kernel_rfl) (fun K hK => ?_) AllReadyH.nil
   have HSRC := Lib.hid (src_rec (P := Tryz.prog) (e' := 104) Tryz.underlying35 WA (cV ⟨x0, x1, x2, x3, x4, x5, x6⟩) rfl (by intro u hu; simp [cV] at hu; rcases hu with rfl | rfl | rfl | rfl | rfl | rfl | rfl <;> rfl) 1)
   obtain ⟨v3, w3, hrun, hO3, hG3⟩ := run_rec (P := Tryz.prog) (base := w.heap.size) 35 104 35 7 24 _ cV Tryz.underlying35 infoE rfl (by decide) vi _ (evs.take k) ⟨x0, x1, x2, x3, x4, x5, x6⟩ (HOA.out.ext (ext_alloc (Ext.rfl' WA) (.cells (cV ⟨x0, x1, x2, x3, x4, x5, x6⟩).toArray 104))) HX.out.size HSRC.out HDL.out
   have HRUN := Lib.hid hrun; have HO3 := Lib.hid hO3
   have HX := Lib.hid (show SE w w3 from ext_grown HX.out hG3 (fun q e => (World.ownsRow.lt HOA.out q e).1))
   clear hrun hO3 hG3
   refine wanted_append rfl (.tmp 11) (.tmp 23) 35 35 rfl vi _ rfl rfl HRUN.out ?_
   refine hK.out _ _ HX.out (fun _ => ?_)
   clear hK K
   (try simp only [Act.put, zzA, zzB, zzC])
   (refine wpAnyH_take (i := 14) (v := ?_) rfl (by kernel_rfl) (by kernel_rfl) (by kernel_rfl) (fun _ _ _ h => h) (Or.inl ⟨by rfl, ?_⟩) HX.out ?_); rotate_left
   ·(intro w' hSw; obtain ⟨c0, c1, c2, c3, c4, c5, c6⟩ := HCC.out w' hSw; go_simp; try with_reducible rfl)
   (try simp only [Act.put, zzA, zzB, zzC])
   refine wpAnyH_done (by kernel_rfl) ?_ _
   go_wp2_with fail
   go_roundg (gh - 1)
   case measure => omega
   case rel =>
    refine ⟨k + 1, by rw [HLEN.out]; omega, by go_num, by rw [HTK.out]; exact HO3.out, HX.out⟩
  ·obtain rfl : gh = 0 := by omega
   obtain rfl : k = m := by omega
   have y2 : ¬ (k : Int) < (k : Int) := by omega
   go_wp2_with fail
   go_ret
   exact ⟨_, rfl, by have := HO.out; rwa [List.take_of_length_le (by rw [HLEN.out]; omega)] at this, HE.out⟩
end Go.Proofs.YtidnboeihkeljaaGreatDoor.Log
namespace Go.Proofs.YtidnboeihkeljaaGreatDoor.Log
open Wire
open Rec

end Go.Proofs.YtidnboeihkeljaaGreatDoor.Log
namespace Go.Proofs.YtidnboeihkeljaaGreatDoor.Log
open Wire
open Rec
open Grid (okm)

theorem hE1o {a b c : World} (h : Ext a b) (k : Ext b c) : Ext a c := ext_trans h k
theorem header_st (x : Hv) (A : Option Addr) (m c : Nat) (w : World) (hB : RowR w A m 3 cS x.starts) (hf : ∀ u ∈ x.starts, u.fits) (hs : x.tiles.size ≤ 5000) (hm : m ≤ 1000000) (hsd : x.seed < 4294967296)
  (hw1 : -9223372036854775808 ≤ x.w) (hw2 : x.w ≤ 9223372036854775807) (hh1 : -9223372036854775808 ≤ x.h) (hh2 : x.h ≤ 9223372036854775807) :
  Calls Tryz.prog 25 #[.agg (cH x (.slice A m c))] w (HdPost w x) := by
 have HMY := Lib.hid (fun (w' : World) (e : Ext w w') => may_st x A m c w' (hB.ext e) hf hs hm hw1 hw2 hh1 hh2)
 have HB := Lib.hid hB
 have HLEN := Lib.hid hB.1
 have HE0 := Lib.hid (ext_alloc (Ext.rfl' w) (.cells (cH x (.slice A m c)) 25))
 have HFI := Lib.hid (fun u hu => (hf u hu).1)
 clear hB hf hw1 hw2 hh1 hh2
 by_cases hmay : mayH x
 ·have HMAY := Lib.hid hmay
  rw [decide_eq_true hmay] at HMY
  obtain ⟨⟨o1, o2, o3, o4, o5, o6⟩, p1, p4, p8, hmb⟩ := hmay
  have HTI := Lib.hid (mayB_tiles _ _ _ _ hmb)
  have HHD : Hid (encH x.hd = vb x.w.toNat ++ (vb x.h.toNat ++ (vb x.players.toNat ++ (fx x.seed ++ (vb (natsOf x.tiles).length ++ (natsOf x.tiles ++ (vb (x.starts.map Sv.st).length ++ encS (x.starts.map Sv.st)))))))) := Lib.hid rfl
  obtain ⟨xw, xh, xp, xs, xt, us⟩ := x
  simp only at *
  obtain ⟨W, rfl⟩ : ∃ W : Nat, xw = (W : Int) := ⟨xw.toNat, by omega⟩
  obtain ⟨H, rfl⟩ : ∃ H : Nat, xh = (H : Int) := ⟨xh.toNat, by omega⟩
  obtain ⟨p, rfl⟩ : ∃ p : Nat, xp = (p : Int) := ⟨xp.toNat, by omega⟩
  simp only [Int.toNat_natCast] at HHD
  rw [natsOf_len, List.length_map, HLEN.out] at HHD
  have g1 : W < 1000000 := by omega
  have g2 : H < 1000000 := by omega
  have g3 : p < 1000000 := by omega
  have g4 : m ≤ 128 := by have := HLEN.out; omega
  clear o1 o2 o3 o4 o5 o6 p1 p4 p8 hmb
  unfold cH at HMY HE0 ⊢
  simp only at HMY HE0 ⊢
  have HH0 := Lib.hid (Blk.new w 25 #[.int .i64 (W : Int), .int .i64 (H : Int), .int .i64 (p : Int), .int .u32 (xs : Int), .string xt, .slice A m c])
  go_enter Tryz.func25, Tryz.ntmps25
  go_wp2_with fail
  refine (HMY.out _ HE0.out).mono ?_
  rintro e w1 ⟨rfl, hE1⟩
  have HH1 := Lib.hid (HH0.out.ext hE1)
  have HE1 := Lib.hid (ext_trans HE0.out hE1)
  have h1c := fun i => HH1.out.cell i
  have hl1 : w.heap.size < w1.heap.size := HH1.out.lt
  clear hE1 HMY HE0 HH0
  have HI0 := Lib.hid (Blk.new w1 3 #[.int .i64 (W : Int), .int .i64 (H : Int), .int .i64 (p : Int)])
  have HR0 : Hid (NRel w1 [] [W, H, p] w1.heap.size #[.int .i64 (W : Int), .int .i64 (H : Int), .int .i64 (p : Int)] 3 (.slice none 0 0) (.int .i64 ((0 : Nat) : Int)) (w1.alloc (.cells #[.int .i64 (W : Int), .int .i64 (H : Int), .int .i64 (p : Int)] 3))) :=
   Lib.hid ⟨0, rfl, rfl, OwnB.nil _ _, HI0.out, (by intro h; cases h), ext_alloc (Ext.rfl' _) _⟩
  go_upto_region 5 with fail
  go_loopg [4, 22] 3 (fun gh bv iv wr => NRel w1 [] [W, H, p] w1.heap.size #[.int .i64 (W : Int), .int .i64 (H : Int), .int .i64 (p : Int)] gh bv iv wr)
  case atStart => exact HR0.out
  case round =>
   obtain ⟨k, hk, rfl, hO, hI, hF, hE⟩ := hrel
   obtain ⟨wi, rfl⟩ : ∃ wi : World, wi = wr := ⟨_, rfl⟩
   obtain ⟨vi, rfl⟩ : ∃ vi : Value, vi = u4 := ⟨_, rfl⟩
   obtain ⟨gh, rfl⟩ : ∃ gh : Nat, gh = gk := ⟨_, rfl⟩
   have HO := Lib.hid hO; have HI := Lib.hid hI; have HF := Lib.hid hF; have HE := Lib.hid hE
   clear hO hI hF hE HR0 HI0 h1c
   have i1 : (0 : Int) ≤ (k : Int) := by omega
   by_cases hl3 : k < 3
   ·obtain ⟨y, hy1, hy2, hy3⟩ := ints3 W H p g1 g2 g3 k hl3
    have HY3 := Lib.hid hy3
    have cy := HI.out.cell k
    rw [hy2] at cy
    have i2 : (k : Int) < 3 := by omega
    have HPY := Lib.hid (fun w' => put_nil y (by omega) w')
    clear hy2 hy3
    go_wp2_with fail
    refine (HPY.out wi).mono ?_
    rintro e w8 ⟨v8, rfl, hsrc8, hO8', hE8⟩
    have HSRC := Lib.hid hsrc8
    have HO8 := Lib.hid (HO.out.ext hE8)
    have HI8 := Lib.hid (HI.out.ext hE8)
    have HE8 := Lib.hid (ext_trans HE.out hE8)
    clear hsrc8 hO8' hE8 cy
    have HLZ : Hid ((([] : List Nat) ++ ([W, H, p].take k).flatMap vb).length + (vb y).length ≤ 140737488355328) := Lib.hid (by
     have q2 := vb_ten (n := y) (by omega)
     have q3 := flat3i_len W H p g1 g2 g3 k
     simp only [List.length_append, List.length_nil]
     omega)
    go_wp2_with (at_builtin; refine wpList_b rfl (.tmp 26) (.tmp 29) 48 rfl vi v8 ([] ++ ([W, H, p].take k).flatMap vb) (vb y) rfl rfl HO8.out HE8.out.size HSRC.out HLZ.out ?_; intro vC wC hOC hGC; have HOC := Lib.hid hOC; have HGC := Lib.hid hGC; clear hOC hGC)
    go_roundg (gh - 1)
    case measure => omega
    case rel =>
     refine ⟨k + 1, by omega, by go_num, ?_, HGC.out.blk HF.out HI8.out, HGC.out.off HF.out HI8.out.lt, HGC.out.ext HE8.out HO8.out (Nat.le_refl _)⟩
     rw [HY3.out, ← List.append_assoc]
     exact HOC.out
   ·obtain rfl : k = 3 := by omega
    have i2 : ¬ ((3 : Nat) : Int) < 3 := by omega
    have hH := HH1.out.ext HE.out
    have hHc := fun i => hH.cell i
    have hZ : ([] : List Nat) ++ ([W, H, p].take 3).flatMap vb = vb W ++ (vb H ++ vb p) := by simp
    rw [hZ] at HO
    clear hZ hH HI HF
    have HPF := Lib.hid (fun w' => put_fixed_nil xs hsd w')
    have HPT := Lib.hid (fun w' => put_text_nil xt (by omega) w')
    have HPM := Lib.hid (fun w' => put_nil m (by omega) w')
    have l1 := vb_ten (n := W) (by omega)
    have l2 := vb_ten (n := H) (by omega)
    have l3 := vb_ten (n := p) (by omega)
    have l4 := vb_ten (n := xt.size) (by omega)
    have l5 := vb_ten (n := m) (by omega)
    have l6 : (fx xs).length = 4 := rfl
    have l7 := natsOf_len xt
    have HL := Lib.hid (And.intro l1 (And.intro l2 (And.intro l3 (And.intro l4 (And.intro l5 (And.intro l6 l7))))))
    clear l1 l2 l3 l4 l5 l6 l7
    go_wp2_with fail
    refine (HPF.out wi).mono ?_
    rintro e w2 ⟨v2, rfl, hsrc, hE2⟩
    have HSRC := Lib.hid hsrc
    have HO2 := Lib.hid (HO.out.ext hE2)
    have HE2 := Lib.hid (ext_trans HE.out hE2)
    have HLZ : Hid ((vb W ++ (vb H ++ vb p)).length + (fx xs).length ≤ 140737488355328) := Lib.hid (by
     obtain ⟨l1, l2, l3, l4, l5, l6, l7⟩ := HL.out
     simp only [List.length_append]; omega)
    clear hsrc hE2 hHc HO HE
    go_upto_region 10 with (at_builtin; refine wpList_b rfl (.tmp 32) (.tmp 35) 48 rfl vi v2 (vb W ++ (vb H ++ vb p)) (fx xs) rfl rfl HO2.out HE2.out.size HSRC.out HLZ.out ?_; intro v3 w3 hO3 hG3; have HO3 := Lib.hid hO3; have HG3 := Lib.hid hG3; clear hO3 hG3)
    have HE3 := Lib.hid (HG3.out.ext HE2.out HO2.out (Nat.le_refl _))
    have hH := HH1.out.ext HE3.out
    have hHc := fun i => hH.cell i
    clear hH HSRC HO2 HE2 HLZ HG3
    go_wp2_with fail
    refine (HPT.out w3).mono ?_
    rintro e w4 ⟨v4, rfl, hsrc, hE4⟩
    have HSRC := Lib.hid hsrc
    have HO4 := Lib.hid (HO3.out.ext hE4)
    have HE4 := Lib.hid (ext_trans HE3.out hE4)
    have HLZ : Hid ((vb W ++ (vb H ++ vb p) ++ fx xs).length + (vb xt.size ++ natsOf xt).length ≤ 140737488355328) := Lib.hid (by
     obtain ⟨l1, l2, l3, l4, l5, l6, l7⟩ := HL.out
     simp only [List.length_append]; omega)
    clear hsrc hE4 hHc HO3 HE3
    go_upto_region 11 with (at_builtin; refine wpList_b rfl (.tmp 37) (.tmp 40) 48 rfl v3 v4 (vb W ++ (vb H ++ vb p) ++ fx xs) (vb xt.size ++ natsOf xt) rfl rfl HO4.out HE4.out.size HSRC.out HLZ.out ?_; intro v5 w5 hO5 hG5; have HO5 := Lib.hid hO5; have HG5 := Lib.hid hG5; clear hO5 hG5)
    have HE5 := Lib.hid (HG5.out.ext HE4.out HO4.out (Nat.le_refl _))
    have hH := HH1.out.ext HE5.out
    have hHc := fun i => hH.cell i
    clear hH HSRC HO4 HE4 HLZ HG5
    go_wp2_with fail
    refine (HPM.out w5).mono ?_
    rintro e w6 ⟨v6, rfl, hsrc, _, hE6⟩
    have HSRC := Lib.hid hsrc
    have HO6 := Lib.hid (HO5.out.ext hE6)
    have HE6 := Lib.hid (ext_trans HE5.out hE6)
    have HLZ : Hid ((vb W ++ (vb H ++ vb p) ++ fx xs ++ (vb xt.size ++ natsOf xt)).length + (vb m).length ≤ 140737488355328) := Lib.hid (by
     obtain ⟨l1, l2, l3, l4, l5, l6, l7⟩ := HL.out
     simp only [List.length_append]; omega)
    clear hsrc hE6 hHc HO5 HE5
    go_upto_region 12 with (at_builtin; refine wpList_b rfl (.tmp 42) (.tmp 47) 48 rfl v5 v6 (vb W ++ (vb H ++ vb p) ++ fx xs ++ (vb xt.size ++ natsOf xt)) (vb m) rfl rfl HO6.out HE6.out.size HSRC.out HLZ.out ?_; intro v7 w7 hO7 hG7; have HO7 := Lib.hid hO7; have HG7 := Lib.hid hG7; clear hO7 hG7)
    have HE7 := Lib.hid (HG7.out.ext HE6.out HO6.out (Nat.le_refl _))
    have hH := HH1.out.ext HE7.out
    have hHc := fun i => hH.cell i
    have HUR : Hid (URel w1 (us.map Sv.st) (encH (Hv.hd ⟨(W : Int), (H : Int), (p : Int), xs, xt, us⟩)) m v7 (.int .i64 ((0 : Nat) : Int)) w7) := Lib.hid <| by
     refine ⟨0, _, by rw [List.length_map, HLEN.out]; omega, rfl, HO7.out, ?_, HE7.out, ?_⟩
     ·obtain ⟨l1, l2, l3, l4, l5, l6, l7⟩ := HL.out
      simp only [List.length_append]; omega
     ·rw [HHD.out]; simp only [List.append_assoc, List.drop_zero]
    clear hH HSRC HO6 HE6 HLZ HG7
    obtain ⟨T, hT⟩ : ∃ T, T = encH (Hv.hd ⟨(W : Int), (H : Int), (p : Int), xs, xt, us⟩) := ⟨_, rfl⟩
    rw [← hT] at HUR
    have HT := Lib.hid hT; clear hT HHD HL
    go_wp2_with fail
    go_loopg [4, 52] m (fun gh bv iv wr => URel w1 (us.map Sv.st) T gh bv iv wr)
    case atStart => exact HUR.out
    case round =>
     obtain ⟨k, zs, hk, rfl, hO, hzl, hE, hTT⟩ := hrel
     obtain ⟨wo, rfl⟩ : ∃ wo : World, wo = wr := ⟨_, rfl⟩
     obtain ⟨vo, rfl⟩ : ∃ vo : Value, vo = u4 := ⟨_, rfl⟩
     obtain ⟨gh, rfl⟩ : ∃ gh : Nat, gh = gk := ⟨_, rfl⟩
     have hkm : k + gh = m := by rw [hk, List.length_map, HLEN.out]
     have HO := Lib.hid hO; have HE := Lib.hid hE; have HTT := Lib.hid hTT
     clear hO hE hTT HUR HO7 HE7 hHc hk
     have y1 : (0 : Int) ≤ (k : Int) := by omega
     by_cases hlt : k < m
     ·have hke : k < us.length := by rw [HLEN.out]; exact hlt
      obtain ⟨b, o, rfl, hbw, hc⟩ := HB.out.2 (by omega)
      have hti := HTI.out us[k] (List.getElem_mem hke)
      have hcx := hc k hke
      have hd : (us.map Sv.st).drop k = Sv.st us[k] :: (us.map Sv.st).drop (k + 1) := by
       rw [List.drop_eq_getElem_cons (by rw [List.length_map]; exact hke), List.getElem_map]
      obtain ⟨u, hu⟩ : ∃ u, u = us[k] := ⟨_, rfl⟩
      rw [← hu] at hd hti hcx
      obtain ⟨u1, u2, u3⟩ := u
      obtain ⟨t1, t2, t3⟩ := hti
      simp only at t1 t2 t3
      obtain ⟨t, rfl⟩ : ∃ t : Nat, u3 = (t : Int) := ⟨u3.toNat, by omega⟩
      rw [Int.toNat_natCast] at t2
      have hu1 := HFI.out us[k] (List.getElem_mem hke)
      rw [← hu] at hu1
      simp only at hu1
      have e1 := hE1o HE1.out HE.out
      have c0 := (e1.cell (p := ⟨b, o + k * 3 + 0, none⟩) hbw).trans (hcx 0 (by omega)); have c1 := (e1.cell (p := ⟨b, o + k * 3 + 1, none⟩) hbw).trans (hcx 1 (by omega)); have c2 := (e1.cell (p := ⟨b, o + k * 3 + 2, none⟩) hbw).trans (hcx 2 (by omega))
      simp only [cS, Nat.add_zero, List.getElem?_cons_zero, List.getElem?_cons_succ] at c0 c1 c2
      have HTT2 : Hid (T = (zs ++ (vb u1 ++ (vb u2 ++ vb t))) ++ encS ((us.map Sv.st).drop (k + 1))) := Lib.hid (by
       rw [HTT.out, hd, encS]
       simp only [Sv.st, Int.toNat_natCast, List.append_assoc])
      clear hc hcx hu hd hke e1 HTT
      have y2 : (k : Int) < (m : Int) := by omega
      have k1 : u1 < 1000000 := by omega
      have k2 : u2 < 1000000 := by omega
      have k3 : t < 1000000 := by omega
      have HEA := Lib.hid (ext_alloc (ext_alloc (Ext.rfl' wo) (.cells #[.int .u8 (u1 : Int), .int .u8 (u2 : Int), .int .i64 (t : Int)] 99)) (.cells #[.int .i64 (u1 : Int), .int .i64 (u2 : Int), .int .i64 (t : Int)] 3))
      have HI0 := Lib.hid (Blk.new1 wo (.cells #[.int .u8 (u1 : Int), .int .u8 (u2 : Int), .int .i64 (t : Int)] 99) 3 #[.int .i64 (u1 : Int), .int .i64 (u2 : Int), .int .i64 (t : Int)])
      have HNR : Hid (NRel w1 zs [u1, u2, t] (wo.heap.size + 1) #[.int .i64 (u1 : Int), .int .i64 (u2 : Int), .int .i64 (t : Int)] 3 vo (.int .i64 ((0 : Nat) : Int)) ((wo.alloc (.cells #[.int .u8 (u1 : Int), .int .u8 (u2 : Int), .int .i64 (t : Int)] 99)).alloc (.cells #[.int .i64 (u1 : Int), .int .i64 (u2 : Int), .int .i64 (t : Int)] 3))) :=
       Lib.hid ⟨0, rfl, rfl, by simpa using HO.out.ext HEA.out, HI0.out, off_new HO.out (.inl (by omega)), ext_trans HE.out HEA.out⟩
      go_wp2_with fail
      go_loopg [4, 66] 3 (fun gh bv iv wr => NRel w1 zs [u1, u2, t] (wo.heap.size + 1) #[.int .i64 (u1 : Int), .int .i64 (u2 : Int), .int .i64 (t : Int)] gh bv iv wr)
      case atStart => exact HNR.out
      case round =>
       obtain ⟨q, hq, rfl, hO, hI, hF, hE⟩ := hrel
       obtain ⟨wj, rfl⟩ : ∃ wj : World, wj = wr := ⟨_, rfl⟩
       obtain ⟨vj, rfl⟩ : ∃ vj : Value, vj = u4 := ⟨_, rfl⟩
       obtain ⟨gh2, rfl⟩ : ∃ gh : Nat, gh = gk := ⟨_, rfl⟩
       have HOJ := Lib.hid hO; have HI := Lib.hid hI; have HF := Lib.hid hF; have HEJ := Lib.hid hE
       clear hO hI hF hE HNR HI0 HEA HO c0 c1 c2
       have i1 : (0 : Int) ≤ (q : Int) := by omega
       by_cases hl3 : q < 3
       ·obtain ⟨y, hy1, hy2, hy3⟩ := ints3 u1 u2 t k1 k2 k3 q hl3
        have HY3 := Lib.hid hy3
        have cy := HI.out.cell q
        rw [hy2] at cy
        have i2 : (q : Int) < 3 := by omega
        have HPY := Lib.hid (fun w' => put_nil y (by omega) w')
        clear hy2 hy3
        go_wp2_with fail
        refine (HPY.out wj).mono ?_
        rintro e w8 ⟨v8, rfl, hsrc8, hO8', hE8⟩
        have HSRC := Lib.hid hsrc8
        have HO8 := Lib.hid (HOJ.out.ext hE8)
        have HI8 := Lib.hid (HI.out.ext hE8)
        have HE8 := Lib.hid (ext_trans HEJ.out hE8)
        clear hsrc8 hO8' hE8 cy
        have HLZ : Hid ((zs ++ ([u1, u2, t].take q).flatMap vb).length + (vb y).length ≤ 140737488355328) := Lib.hid (by
         have q2 := vb_ten (n := y) (by omega)
         have q3 := flat3i_len u1 u2 t k1 k2 k3 q
         simp only [List.length_append]
         omega)
        go_wp2_with (at_builtin; refine wpList_b rfl (.tmp 70) (.tmp 73) 48 rfl vj v8 (zs ++ ([u1, u2, t].take q).flatMap vb) (vb y) rfl rfl HO8.out HE8.out.size HSRC.out HLZ.out ?_; intro vC wC hOC hGC; have HOC := Lib.hid hOC; have HGC := Lib.hid hGC; clear hOC hGC)
        go_roundg (gh2 - 1)
        case measure => omega
        case rel =>
         refine ⟨q + 1, by omega, by go_num, ?_, HGC.out.blk HF.out HI8.out, HGC.out.off HF.out HI8.out.lt, HGC.out.ext HE8.out HO8.out (Nat.le_refl _)⟩
         rw [HY3.out, ← List.append_assoc]
         exact HOC.out
       ·obtain rfl : q = 3 := by omega
        have i2 : ¬ ((3 : Nat) : Int) < 3 := by omega
        have hZ : zs ++ ([u1, u2, t].take 3).flatMap vb = zs ++ (vb u1 ++ (vb u2 ++ vb t)) := by simp
        rw [hZ] at HOJ
        clear hZ
        go_wp2_with fail
        go_roundg (gh - 1)
        case measure => omega
        case rel =>
         have q1 := vb_ten (n := u1) (by omega)
         have q2 := vb_ten (n := u2) (by omega)
         have q3 := vb_ten (n := t) (by omega)
         refine ⟨k + 1, _, by rw [List.length_map, HLEN.out]; omega, by go_num, HOJ.out, ?_, HEJ.out, HTT2.out⟩
         simp only [List.length_append]; omega
     ·obtain rfl : gh = 0 := by omega
      obtain rfl : k = m := by omega
      have HZ : Hid (encH (Hv.hd ⟨(W : Int), (H : Int), (p : Int), xs, xt, us⟩) = zs) := Lib.hid (by
       rw [← HT.out, HTT.out, List.drop_eq_nil_of_le (by rw [List.length_map, HLEN.out]; omega), encS, List.append_nil])
      have y2 : ¬ (k : Int) < (k : Int) := by omega
      go_wp2_with fail
      go_ret2
      exact hd_ok HMAY.out (ext_trans HE1.out HE.out) HO.out HZ.out (by omega)
 ·rw [decide_eq_false hmay] at HMY
  have HNM := Lib.hid hmay
  clear hmay
  obtain ⟨xw, xh, xp, xs, xt, us⟩ := x
  unfold cH at HMY HE0 ⊢
  simp only at *
  go_enter Tryz.func25, Tryz.ntmps25
  go_wp2_with fail
  refine (HMY.out _ HE0.out).mono ?_
  rintro e w1 ⟨rfl, hE1⟩
  have HE1 := Lib.hid (ext_trans HE0.out hE1)
  clear hE1
  go_wp2_with fail
  go_ret2
  exact hd_bad HNM.out HE1.out
end Go.Proofs.YtidnboeihkeljaaGreatDoor.Log
