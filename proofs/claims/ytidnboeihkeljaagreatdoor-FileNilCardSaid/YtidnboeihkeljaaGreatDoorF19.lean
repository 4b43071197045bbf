
import Derived.Test.YtidnboeihkeljaaGreatDoorF18
import Derived.Deep.LoopGhost
set_option maxHeartbeats 16000000
set_option maxRecDepth 100000
set_option linter.all false
open Go.ChangeShapes Go.WideShapes Go.ChangeAt Go.RowKit
namespace Go.Proofs.YtidnboeihkeljaaGreatDoor.Log
open Wire
open Rec
structure Ev where
 tick : Int
 player : Nat
 doing : Nat
 unit : Nat
 tile : Nat
 target : Nat
 kind : Nat
def cV (x : Ev) : List Value := [.int .i64 x.tick, .int .u8 (x.player : Int), .int .u8 (x.doing : Int), .int .u16 (x.unit : Int), .int .u16 (x.tile : Int), .int .u16 (x.target : Int), .int .u8 (x.kind : Int)]
theorem cV_len (x : Ev) : (cV x).length = 7 := rfl
def En.ev (e : En) : Ev := ⟨e.tick, e.player, e.doing, e.unit, e.tile, e.target, e.kind⟩
theorem infoE : (Tryz.prog.info? 104).map (fun i => (i.zero, i.size, i.bytes)) = some (some (.agg #[.int .i64 0, .int .u8 0, .int .u8 0, .int .u16 0, .int .u16 0, .int .u16 0, .int .u8 0]), 7, 24) := by kernel_rfl
def takeL (n : Int) (L : List Nat) : Option (List En) :=
 if 0 ≤ n ∧ n ≤ 4096 then match pN L with
  | none => none
  | some (left, L1) => match pL n.toNat left 0 0 L1 with
   | some (es, []) => some es
   | _ => none
 else none
def TkPost (w : World) (n : Int) (L : List Nat) (e : Ending) (w' : World) : Prop :=
 Ext w w' ∧ match takeL n L with
 | none => ∃ x : Int, x ≠ 0 ∧ e = .returned (.tuple #[.slice none 0 0, .int .i64 x])
 | some es => ∃ v, e = .returned (.tuple #[v, .int .i64 0]) ∧ OwnR w.heap.size w' 104 7 cV v (es.map En.ev)
def restL (n : Nat) (done : List En) (left last each : Nat) (L : List Nat) : Option (List En) :=
 match pL n left last each L with
 | some (es, []) => some (done ++ es)
 | _ => none
theorem restL_zero (n : Nat) (done : List En) (last each : Nat) (L : List Nat) : restL n done 0 last each L = if L = [] then some done else none := by
 unfold restL pL
 cases L with
 | nil => simp
 | cons a b => simp
theorem restL_bad {n : Nat} {done : List En} {left last each : Nat} {L : List Nat} (h : pE L = none) : restL n done (left + 1) last each L = none := by
 unfold restL pL
 rw [h]
theorem restL_no {n : Nat} {done : List En} {left last each : Nat} {L R : List Nat} {x : En} (h : pE L = some (x, R)) (hn : ¬ (x.words ∧ last + x.tick < n ∧ each' last each (last + x.tick) ≤ 32)) : restL n done (left + 1) last each L = none := by
 unfold restL pL
 rw [h]
 simp only
 rw [if_neg hn]
theorem restL_yes {n : Nat} {done : List En} {left last each : Nat} {L R : List Nat} {x : En} (h : pE L = some (x, R)) (hn : x.words ∧ last + x.tick < n ∧ each' last each (last + x.tick) ≤ 32) : restL n done (left + 1) last each L = restL n (done ++ [{ x with tick := last + x.tick }]) left (last + x.tick) (each' last each (last + x.tick)) R := by
 unfold restL
 rw [pL, h]
 simp only
 rw [if_pos hn]
 cases pL n left (last + x.tick) (each' last each (last + x.tick)) R with
 | none => rfl
 | some p =>
  obtain ⟨es, R'⟩ := p
  cases R' with
  | nil => simp
  | cons a b => rfl
theorem takeL_rest {n : Int} (hn : 0 ≤ n ∧ n ≤ 4096) (L : List Nat) : takeL n L = match pN L with | none => none | some (left, L1) => restL n.toNat [] left 0 0 L1 := by
 unfold takeL restL
 rw [if_pos hn]
 cases pN L with
 | none => rfl
 | some p => obtain ⟨left, L1⟩ := p; rfl
theorem each_eq (last each tick : Nat) : eachI (last : Int) each (tick : Int) = each' last each tick := by
 unfold eachI each'
 by_cases h : tick = last
 ·subst h; simp
 ·rw [if_neg (by omega), if_neg h]
theorem OwnR_mono {α : Type} {b b' : Nat} {w : World} {e : TypeId} {k : Nat} {f : α → List Value} {v : Value} {xs : List α} (h : OwnR b w e k f v xs) (hb : b' ≤ b) : OwnR b' w e k f v xs := by
 rcases h with ⟨h1, h2 | ⟨g, cap, cur, r1, r2, r3⟩⟩
 ·exact ⟨h1, .inl h2⟩
 ·exact ⟨h1, .inr ⟨g, cap, cur, r1, Nat.le_trans hb r2, r3⟩⟩
theorem tk_ok {w w' : World} {n : Int} {L : List Nat} {es : List En} {v : Value} {b : Nat} (hE : Ext w w') (h : takeL n L = some es) (hO : OwnR b w' 104 7 cV v (es.map En.ev)) (hb : w.heap.size ≤ b) : TkPost w n L (.returned (.tuple #[v, .int .i64 0])) w' := by
 refine ⟨hE, ?_⟩; rw [h]; exact ⟨v, rfl, OwnR_mono hO hb⟩
theorem tk_bad {w w' : World} {n : Int} {L : List Nat} {x : Int} (hE : Ext w w') (h : takeL n L = none) (hx : x ≠ 0) : TkPost w n L (.returned (.tuple #[.slice none 0 0, .int .i64 x])) w' := by
 refine ⟨hE, ?_⟩; rw [h]; exact ⟨x, hx, rfl⟩
def GRel (w : World) (B1 B2 : Nat) (g : Nat) (A : Option Addr) (m c : Nat) (xs : List Nat) (lb eb nb n : Nat) (T : Option (List En)) (gh : Nat) (ov lv kv : Value) (wr : World) : Prop :=
 ∃ (done : List En) (last each : Nat) (st : Option (List Nat)), OwnR B2 wr 104 7 cV ov (done.map En.ev) ∧ lv = .int .i64 (last : Int) ∧ kv = .int .u64 (gh : Int) ∧ gh < 18446744073709551616 ∧ RSt wr g A m c xs st ∧
  Boxes wr lb eb nb last each n ∧ last ≤ 4096 ∧ each ≤ 32 ∧ (∀ L, st = some L → done.length + L.length ≤ m) ∧ (st = none → gh = 0) ∧ B2 ≤ wr.heap.size ∧ Ext w wr ∧ T = st.bind (restL n done gh last each)
end Go.Proofs.YtidnboeihkeljaaGreatDoor.Log
namespace Go.Proofs.YtidnboeihkeljaaGreatDoor.Log
open Wire
open Rec

theorem boxes_ext {w w' : World} {lb eb nb : Nat} {last n : Int} {each : Nat} (h : Boxes w lb eb nb last each n) (e : Ext w w') : Boxes w' lb eb nb last each n :=
 ⟨h.1.ext e, h.2.1.ext e, h.2.2.1.ext e, h.2.2.2⟩
theorem boxes_grown {w w' : World} {lb eb nb r : Nat} {last n : Int} {each : Nat} (h : Boxes w lb eb nb last each n) (e : w.grownBy w' (some r)) (h1 : lb ≠ r) (h2 : eb ≠ r) (h3 : nb ≠ r) : Boxes w' lb eb nb last each n :=
 ⟨blk_kept h.1 e h1, blk_kept h.2.1 e h2, blk_kept h.2.2.1 e h3, h.2.2.2⟩
theorem own_two {α : Type} {b lb eb : Nat} {w w' : World} {e : TypeId} {k : Nat} {f : α → List Value} {v : Value} {xs : List α} (h : OwnR b w e k f v xs) (h2 : Two w w' lb eb) (h3 : lb < b) (h4 : eb < b) : OwnR b w' e k f v xs := by
 refine ⟨h.1, ?_⟩
 rcases h.2 with hn | ⟨g, cap, cur, rfl, hb, hgg, rest⟩
 ·exact .inl hn
 ·exact .inr ⟨g, cap, cur, rfl, hb, (h2.2.2.2.2 g (Array.getElem?_eq_some_iff.1 hgg).1 (by omega) (by omega)).trans hgg, rest⟩
theorem take_st (A : Option Addr) (m c : Nat) (xs : List Nat) (n : Int) (w : World) (hB : Bs w A m xs) (hnil : A = none → m = 0 ∧ c = 0) (hm : m ≤ 1000000) :
  Calls Tryz.prog 93 #[.slice A m c, .int .i64 n] w (TkPost w n xs) := by
 have HT := Lib.hid (ticks_any n w)
 have HOF := Lib.hid (fun (w' : World) (e : Ext w w') => of_st A m c xs w' (hB.ext e) hnil (by omega))
 have HLEN := Lib.hid hB.1
 clear hB
 by_cases hn : 0 ≤ n ∧ n ≤ 4096
 ·rw [decide_eq_true hn] at HT
  obtain ⟨nn, rfl⟩ : ∃ nn : Nat, n = (nn : Int) := ⟨n.toNat, by omega⟩
  have HTR := Lib.hid (takeL_rest hn xs)
  rw [Int.toNat_natCast] at HTR
  have hn2 : nn ≤ 4096 := by omega
  clear hn
  go_enter Tryz.func93, Tryz.ntmps93
  go_wp2_with fail
  go_step3
  go_wp2_with fail
  refine (HT.out).mono ?_
  rintro e w1 ⟨rfl, hE1⟩
  have HE1 := Lib.hid hE1; clear hE1
  go_wp2_with fail
  refine (HOF.out w1 HE1.out).mono ?_
  rintro e w2 ⟨g, A', c', rfl, hg, hS, hE2, hfar⟩
  have HE2 := Lib.hid (ext_trans HE1.out hE2)
  have HR0 := Lib.hid hS.rin
  have HS2 := Lib.hid hS; have HG0 := Lib.hid hg; have HFAR := Lib.hid hfar
  clear hE2 hS hg hfar
  have HP := Lib.hid (pace (nn : Int) w2)
  go_wp2_with fail
  refine (HP.out).mono ?_
  rintro e w3 ⟨v, rfl, ⟨lb, eb, nb, rfl, hbx, hb1, hb2, hb3⟩, hE3⟩
  have HE3 := Lib.hid hE3; have HBX := Lib.hid hbx
  have HBL : Hid (w2.heap.size ≤ lb ∧ w2.heap.size ≤ eb ∧ w2.heap.size ≤ nb ∧ lb < w3.heap.size ∧ eb < w3.heap.size ∧ nb < w3.heap.size ∧ w.heap.size ≤ w2.heap.size ∧ w.heap.size ≤ g) :=
   Lib.hid ⟨hb1, hb2, hb3, Blk.lt hbx.1, Blk.lt hbx.2.1, Blk.lt hbx.2.2.1, HE2.out.size, Nat.le_trans HE1.out.size HG0.out⟩
  clear hE3 hbx hb1 hb2 hb3
  have HN := Lib.hid (num_st g m c' A' xs _ w3 (HS2.out.ext HE3.out))
  go_wp2_with fail
  refine (HN.out).mono ?_
  rintro e w4 ⟨rfl, hz4, hS4, hG4⟩
  have hE4 : Ext w w4 := ext_grown (ext_trans HE2.out HE3.out) hG4 (fun k e => by cases e; exact HBL.out.2.2.2.2.2.2.2)
  have hbx4 : Boxes w4 lb eb nb 0 0 nn := boxes_grown HBX.out hG4 (by have := HBL.out; have := HR0.out.1; omega) (by have := HBL.out; have := HR0.out.1; omega) (by have := HBL.out; have := HR0.out.1; omega)
  have HREL : Hid (GRel w w2.heap.size w3.heap.size g A' m c' xs lb eb nb nn (takeL nn xs) (va pN 0 (some xs)) (.slice none 0 0) (.int .i64 0) (.int .u64 ((va pN 0 (some xs) : Nat) : Int)) w4) := Lib.hid <| by
   refine ⟨[], 0, 0, nx pN (some xs), OwnR.nil _ _ _ _ _, rfl, rfl, hz4, hS4, hbx4, by omega, by omega, ?_, ?_, hG4.size, hE4, ?_⟩
   ·intro L hL
    cases hp : pN xs with
    | none => simp [nx, hp] at hL
    | some q =>
     obtain ⟨x, R⟩ := q
     simp [nx, hp] at hL
     subst hL
     have hq := congrArg List.length (pN_ok HS2.out.small hp).1
     rw [List.length_append, HLEN.out] at hq
     simp only [List.length_nil]
     omega
   ·intro h0
    cases hp : pN xs with
    | none => simp [va, hp]
    | some q => simp [nx, hp] at h0
   ·rw [HTR.out]
    cases hp : pN xs with
    | none => simp [nx, hp]
    | some q => simp [nx, va, hp]
  generalize va pN 0 (some xs) = left at *
  obtain ⟨T, hTk⟩ : ∃ T, takeL nn xs = T := ⟨_, rfl⟩
  rw [hTk] at HREL
  have HTK := Lib.hid hTk; clear hTk
  have HE4 := Lib.hid hE4
  clear hz4 hS4 hG4 hE4 hbx4 HN HP HTR HOF HT hnil HS2 HBX HFAR HE3
  generalize hB1 : w2.heap.size = B1 at *
  generalize hB2 : w3.heap.size = B2 at *
  clear hB1 hB2
  go_wp2_with fail
  go_step3
  go_wp2_with fail
  go_loopg [8, 9, 10] left (fun gh ov lv kv wr => GRel w B1 B2 g A' m c' xs lb eb nb nn T gh ov lv kv wr)
  case atStart => exact HREL.out
  case round =>
   obtain ⟨done, last, each, st, hO, rfl, rfl, hgh, hS, hbx, hl1, he1, hlen, hst, hsz, hE, hT⟩ := hrel
   obtain ⟨gh, rfl⟩ : ∃ gh : Nat, gh = gk := ⟨_, rfl⟩
   have HO := Lib.hid hO; have HS := Lib.hid hS; have HBX := Lib.hid hbx; have HLE := Lib.hid hlen; have HST := Lib.hid hst; have HSZ := Lib.hid hsz; have HE := Lib.hid hE; have HTT := Lib.hid hT
   clear hO hS hbx hlen hst hsz hE hT HREL
   cases gh with
   | zero =>
    have HEN := Lib.hid (end_st g m c' A' xs st wr HS.out)
    go_wp2_with fail
    refine (HEN.out).mono ?_
    rintro e w5 ⟨x, rfl, hx, hE5⟩
    have HE5 := Lib.hid hE5; have HX := Lib.hid hx; clear hE5 hx
    have HEF := Lib.hid (ext_trans HE.out HE5.out)
    by_cases hx0 : x = 0
    ·have HST0 := Lib.hid (HX.out.1 hx0)
     subst hx0
     have HO5 := Lib.hid (HO.out.ext HE5.out)
     have HTF : Hid (takeL nn xs = some done) := Lib.hid (by rw [HTK.out, HTT.out, HST0.out, Option.bind_some, restL_zero, if_pos rfl])
     go_wp2_with fail
     try rw [Exit.noGoto_ret]
     go_ret2
     exact tk_ok HEF.out HTF.out HO5.out (by have := HBL.out; have := HSZ.out; omega)
    ·have HTF : Hid (takeL nn xs = none) := Lib.hid (by
      rw [HTK.out, HTT.out]
      cases hst : st with
      | none => rfl
      | some L =>
       rw [Option.bind_some, restL_zero, if_neg (fun h => hx0 (HX.out.2 (by rw [hst, h])))])
     go_wp2_with fail
     try rw [Exit.noGoto_ret]
     go_ret2
     exact tk_bad HEF.out HTF.out hx0
   | succ gh =>
    have hst2 : ∃ L, st = some L := by
     cases hq : st with
     | none => exact absurd (HST.out hq) (by omega)
     | some L => exact ⟨L, rfl⟩
    obtain ⟨L, rfl⟩ := hst2
    have HSM := Lib.hid HS.out.small
    have HLN := Lib.hid (HLE.out L rfl)
    have HEN := Lib.hid (entry_st g m c' A' xs L (last : Int) (by omega) (by omega) wr HS.out)
    have hghi : (0 : Int) < ((gh + 1 : Nat) : Int) := by omega
    clear HST HLE
    go_wp2_with fail
    refine (HEN.out).mono ?_
    rintro e w5 ⟨hG5, hm5⟩
    have HG5 := Lib.hid hG5
    clear hG5
    have HE5 : Hid (Ext w w5) := Lib.hid (ext_grown HE.out HG5.out (fun k e => by cases e; exact HBL.out.2.2.2.2.2.2.2))
    have HBX5 := Lib.hid (boxes_grown HBX.out HG5.out (by have := HBL.out; have := HR0.out.1; omega) (by have := HBL.out; have := HR0.out.1; omega) (by have := HBL.out; have := HR0.out.1; omega))
    have HO5 := Lib.hid (HO.out.grown HG5.out (by have := HBL.out; have := HR0.out.1; omega))
    have HSZ5 := Lib.hid (Nat.le_trans HSZ.out HG5.out.size)
    clear HO HBX HS HE HEN
    cases hpe : pE L with
    | none =>
     rw [hpe] at hm5
     obtain ⟨rfl, hS5⟩ := hm5
     have HPE := Lib.hid hpe; have HS5 := Lib.hid hS5; clear hpe hS5
     have HTF : Hid (takeL nn xs = none) := Lib.hid (by rw [HTK.out, HTT.out, Option.bind_some, restL_bad HPE.out])
     have HER := Lib.hid (fun (w' : World) (e : Ext w5 w') => err_st g m c' A' xs none w' (HS5.out.ext e))
     have HEN := Lib.hid (fun (w' : World) (e : Ext w5 w') => end_st g m c' A' xs none w' (HS5.out.ext e))
     clear HO5 HBX5
     unfold EV
     go_wp2_with fail
     refine (HER.out _ (ext_alloc (Ext.rfl' _) _)).mono ?_
     rintro e w6 ⟨x, rfl, hx, rfl⟩
     have hx1 : ¬ x = 0 := hx.2 (by trivial)
     clear hx
     go_wp2_with fail
     refine (HEN.out _ (ext_alloc (Ext.rfl' _) _)).mono ?_
     rintro e w7 ⟨y, rfl, hy, hE7⟩
     have hy1 : ¬ y = 0 := fun h => by have := hy.1 h; cases this
     have HE7 := Lib.hid (ext_trans (ext_alloc HE5.out _) hE7)
     clear hy hE7
     go_wp2_with fail
     try rw [Exit.noGoto_ret]
     go_ret2
     exact tk_bad HE7.out HTF.out hy1
    | some q =>
     obtain ⟨x, R⟩ := q
     rw [hpe] at hm5
     obtain ⟨rfl, hS5⟩ := hm5
     have HPE := Lib.hid hpe; have HS5 := Lib.hid hS5; clear hpe
     obtain ⟨p1, p2, p3, p4, p5, p6, p7, p8⟩ := pE_ok HSM.out HPE.out last
     have HP1 := Lib.hid p1
     clear p1 hS5
     have HER := Lib.hid (fun (w' : World) (e : Ext w5 w') => err_st g m c' A' xs (some R) w' (HS5.out.ext e))
     have HTI : Hid ((last : Int) + (x.tick : Int) = ((last + x.tick : Nat) : Int)) := Lib.hid (by omega)
     rw [HTI.out]
     have HRE : Hid (∀ t0 u0 : Nat, True) := Lib.hid (fun _ _ => trivial)
     have HWD : Hid (x.words → IntKind.u16.wrap (x.unit : Int) = x.unit ∧ IntKind.u16.wrap (x.tile : Int) = x.tile ∧ IntKind.u16.wrap (x.target : Int) = x.target) := Lib.hid (fun ⟨h1, h2, h3⟩ => by
      have hw : ∀ n : Nat, n ≤ 65535 → IntKind.u16.wrap (n : Int) = (n : Int) := fun n hn => by
       show (n : Int) % 65536 = n; omega
      exact ⟨hw _ h1, hw _ h2, hw _ h3⟩)
     generalize IntKind.u16.wrap (x.unit : Int) = U at *
     generalize IntKind.u16.wrap (x.tile : Int) = V at *
     generalize IntKind.u16.wrap (x.target : Int) = G at *
     unfold EV
     have htk : last + x.tick ≤ 2147487743 := by omega
     obtain ⟨tick, hti⟩ : ∃ t, t = last + x.tick := ⟨_, rfl⟩
     rw [← hti] at HTI htk ⊢
     have HTE := Lib.hid hti; clear hti
     by_cases hw : x.words
     ·rw [decide_eq_true hw]
      have HW := Lib.hid hw; clear hw
      have HPC := Lib.hid (fun (w' : World) (h : Boxes w' lb eb nb (last : Int) each nn) => pace1 lb eb nb (last : Int) (tick : Int) nn each w' h (by omega))
      go_wp2_with fail
      refine (HER.out _ (ext_alloc (Ext.rfl' _) _)).mono ?_
      rintro e w6 ⟨y, rfl, hy, rfl⟩
      have hy1 : y = 0 := by
       by_cases h0 : y = 0
       ·exact h0
       ·have := hy.1 h0; cases this
      subst hy1
      clear hy
      go_wp2_with fail
      refine (HPC.out _ (boxes_ext HBX5.out (ext_alloc (Ext.rfl' _) _))).mono ?_
      rintro e w7 ⟨rfl, hbx7, h2w⟩
      rw [each_eq] at hbx7 ⊢
      have HBX7 := Lib.hid hbx7; have H2W := Lib.hid h2w
      have hb6 := Blk.new w5 104 #[.int .i64 (tick : Int), .int .u8 (x.player : Int), .int .u8 (x.doing : Int), .int .u16 U, .int .u16 V, .int .u16 G, .int .u8 (x.kind : Int)]
      have hk6 : ∀ k, k ≠ lb → k ≠ eb → k < (w5.alloc (.cells #[.int .i64 (tick : Int), .int .u8 (x.player : Int), .int .u8 (x.doing : Int), .int .u16 U, .int .u16 V, .int .u16 G, .int .u8 (x.kind : Int)] 104)).heap.size → w7.heap[k]? = (w5.alloc (.cells #[.int .i64 (tick : Int), .int .u8 (x.player : Int), .int .u8 (x.doing : Int), .int .u16 U, .int .u16 V, .int .u16 G, .int .u8 (x.kind : Int)] 104)).heap[k]? := fun k h1 h2 h3 => h2w.2.2.2.2 k h3 h1 h2
      have hb7 : Blk w7 w5.heap.size 104 #[.int .i64 (tick : Int), .int .u8 (x.player : Int), .int .u8 (x.doing : Int), .int .u16 U, .int .u16 V, .int .u16 G, .int .u8 (x.kind : Int)] :=
       (hk6 _ (by have := HBL.out; have := HSZ5.out; omega) (by have := HBL.out; have := HSZ5.out; omega) hb6.lt).trans hb6
      have HE7 : Hid (Ext w w7) := Lib.hid (h2w.ext (ext_alloc HE5.out _) (by have := HBL.out; omega) (by have := HBL.out; omega))
      have HS7 : Hid (RSt w7 g A' m c' xs (some R)) := Lib.hid <| by
       have hs6 := HS5.out.ext (ext_alloc (Ext.rfl' w5) (.cells #[.int .i64 (tick : Int), .int .u8 (x.player : Int), .int .u8 (x.doing : Int), .int .u16 U, .int .u16 V, .int .u16 G, .int .u8 (x.kind : Int)] 104))
       refine hs6.keep HR0.out (fun k hk => hk6 k (by have := HBL.out; omega) (by have := HBL.out; omega) ?_) h2w.2.2.2.1
       rw [World.size_alloc]; have := HBL.out; have := HSZ5.out; omega
      have HO7 : Hid (OwnR B2 w7 104 7 cV u8 (done.map En.ev)) := Lib.hid <| by
       have ho6 := HO5.out.ext (ext_alloc (Ext.rfl' w5) (.cells #[.int .i64 (tick : Int), .int .u8 (x.player : Int), .int .u8 (x.doing : Int), .int .u16 U, .int .u16 V, .int .u16 G, .int .u8 (x.kind : Int)] 104))
       exact own_two ho6 h2w (by have := HBL.out; omega) (by have := HBL.out; omega)
      have HB7 := Lib.hid hb7
      clear hbx7 h2w hb6 hk6 hb7 HPC HBX5 HO5 HS5
      by_cases hp : tick < nn ∧ each' last each tick ≤ 32
      ·rw [decide_eq_true (show (last : Int) ≤ (tick : Int) ∧ (tick : Int) < (nn : Int) ∧ each' last each tick ≤ 32 from ⟨by have := HTE.out; omega, by omega, hp.2⟩)]
       have z0 := fun i => HB7.out.cell i
       have hw7 : w5.heap.size < w7.heap.size := HB7.out.lt
       have HHP := Lib.hid hp
       clear hp
       obtain ⟨rfl, rfl, rfl⟩ := HWD.out HW.out
       have HSRC := Lib.hid (src_rec (P := Tryz.prog) (e' := 104) Tryz.underlying35 w7 (cV ⟨(tick : Int), x.player, x.doing, x.unit, x.tile, x.target, x.kind⟩) rfl (by intro u hu; simp [cV] at hu; rcases hu with rfl | rfl | rfl | rfl | rfl | rfl | rfl <;> rfl) 1)
       have HEA := Lib.hid (ext_alloc (Ext.rfl' w7) (.cells (cV ⟨(tick : Int), x.player, x.doing, x.unit, x.tile, x.target, x.kind⟩).toArray 104))
       have HO8 := Lib.hid (HO7.out.ext HEA.out)
       have HSZ8 : Hid (B2 ≤ (w7.alloc (.cells (cV ⟨(tick : Int), x.player, x.doing, x.unit, x.tile, x.target, x.kind⟩).toArray 104)).heap.size) := Lib.hid (by rw [World.size_alloc]; have := HSZ5.out; omega)
       have HDL : Hid ((done.map En.ev).length ≤ 100000000) := Lib.hid (by rw [List.length_map]; have := HLN.out; omega)
       go_wp2_with (at_builtin; refine wpList_rec rfl (.tmp 49) (.tmp 51) 35 104 7 24 _ cV rfl Tryz.underlying35 infoE rfl (by decide) _ _ (done.map En.ev) ⟨(tick : Int), x.player, x.doing, x.unit, x.tile, x.target, x.kind⟩ rfl rfl HO8.out HSZ8.out HSRC.out HDL.out ?_; intro v9 w9 hown9 hgr9; have HO9 := Lib.hid hown9; have HG9 := Lib.hid hgr9; clear hown9 hgr9)
       go_roundg gh
       case measure => omega
       case rel =>
        have hob : ∀ k, u8.ownBlock = some k → B2 ≤ k := fun k e => (World.ownsRow.lt HO8.out k e).1
        have hkeep : ∀ k, k < B2 → w9.heap[k]? = (w7.alloc (.cells (cV ⟨(tick : Int), x.player, x.doing, x.unit, x.tile, x.target, x.kind⟩).toArray 104)).heap[k]? := fun k hk =>
         HG9.out.block k (Nat.lt_of_lt_of_le hk HSZ8.out) (fun e => by have := hob k e.symm; omega)
        obtain ⟨b1, b2, b3, b4, b5, b6, b7, b8⟩ := HBL.out
        have hb8 := boxes_ext HBX7.out HEA.out
        have hlL : L.length = (enc1 last ⟨last + x.tick, x.player, x.doing, x.kind, x.unit, x.tile, x.target⟩).length + R.length := by
         have := congrArg List.length HP1.out
         rwa [List.length_append] at this
        rw [enc1_len] at hlL
        refine ⟨done ++ [⟨tick, x.player, x.doing, x.kind, x.unit, x.tile, x.target⟩], tick, each' last each tick, some R, ?_, rfl, rfl, by omega, ?_, ?_, ?_, HHP.out.2, ?_, ?_, ?_, ?_, ?_⟩
        ·rw [List.map_append]; exact HO9.out
        ·exact (HS7.out.ext HEA.out).keep HR0.out (fun k hk => hkeep k (by omega)) HG9.out.size
        ·exact ⟨(hkeep lb b4).trans hb8.1, (hkeep eb b5).trans hb8.2.1, (hkeep nb b6).trans hb8.2.2.1, hb8.2.2.2⟩
        ·have := HHP.out.1; omega
        ·intro L2 hL2
         obtain rfl := Option.some.inj hL2
         have := HLN.out
         rw [List.length_append, List.length_singleton]
         omega
        ·intro h; cases h
        ·exact Nat.le_trans HSZ8.out HG9.out.size
        ·exact ext_grown (ext_trans HE7.out HEA.out) HG9.out (fun k e => by have := hob k e; omega)
        ·rw [HTT.out, Option.bind_some, restL_yes HPE.out ⟨HW.out, by rw [← HTE.out]; exact HHP.out⟩, ← HTE.out]
         rfl
      ·rw [decide_eq_false (show ¬ ((last : Int) ≤ (tick : Int) ∧ (tick : Int) < (nn : Int) ∧ each' last each tick ≤ 32) from fun h => hp ⟨by omega, h.2.2⟩)]
       have HTF : Hid (takeL nn xs = none) := Lib.hid (by
        rw [HTK.out, HTT.out, Option.bind_some, restL_no HPE.out (fun h => hp ?_)]
        rw [← HTE.out] at h
        exact h.2)
       clear hp
       go_wp2_with fail
       try rw [Exit.noGoto_ret]
       go_ret2
       exact tk_bad HE7.out HTF.out (by decide)
     ·rw [decide_eq_false hw]
      have HTF : Hid (takeL nn xs = none) := Lib.hid (by
       rw [HTK.out, HTT.out, Option.bind_some, restL_no HPE.out (fun h => hw h.1)])
      clear hw
      go_wp2_with fail
      refine (HER.out _ (ext_alloc (Ext.rfl' _) _)).mono ?_
      rintro e w6 ⟨y, rfl, hy, rfl⟩
      have hy1 : y = 0 := by
       by_cases h0 : y = 0
       ·exact h0
       ·have := hy.1 h0; cases this
      subst hy1
      clear hy
      have HE7 := Lib.hid (ext_alloc HE5.out (.cells #[.int .i64 (tick : Int), .int .u8 (x.player : Int), .int .u8 (x.doing : Int), .int .u16 U, .int .u16 V, .int .u16 G, .int .u8 (x.kind : Int)] 104))
      go_wp2_with fail
      try rw [Exit.noGoto_ret]
      go_ret2
      exact tk_bad HE7.out HTF.out (by decide)
 ·rw [decide_eq_false hn] at HT
  have HTF : Hid (takeL n xs = none) := Lib.hid (by unfold takeL; rw [if_neg hn])
  clear hn
  go_enter Tryz.func93, Tryz.ntmps93
  go_wp2_with fail
  go_step3
  go_wp2_with fail
  refine (HT.out).mono ?_
  rintro e w1 ⟨rfl, hE1⟩
  have HE1 := Lib.hid hE1; clear hE1
  go_wp2_with fail
  try rw [Exit.noGoto_ret]
  go_ret2
  exact tk_bad HE1.out HTF.out (by decide)
end Go.Proofs.YtidnboeihkeljaaGreatDoor.Log
namespace Go.Proofs.YtidnboeihkeljaaGreatDoor.Log
open Wire
open Rec

def St.sv (u : St) : Sv := ⟨u.owner, u.kind, u.tile⟩
def Hd.hv (x : Hd) : Hv := ⟨x.w, x.h, x.players, x.seed, strOf x.tiles, x.starts.map St.sv⟩
def goodS (us : List St) : Prop := (∀ u ∈ us, u.owner ≤ 255 ∧ u.kind ≤ 255) ∧ us.length ≤ 128
instance (us : List St) : Decidable (goodS us) := by unfold goodS; infer_instance
theorem goodS_left {us vs : List St} (h : goodS (us ++ vs)) : goodS us :=
 ⟨fun u hu => h.1 u (List.mem_append_left _ hu), by have := h.2; rw [List.length_append] at this; omega⟩
theorem goodS_snoc {us : List St} {u : St} : goodS (us ++ [u]) ↔ goodS us ∧ u.owner ≤ 255 ∧ u.kind ≤ 255 ∧ us.length < 128 := by
 constructor
 ·intro h
  have := h.2
  rw [List.length_append, List.length_singleton] at this
  have h2 := h.1 u (by simp)
  exact ⟨goodS_left h, h2.1, h2.2, by omega⟩
 ·rintro ⟨h1, h2, h3, h4⟩
  refine ⟨fun v hv => ?_, by rw [List.length_append, List.length_singleton]; omega⟩
  rcases List.mem_append.1 hv with hv | hv
  ·exact h1.1 v hv
  ·rw [List.mem_singleton] at hv; subst hv; exact ⟨h2, h3⟩
def thO (x : Hd) : Option Hv := if goodS x.starts ∧ mayH x.hv then some x.hv else none
def thL (L : List Nat) : Option Hv :=
 match pH L with
 | some (x, []) => thO x
 | _ => none
def restS (done : List St) (gh : Nat) (L : List Nat) : Option (List St) :=
 match pS gh L with
 | some (us, []) => some (done ++ us)
 | _ => none
theorem restS_zero (done : List St) (L : List Nat) : restS done 0 L = if L = [] then some done else none := by
 unfold restS pS
 cases L with
 | nil => simp
 | cons a b => simp
theorem chain3 {L : List Nat} (done : List St) (gh : Nat) : (nx pI (nx pN (nx pN (some L))) = none ∧ restS done (gh + 1) L = none) ∨
  ∃ o L1 k L2 t L3, nx pN (some L) = some L1 ∧ nx pN (some L1) = some L2 ∧ nx pI (some L2) = some L3 ∧ va pN 0 (some L) = o ∧ va pN 0 (some L1) = k ∧ va pI 0 (some L2) = t ∧ restS done (gh + 1) L = restS (done ++ [⟨o, k, t⟩]) gh L3 := by
 cases h1 : pN L with
 | none => left; simp [nx, h1, restS, pS]
 | some p1 =>
  obtain ⟨o, L1⟩ := p1
  cases h2 : pN L1 with
  | none => left; simp [nx, h1, h2, restS, pS]
  | some p2 =>
   obtain ⟨k, L2⟩ := p2
   cases h3 : pI L2 with
   | none => left; simp [nx, h1, h2, h3, restS, pS]
   | some p3 =>
    obtain ⟨t, L3⟩ := p3
    right
    refine ⟨o, L1, k, L2, t, L3, by simp [nx, h1], by simp [nx, h2], by simp [nx, h3], by simp [va, h1], by simp [va, h2], by simp [va, h3], ?_⟩
    unfold restS
    rw [pS, h1]
    simp only [h2, h3]
    cases pS gh L3 with
    | none => rfl
    | some q =>
     obtain ⟨us, R⟩ := q
     cases R with
     | nil => simp
     | cons a b => rfl
def s1 (xs : List Nat) := nx pI (some xs)
def s2 (xs : List Nat) := nx pI (s1 xs)
def s3 (xs : List Nat) := nx pI (s2 xs)
def s4 (xs : List Nat) := nx pF (s3 xs)
def s5 (xs : List Nat) := nx (pT 4096) (s4 xs)
def s6 (xs : List Nat) := nx pN (s5 xs)
theorem thL_eq (xs : List Nat) : thL xs = ((s6 xs).bind (restS [] (va pN 0 (s5 xs)))).bind (fun us => thO ⟨va pI 0 (some xs), va pI 0 (s1 xs), va pI 0 (s2 xs), va pF 0 (s3 xs), va (pT 4096) [] (s4 xs), us⟩) := by
 unfold thL pH s6 s5 s4 s3 s2 s1
 cases h1 : pI xs with
 | none => simp [nx, h1]
 | some q1 =>
  obtain ⟨w, L1⟩ := q1
  cases h2 : pI L1 with
  | none => simp [nx, h1, h2]
  | some q2 =>
   obtain ⟨h, L2⟩ := q2
   cases h3 : pI L2 with
   | none => simp [nx, h1, h2, h3]
   | some q3 =>
    obtain ⟨p, L3⟩ := q3
    cases h4 : pF L3 with
    | none => simp [nx, h1, h2, h3, h4]
    | some q4 =>
     obtain ⟨sd, L4⟩ := q4
     cases h5 : pT 4096 L4 with
     | none => simp [nx, h1, h2, h3, h4, h5]
     | some q5 =>
      obtain ⟨ti, L5⟩ := q5
      cases h6 : pN L5 with
      | none => simp [nx, h1, h2, h3, h4, h5, h6]
      | some q6 =>
       obtain ⟨left, L6⟩ := q6
       simp only [nx, va, Option.bind_some, h1, h2, h3, h4, h5, h6, Option.map_some, Option.getD_some, restS]
       cases pS left L6 with
       | none => rfl
       | some q7 =>
        obtain ⟨us, R⟩ := q7
        cases R with
        | nil => simp
        | cons a b => rfl
theorem s6_none (xs : List Nat) (h : s6 xs = none) : va pN 0 (s5 xs) = 0 := by
 unfold s6 nx at h
 unfold va
 cases hq : (s5 xs).bind pN with
 | none => rfl
 | some q => rw [hq] at h; cases h
theorem tiles_len (xs : List Nat) (hx : ∀ st L, st = some L → st = s4 xs → ∀ c ∈ L, c < 256) : (va (pT 4096) [] (s4 xs)).length ≤ 4096 := by
 unfold va
 cases h : (s4 xs) with
 | none => simp
 | some L =>
  cases hq : pT 4096 L with
  | none => simp [hq]
  | some q =>
   obtain ⟨ys, R⟩ := q
   have := (pT_ok (hx _ L rfl h.symm) hq).2
   simpa [hq] using this
theorem nx_small {α : Type} {f : List Nat → Option (α × List Nat)} (hf : ∀ L x R, (∀ c ∈ L, c < 256) → f L = some (x, R) → ∀ c ∈ R, c < 256) {st : Option (List Nat)} (h : ∀ L, st = some L → ∀ c ∈ L, c < 256) : ∀ L, nx f st = some L → ∀ c ∈ L, c < 256 := by
 intro L hL
 cases st with
 | none => simp [nx] at hL
 | some M =>
  cases hq : f M with
  | none => simp [nx, hq] at hL
  | some q =>
   obtain ⟨x, R⟩ := q
   simp [nx, hq] at hL
   subst hL
   exact hf M x R (h M rfl) hq
theorem s4_small (xs : List Nat) (h : ∀ c ∈ xs, c < 256) : ∀ L, s4 xs = some L → ∀ c ∈ L, c < 256 := by
 have hI : ∀ L x R, (∀ c ∈ L, c < 256) → pI L = some (x, R) → ∀ c ∈ R, c < 256 := fun L x R hL e c hc => hL c (by rw [(pI_ok hL e).1]; exact List.mem_append_right _ hc)
 have hF : ∀ L x R, (∀ c ∈ L, c < 256) → pF L = some (x, R) → ∀ c ∈ R, c < 256 := fun L x R hL e c hc => hL c (by rw [(pF_ok hL e).1]; exact List.mem_append_right _ hc)
 exact nx_small hF (nx_small hI (nx_small hI (nx_small hI (fun L e => by cases e; exact h))))
def zeroH : Array Value := #[.int .i64 0, .int .i64 0, .int .i64 0, .int .u32 0, .string ⟨#[]⟩, .slice none 0 0]
def ThPost (w : World) (L : List Nat) (e : Ending) (w' : World) : Prop :=
 Ext w w' ∧ match thL L with
 | none => ∃ x : Int, x ≠ 0 ∧ e = .returned (.tuple #[.agg zeroH, .int .i64 x])
 | some hv => ∃ v, e = .returned (.tuple #[.agg (cH hv v), .int .i64 0]) ∧ OwnR w.heap.size w' 99 3 cS v hv.starts
theorem OwnR_mono' {α : Type} {b b' : Nat} {w : World} {e : TypeId} {k : Nat} {f : α → List Value} {v : Value} {xs : List α} (h : OwnR b w e k f v xs) (hb : b' ≤ b) : OwnR b' w e k f v xs := by
 rcases h with ⟨h1, h2 | ⟨g, cap, cur, r1, r2, r3⟩⟩
 ·exact ⟨h1, .inl h2⟩
 ·exact ⟨h1, .inr ⟨g, cap, cur, r1, Nat.le_trans hb r2, r3⟩⟩
theorem OwnR_keep {α : Type} {b : Nat} {w w' : World} {e : TypeId} {k : Nat} {f : α → List Value} {v : Value} {xs : List α} (h : OwnR b w e k f v xs) (hk : ∀ g, b ≤ g → g < w.heap.size → w'.heap[g]? = w.heap[g]?) : OwnR b w' e k f v xs := by
 rcases h with ⟨h1, h2 | ⟨g, cap, cur, r1, r2, r3, r4⟩⟩
 ·exact ⟨h1, .inl h2⟩
 ·exact ⟨h1, .inr ⟨g, cap, cur, r1, r2, (hk g r2 (Array.getElem?_eq_some_iff.1 r3).1).trans r3, r4⟩⟩
theorem th_ok {w w' : World} {L : List Nat} {hv : Hv} {v : Value} {b : Nat} (hE : Ext w w') (h : thL L = some hv) (hO : OwnR b w' 99 3 cS v hv.starts) (hb : w.heap.size ≤ b) : ThPost w L (.returned (.tuple #[.agg (cH hv v), .int .i64 0])) w' := by
 refine ⟨hE, ?_⟩; rw [h]; exact ⟨v, rfl, OwnR_mono' hO hb⟩
theorem th_bad {w w' : World} {L : List Nat} {x : Int} (hE : Ext w w') (h : thL L = none) (hx : x ≠ 0) : ThPost w L (.returned (.tuple #[.agg zeroH, .int .i64 x])) w' := by
 refine ⟨hE, ?_⟩; rw [h]; exact ⟨x, hx, rfl⟩
def HRel (w : World) (g : Nat) (A : Option Addr) (m c : Nat) (xs : List Nat) (rb hb B2 : Nat) (W H P S : Int) (T : ByteArray) (O : Option (List St)) (gh : Nat) (fv kv : Value) (wr : World) : Prop :=
 ∃ (done : List St) (sts : List Sv) (v : Value) (fits : Bool) (st : Option (List Nat)), fv = .bool fits ∧ kv = .int .u64 (gh : Int) ∧ gh < 18446744073709551616 ∧ RSt wr g A m c xs st ∧ Blk wr rb 25 zeroH ∧
  Blk wr hb 25 #[.int .i64 W, .int .i64 H, .int .i64 P, .int .u32 S, .string T, v] ∧ OwnR B2 wr 99 3 cS v sts ∧ sts.length ≤ 128 ∧ (fits = true → sts = done.map St.sv ∧ goodS done) ∧ (fits = false → ¬ goodS done) ∧
  (∀ u ∈ sts, u.fits) ∧ (st = none → gh = 0) ∧ B2 ≤ wr.heap.size ∧ Ext w wr ∧ O = st.bind (restS done gh)
end Go.Proofs.YtidnboeihkeljaaGreatDoor.Log
namespace Go.Proofs.YtidnboeihkeljaaGreatDoor.Log
open Wire
open Rec

def Ev.fits (x : Ev) : Prop := x.player < 256 ∧ x.doing < 256 ∧ x.unit < 65536 ∧ x.tile < 65536 ∧ x.target < 65536 ∧ x.kind < 256
def pacedB (n : Int) : Int → Nat → List Ev → Bool
 | _, _, [] => true
 | last, each, e :: es => decide (last ≤ e.tick ∧ e.tick < n ∧ eachI last each e.tick ≤ 32) && pacedB n e.tick (eachI last each e.tick) es
def encV (last : Int) : List Ev → List Nat
 | [] => []
 | e :: es => (vb (e.tick - last).toNat ++ ([e.player, e.doing, e.kind] ++ (vb e.unit ++ (vb e.tile ++ vb e.target)))) ++ encV e.tick es
def putL (n : Int) (evs : List Ev) : Option (List Nat) :=
 if 0 ≤ n ∧ n ≤ 4096 ∧ pacedB n 0 0 evs = true then some (vb evs.length ++ encV 0 evs) else none
theorem encV_map : ∀ (es : List En) (last : Nat), encV (last : Int) (es.map En.ev) = encs last es
 | [], _ => rfl
 | e :: es, last => by
  rw [List.map_cons, encV, encs]
  show (vb ((e.tick : Int) - (last : Int)).toNat ++ _) ++ encV (e.tick : Int) (es.map En.ev) = _
  rw [encV_map es e.tick, show ((e.tick : Int) - (last : Int)).toNat = e.tick - last by omega]
  rfl
theorem pacedB_map (n : Nat) : ∀ (es : List En) (last each : Nat), pacedB n last each (es.map En.ev) = true ↔ paced n last each es
 | [], _, _ => by simp [pacedB, paced]
 | e :: es, last, each => by
  rw [List.map_cons, pacedB, Bool.and_eq_true, decide_eq_true_iff]
  show ((last : Int) ≤ (e.tick : Int) ∧ (e.tick : Int) < (n : Int) ∧ eachI last each (e.tick : Int) ≤ 32) ∧ pacedB n (e.tick : Int) (eachI last each (e.tick : Int)) (es.map En.ev) = true ↔ _
  rw [each_eq, pacedB_map n es e.tick]
  rw [paced]
  constructor
  ·rintro ⟨⟨a, b, c⟩, d⟩; exact ⟨by omega, by omega, c, d⟩
  ·rintro ⟨a, b, c, d⟩; exact ⟨⟨by omega, by omega, c⟩, d⟩
theorem pacedB_en (n : Int) : ∀ (evs : List Ev) (last : Nat) (each : Nat), pacedB n last each evs = true → ∃ es : List En, evs = es.map En.ev
 | [], _, _, _ => ⟨[], rfl⟩
 | x :: evs, last, each, h => by
  rw [pacedB, Bool.and_eq_true, decide_eq_true_iff] at h
  obtain ⟨⟨h1, h2, h3⟩, h4⟩ := h
  obtain ⟨t, ht⟩ : ∃ t : Nat, x.tick = (t : Int) := ⟨x.tick.toNat, by omega⟩
  rw [ht] at h4
  obtain ⟨es, rfl⟩ := pacedB_en n evs t _ h4
  exact ⟨⟨t, x.player, x.doing, x.kind, x.unit, x.tile, x.target⟩ :: es, by
   rw [List.map_cons]
   congr 1
   obtain ⟨a, b, c, d, e, f, g⟩ := x
   simp only at ht
   rw [ht]; rfl⟩
theorem En.fits_of {e : En} (h : (En.ev e).fits) : e.fits := by
 obtain ⟨h1, h2, h3, h4, h5, h6⟩ := h
 simp only [En.ev] at h1 h2 h3 h4 h5 h6
 exact ⟨h1, h2, h6, by omega, by omega, by omega⟩
theorem take_put {n : Int} {evs : List Ev} {L : List Nat} (hf : ∀ x ∈ evs, x.fits) (hl : evs.length ≤ 1000000) (h : putL n evs = some L) : ∃ es : List En, evs = es.map En.ev ∧ takeL n L = some es := by
 unfold putL at h
 split at h
 ·rename_i hq
  obtain ⟨h1, h2, h3⟩ := hq
  cases h
  obtain ⟨nn, rfl⟩ : ∃ nn : Nat, n = (nn : Int) := ⟨n.toNat, by omega⟩
  obtain ⟨es, rfl⟩ := pacedB_en _ evs 0 0 h3
  refine ⟨es, rfl, ?_⟩
  have hp := (pacedB_map nn es 0 0).1 h3
  unfold takeL
  rw [if_pos ⟨h1, h2⟩, List.length_map, pN_put (by rw [List.length_map] at hl; omega)]
  simp only
  have he : encV 0 (es.map En.ev) = encs 0 es := encV_map es 0
  rw [he, Int.toNat_natCast]
  have := pL_put nn (by omega) es 0 0 [] (fun e he => En.fits_of (hf _ (List.mem_map_of_mem he))) hp
  rw [List.append_nil] at this
  rw [this]
 ·cases h
def PtPost (w : World) (n : Int) (evs : List Ev) (e : Ending) (w' : World) : Prop :=
 Ext w w' ∧ match putL n evs with
 | none => e = .returned (.tuple #[.slice none 0 0, .int .i64 2])
 | some L => ∃ v, e = .returned (.tuple #[v, .int .i64 0]) ∧ OwnB w.heap.size w' v L
theorem pt_ok {w w' : World} {n : Int} {evs : List Ev} {L : List Nat} {v : Value} {b : Nat} (hE : Ext w w') (h : putL n evs = some L) (hO : OwnB b w' v L) (hb : w.heap.size ≤ b) : PtPost w n evs (.returned (.tuple #[v, .int .i64 0])) w' := by
 refine ⟨hE, ?_⟩; rw [h]; exact ⟨v, rfl, hO.mono hb⟩
theorem pt_bad {w w' : World} {n : Int} {evs : List Ev} (hE : Ext w w') (h : putL n evs = none) : PtPost w n evs (.returned (.tuple #[.slice none 0 0, .int .i64 2])) w' := by
 refine ⟨hE, ?_⟩; rw [h]
theorem encV_small : ∀ (evs : List Ev) (last : Int), (∀ x ∈ evs, x.fits) → ∀ c ∈ encV last evs, c < 256
 | [], _, _, c, hc => by cases hc
 | x :: evs, last, hf, c, hc => by
  obtain ⟨h1, h2, h3, h4, h5, h6⟩ := hf x (by simp)
  rw [encV] at hc
  rcases List.mem_append.1 hc with hc | hc
  ·rcases List.mem_append.1 hc with hc | hc
   ·exact vb_mem _ c hc
   ·rcases List.mem_append.1 hc with hc | hc
    ·simp only [List.mem_cons, List.not_mem_nil, or_false] at hc
     rcases hc with rfl | rfl | rfl <;> assumption
    ·rcases List.mem_append.1 hc with hc | hc
     ·exact vb_mem _ c hc
     ·rcases List.mem_append.1 hc with hc | hc
      ·exact vb_mem _ c hc
      ·exact vb_mem _ c hc
  ·exact encV_small evs x.tick (fun y hy => hf y (by simp [hy])) c hc
theorem putL_small {n : Int} {evs : List Ev} {L : List Nat} (hf : ∀ x ∈ evs, x.fits) (h : putL n evs = some L) : ∀ c ∈ L, c < 256 := by
 unfold putL at h
 split at h
 ·cases h
  intro c hc
  rcases List.mem_append.1 hc with hc | hc
  ·exact vb_mem _ c hc
  ·exact encV_small evs 0 hf c hc
 ·cases h
theorem putL_len {n : Int} {evs : List Ev} {L : List Nat} (hf : ∀ x ∈ evs, x.fits) (hl : evs.length ≤ 1000) (h : putL n evs = some L) : L.length ≤ 100000 := by
 have hv : ∀ (es : List En) (last : Nat), (∀ e ∈ es, e.fits ∧ e.tick ≤ 4096) → (encs last es).length ≤ 43 * es.length := by
  intro es
  induction es with
  | nil => intro _ _; simp [encs]
  | cons e es ih =>
   intro last hfe
   have h1 := ih e.tick (fun x hx => hfe x (by simp [hx]))
   obtain ⟨⟨_, _, _, a, b, c⟩, d⟩ := hfe e (by simp)
   rw [encs, List.length_append, enc1_len, List.length_cons]
   have := vb_ten (n := e.tick - last) (by omega)
   have := vb_ten (n := e.unit) (by omega)
   have := vb_ten (n := e.tile) (by omega)
   have := vb_ten (n := e.target) (by omega)
   omega
 have h0 := h
 unfold putL at h
 split at h
 ·rename_i hq
  obtain ⟨h1, h2, h3⟩ := hq
  cases h
  obtain ⟨nn, rfl⟩ : ∃ nn : Nat, n = (nn : Int) := ⟨n.toNat, by omega⟩
  obtain ⟨es, rfl⟩ := pacedB_en _ evs 0 0 h3
  have hp := (pacedB_map nn es 0 0).1 h3
  have he : encV 0 (es.map En.ev) = encs 0 es := encV_map es 0
  rw [he, List.length_append]
  rw [List.length_map] at hl ⊢
  have hb : ∀ (es : List En) (last each : Nat), paced nn last each es → ∀ e ∈ es, e.tick < nn := by
   intro es
   induction es with
   | nil => intro _ _ _ e he; cases he
   | cons x es ih =>
    intro last each hp e he
    obtain ⟨p1, p2, p3, p4⟩ := hp
    rcases List.mem_cons.1 he with rfl | he
    ·exact p2
    ·exact ih _ _ p4 e he
  have h5 := hv es 0 (fun e he => ⟨En.fits_of (hf _ (List.mem_map_of_mem he)), by have := hb es 0 0 hp e he; omega⟩)
  have := vb_ten (n := es.length) (by omega)
  omega
 ·cases h
end Go.Proofs.YtidnboeihkeljaaGreatDoor.Log
