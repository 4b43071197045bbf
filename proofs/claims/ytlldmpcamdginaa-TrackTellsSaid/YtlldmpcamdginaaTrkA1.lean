/- Tracks: the document's Camera, walked. -/
import Derived.Test.YtlldmpcamdginaaTrkS
import Derived.Test.YtlldmpcamdginaaT5
import Derived.Test.YtlldmpcamdginaaFixH
import Derived.Deep.QuietTactic
import Derived.BigQuiet
import Derived.Deep.RegionHeld3
import Derived.Deep.DeepCutAuto
namespace Go.Proofs.Ytlldmpcamdginaa.Trk
open Go.ChangeShapes Go.WideShapes Go.ChangeAt Go.RowKit
open Go.Proofs.Ytlldmpcamdginaa.Rec
open Go.Proofs.Ytlldmpcamdginaa.Fix (pt Near R rmoved)
set_option linter.unusedVariables false
def camT (x : Tk) (player tick : Int) : Int × Int × Int := if player < 0 ∨ 3 < player then (0, 0, 2) else if (x.cam player.toNat).length = 0 then (0, 0, 9) else ((camAt tick (x.cam player.toNat)).1, (camAt tick (x.cam player.toNat)).2, 0)
theorem camAt_first {ps : List Pt} (h : 0 < ps.length) {t : Int} (ht : t ≤ (ps[0]'h).tick) : camAt t ps = ((ps[0]'h).x, (ps[0]'h).y) := by
  cases ps with
  | nil => simp at h
  | cons p qs => simp only [List.getElem_cons_zero] at ht ⊢; rw [camAt, if_pos ht]
theorem camAt_last {ps : List Pt} (h : ps.length - 1 < ps.length) {t : Int} (ht : ∀ j (hj : j < ps.length), ps[j].tick < t) : camAt t ps = ((ps[ps.length - 1]'h).x, (ps[ps.length - 1]'h).y) := by
  cases ps with
  | nil => simp at h
  | cons p qs =>
    have h0 := ht 0 (by simp)
    simp only [List.getElem_cons_zero] at h0
    rw [camAt, if_neg (by omega), camGo_last t qs p (fun j hj => by have := ht j hj; omega)]
    simp
theorem cam_may {n : Int} {x : Tk} (hm : mayT n x = true) (p : Nat) (hp : p < 4) : Ord (x.cam p) ∧ (x.cam p).length ≤ 64 := by
  obtain ⟨hn, hl, ⟨a, b, c, d⟩, e⟩ := mayT_parts hm
  rcases lt5 (show p < 5 by omega) with rfl | rfl | rfl | rfl | rfl
  · exact ⟨(ord_of hn.2 _ (-1) (by omega) (by have := mayCam_c a; rw [List.drop_zero] at this; exact this)).1, mayCam_len a⟩
  · exact ⟨(ord_of hn.2 _ (-1) (by omega) (by have := mayCam_c b; rw [List.drop_zero] at this; exact this)).1, mayCam_len b⟩
  · exact ⟨(ord_of hn.2 _ (-1) (by omega) (by have := mayCam_c c; rw [List.drop_zero] at this; exact this)).1, mayCam_len c⟩
  · exact ⟨(ord_of hn.2 _ (-1) (by omega) (by have := mayCam_c d; rw [List.drop_zero] at this; exact this)).1, mayCam_len d⟩
  · omega
def RcPost (w : World) (q : Int × Int × Int) (e : Ending) (w' : World) : Prop := e = .returned (.tuple #[.int .i64 q.1, .int .i64 q.2.1, .int .i64 q.2.2]) ∧ Ext w w'
set_option maxHeartbeats 16000000 in
set_option maxRecDepth 100000 in
theorem rcam_tr (t : Tv) (x : Tk) (n player tick : Int) (w : World) (hB : RfV w t x) (hm : mayT n x = true) (hp1 : -9223372036854775808 ≤ player) (hp2 : player ≤ 9223372036854775807) (ht1 : -9223372036854775808 ≤ tick) (ht2 : tick ≤ 9223372036854775807) :
    Calls Try.prog 21 #[.agg t.cells, .int .i64 player, .int .i64 tick] w (RcPost w (camT x player tick)) := by
  have HE0 := Lib.hid (ext_alloc (Ext.rfl' w) (.cells t.cells 47))
  have HH0 := Lib.hid (Blk.new w 47 t.cells)
  have HB := Lib.hid (hB.ext HE0.out)
  have HSL := Lib.hid (sl_get t)
  have HM := Lib.hid hm
  clear hB hm
  obtain ⟨tc, htc⟩ : ∃ q, q = t.cells := ⟨_, rfl⟩
  rw [← htc] at HE0 HH0 HSL HB ⊢
  clear htc
  go_enter Try.func21, Try.ntmps21
  go_upto_region 1 with fail
  obtain ⟨w0, hw0⟩ : ∃ q, q = w.alloc (.cells tc 47) := ⟨_, rfl⟩
  obtain ⟨hb, hhb⟩ : ∃ q, q = w.heap.size := ⟨_, rfl⟩
  rw [← hw0] at HE0 HH0 HB ⊢
  rw [← hhb] at HH0 ⊢
  clear hw0 hhb
  by_cases h0 : player < 0
  · have HC : Hid (camT x player tick = (0, 0, 2)) := Lib.hid (by rw [camT, if_pos (.inl h0)])
    go_wp2_with fail
    go_ret3
    exact ⟨by rw [HC.out]; rfl, HE0.out⟩
  by_cases h3 : 3 < player
  · have HC : Hid (camT x player tick = (0, 0, 2)) := Lib.hid (by rw [camT, if_pos (.inr h3)])
    go_wp2_with fail
    go_ret3
    exact ⟨by rw [HC.out]; rfl, HE0.out⟩
  obtain ⟨p, rfl⟩ : ∃ p : Nat, player = (p : Int) := ⟨player.toNat, by omega⟩
  have hlt : p < 4 := by omega
  have y1 : (0 : Int) ≤ (p : Int) := by omega
  have y2 : (p : Int) < 4 := by omega
  have y2' : ¬ (3 : Int) < (p : Int) := by omega
  have y2n : ¬ (p : Int) < 0 := by omega
  have HPT := Lib.hid (HB.out.cam p hlt)
  have hsp := (HH0.out.cell p).trans (HSL.out p (by omega))
  obtain ⟨hO, h64⟩ := cam_may HM.out p hlt
  have HO := Lib.hid hO
  obtain ⟨⟨Ad, nl, cd⟩, hsl⟩ : ∃ q, q = t.sl p := ⟨_, rfl⟩
  rw [← hsl] at HPT hsp
  simp only at HPT hsp
  clear hsl h0 h3 hO
  have HLEN := Lib.hid HPT.out.1.1
  have hl64 : nl ≤ 64 := by rw [← HLEN.out]; exact h64
  have HCT : Hid (camT x (p : Int) tick = if nl = 0 then (0, 0, 9) else ((camAt tick (x.cam p)).1, (camAt tick (x.cam p)).2, 0)) := Lib.hid (by rw [camT, if_neg (by omega), Int.toNat_natCast, HLEN.out])
  clear h64
  by_cases hz : nl = 0
  · subst hz
    have HC := Lib.hid (HCT.out.trans (if_pos rfl))
    go_wp2_with fail
    go_ret3
    exact ⟨by rw [HC.out]; rfl, HE0.out⟩
  have HC := Lib.hid (HCT.out.trans (if_neg hz))
  have hz' : ¬ (nl : Int) = 0 := by omega
  have HZ := Lib.hid hz
  clear HCT hz
  go_wp2_with fail
  clear hsp hz'
  go_loopg [10] nl (fun gi iv wr => ∃ (k : Nat), k + gi = nl ∧ iv = .int .i64 (k : Int) ∧ wr = w0 ∧ ∀ j (hj : j < (x.cam p).length), j < k → (x.cam p)[j].tick < tick)
  case atStart => exact ⟨0, by omega, rfl, rfl, fun j _ h => by omega⟩
  case round =>
    obtain ⟨k, hk, rfl, hwr, hlo⟩ := hrel
    replace hwr := hwr.symm
    subst hwr
    obtain ⟨gi, rfl⟩ : ∃ gh : Nat, gh = gk := ⟨_, rfl⟩
    have HLO := Lib.hid hlo
    clear hlo
    have y3 : (0 : Int) ≤ (k : Int) := by omega
    by_cases hki : k < nl
    · have y4 : (k : Int) < (nl : Int) := by omega
      have hke : k < (x.cam p).length := by rw [HLEN.out]; exact hki
      obtain ⟨b, o, rfl, hbw, hc⟩ := HPT.out.1.2 (by omega)
      have HCE := Lib.hid hc
      have q := hc k hke
      have hin := HO.out.at k hke
      have HU : Hid (∀ h : k < (x.cam p).length, (x.cam p)[k] = (x.cam p)[k]) := Lib.hid (fun _ => rfl)
      obtain ⟨u, hu⟩ : ∃ q, q = (x.cam p)[k] := ⟨_, rfl⟩
      have HUU := Lib.hid hu
      rw [← hu] at q hin
      clear hu HU
      obtain ⟨tk, px, py⟩ := u
      have a0 := q 0 (by omega); have a1 := q 1 (by omega); have a2 := q 2 (by omega)
      simp only [cR, Nat.add_zero, List.getElem?_cons_zero, List.getElem?_cons_succ] at a0 a1 a2 hin
      clear hc q
      by_cases hlt2 : tk < tick
      · have HNX : Hid (∀ j (hj : j < (x.cam p).length), j < k + 1 → (x.cam p)[j].tick < tick) := Lib.hid (fun j hj h => by
          by_cases hjk : j = k
          · subst hjk; rw [← HUU.out]; exact hlt2
          · exact HLO.out j hj (by omega))
        go_wp2_with fail
        go_roundg (gi - 1)
        case measure => omega
        case rel => exact ⟨k + 1, by omega, by go_num, rfl, HNX.out⟩
      · have hat : (k = 0 ∨ tk = tick) → camAt tick (x.cam p) = (px, py) := fun h => by
          rcases h with rfl | rfl
          · rw [camAt_first (by omega) (by rw [← HUU.out]; simp only; omega), ← HUU.out]
          · have := camAt_at HO.out k hke; rw [← HUU.out] at this; exact this
        by_cases hk0 : k = 0
        · have HAT := Lib.hid (hat (.inl hk0))
          subst hk0
          rw [Nat.zero_mul, Nat.add_zero] at a0 a1 a2
          clear hat
          go_upto_region 11 with fail
          go_quiet (fail)
          go_wp2_with fail
          go_ret3
          exact ⟨by rw [HC.out, HAT.out]; rfl, ext_drewN HE0.out _⟩
        · have hk0' : ¬ (k : Int) = 0 := by omega
          by_cases hte : tk = tick
          · have HAT := Lib.hid (hat (.inr hte))
            clear hat
            go_upto_region 11 with fail
            go_quiet (fail)
            go_wp2_with fail
            go_ret3
            exact ⟨by rw [HC.out, HAT.out]; rfl, ext_drewN HE0.out _⟩
          · clear hat
            have hkb : ((k : Int) == 0) = false := beq_eq_false_iff_ne.2 hk0'
            have hteb : (tk == tick) = false := beq_eq_false_iff_ne.2 hte
            have hk1 : k - 1 < (x.cam p).length := by omega
            have hlp := HLO.out (k - 1) hk1 (by omega)
            have hin0 := HO.out.at (k - 1) hk1
            have q := HCE.out (k - 1) hk1
            have HW : Hid (camAt tick (x.cam p) = ((x.cam p)[k - 1].x + pt (px - (x.cam p)[k - 1].x) (tick - (x.cam p)[k - 1].tick) (tk - (x.cam p)[k - 1].tick), (x.cam p)[k - 1].y + pt (py - (x.cam p)[k - 1].y) (tick - (x.cam p)[k - 1].tick) (tk - (x.cam p)[k - 1].tick))) := Lib.hid (by
              have h1 : k - 1 + 1 < (x.cam p).length := by omega
              have e : (x.cam p)[k - 1 + 1]'h1 = ⟨tk, px, py⟩ := by rw [HUU.out]; congr 1; omega
              have := camAt_way HO.out (k - 1) h1 tick (by omega) (by rw [e]; simp only; omega)
              rw [e] at this
              exact this)
            obtain ⟨v, hv⟩ : ∃ q, q = (x.cam p)[k - 1] := ⟨_, rfl⟩
            rw [← hv] at q hin0 hlp HW
            clear hv
            obtain ⟨t0, p0, p1⟩ := v
            have z0 := q 0 (by omega); have z1 := q 1 (by omega); have z2 := q 2 (by omega)
            simp only [cR, Nat.add_zero, List.getElem?_cons_zero, List.getElem?_cons_succ] at z0 z1 z2 hin0 hlp HW
            clear q hk1
            have v1 : (1 : Int) ≤ (k : Int) := by omega
            have v2 : (0 : Int) ≤ (k : Int) - 1 := by omega
            have v3 : (k : Int) - 1 < (nl : Int) := by omega
            have v5 : ((k : Int) - 1).toNat = k - 1 := by omega
            have v4 : IntKind.i64.wrap ((k : Int) - 1) = (k : Int) - 1 := IntWalk.i64_in _ (by omega)
            have HMV := Lib.hid (fun (W : World) => rmoved p0 p1 px py (tick - t0) (tk - t0) ⟨by omega, by omega, by omega, by omega⟩ ⟨by omega, by omega, by omega, by omega⟩ (by omega) (by omega) (by omega) (by omega) (by omega) W)
            have s1 : IntKind.i64.wrap (tick - t0) = tick - t0 := IntWalk.i64_in _ (by omega)
            have s2 : IntKind.i64.wrap (tk - t0) = tk - t0 := IntWalk.i64_in _ (by omega)
            have HXB := Lib.hid (Blk.new w0 113 #[.int .i64 t0, .int .i64 p0, .int .i64 p1])
            have HXE := Lib.hid (ext_alloc (Ext.rfl' w0) (.cells #[.int .i64 t0, .int .i64 p0, .int .i64 p1] 113))
            go_upto_region 13 with fail
            obtain ⟨wx, hwx⟩ : ∃ q, q = w0.alloc (.cells #[.int .i64 t0, .int .i64 p0, .int .i64 p1] 113) := ⟨_, rfl⟩
            rw [← hwx] at HXE HXB ⊢
            clear hwx
            obtain ⟨xb, hxb⟩ : ∃ q, q = w0.heap.size := ⟨_, rfl⟩
            rw [← hxb] at HXB ⊢
            clear hxb z0 z1 z2
            have HEX := Lib.hid (ext_trans HE0.out HXE.out)
            replace a0 := kc HXE.out a0; replace a1 := kc HXE.out a1; replace a2 := kc HXE.out a2
            have x0 := HXB.out.cell 0; have x1 := HXB.out.cell 1; have x2 := HXB.out.cell 2
            simp only [List.getElem?_toArray, List.getElem?_cons_zero, List.getElem?_cons_succ] at x0 x1 x2
            obtain ⟨mx, hmx⟩ : ∃ q, q = p0 + pt (px - p0) (tick - t0) (tk - t0) := ⟨_, rfl⟩
            obtain ⟨my, hmy⟩ : ∃ q, q = p1 + pt (py - p1) (tick - t0) (tk - t0) := ⟨_, rfl⟩
            rw [← hmx, ← hmy] at HMV HW
            clear hmx hmy hin hin0
            go_cut [12] (fun s12 wz => ∃ g1 : Nat, s12 = .pointer (some ⟨g1, 0, none⟩) ∧ Blk wz g1 120 #[.int .i64 mx, .int .i64 my] ∧ Ext wx wz)
            case first =>
              have MKS := Lib.hid (fun (w' : World) (e : Ext wx w') => (⟨kc e a0, kc e a1, kc e a2, kc e x0, kc e x1, kc e x2, Lib.hid e⟩ : w'.cell? ⟨b, o + k * 3, none⟩ = some (.int .i64 tk) ∧ w'.cell? ⟨b, o + k * 3 + 1, none⟩ = some (.int .i64 px) ∧ w'.cell? ⟨b, o + k * 3 + 2, none⟩ = some (.int .i64 py) ∧ w'.cell? ⟨xb, 0, none⟩ = some (.int .i64 t0) ∧ w'.cell? ⟨xb, 1, none⟩ = some (.int .i64 p0) ∧ w'.cell? ⟨xb, 2, none⟩ = some (.int .i64 p1) ∧ Hid (Ext wx w')))
              have zT := Lib.hid (Ext.rfl' wx)
              have hz : wx.heap.size ≤ wx.heap.size := Nat.le_refl _
              go_region_held3 (fun w' => w'.cell? ⟨b, o + k * 3, none⟩ = some (.int .i64 tk) ∧ w'.cell? ⟨b, o + k * 3 + 1, none⟩ = some (.int .i64 px) ∧ w'.cell? ⟨b, o + k * 3 + 2, none⟩ = some (.int .i64 py) ∧ w'.cell? ⟨xb, 0, none⟩ = some (.int .i64 t0) ∧ w'.cell? ⟨xb, 1, none⟩ = some (.int .i64 p0) ∧ w'.cell? ⟨xb, 2, none⟩ = some (.int .i64 p1) ∧ Hid (Ext wx w'))
                ((refine MKS.out _ ?_; repeat (first | exact zT.out | refine ext_alloc ?_ _ | refine ext_drew ?_ | refine ext_set ?_ (by first | omega | (simp; done) | (simp; omega)) _)))
                (first | (go_at_call 50; ((with_reducible refine (HMV.out _).mono ?_); rintro e w8 ⟨rfl, b8⟩; go_split_ands; have zT : Hid (Ext wx w8) := Lib.hid (ext_trans (by first | exact zT.out | exact ext_alloc zT.out _ | exact ext_drew zT.out | exact ext_alloc (ext_drew zT.out) _ | exact ext_drew (ext_alloc zT.out _)) b8); have hz := zT.out.size; obtain ⟨hcl, hfr⟩ := ecell b8)))
              all_goals
                go_wp2_with fail
                go_meet
                go_split_ands
                refine ⟨_, rfl, ?_, ?_⟩
                · first | exact Blk.new _ _ _ | exact (((Blk.newD wx _ #[.int .i64 0, .int .i64 0]).ext b8).set_ 0 _).set_ 1 _ | exact (((Blk.drew (Blk.new wx _ #[.int .i64 0, .int .i64 0])).ext b8).set_ 0 _).set_ 1 _
                · first | exact ext_alloc zT.out _ | exact ext_set (ext_set zT.out (Nat.le_refl _) _) (Nat.le_refl _) _
            case rest =>
              obtain ⟨g1, rfl, k1, ex⟩ := hcut
              have HEZ := Lib.hid (ext_trans HEX.out ex)
              have c0 := k1.cell 0; have c1 := k1.cell 1
              simp only [List.getElem?_toArray, List.getElem?_cons_zero, List.getElem?_cons_succ] at c0 c1
              clear ex k1 a0 a1 a2 x0 x1 x2
              go_upto_region 14 with fail
              go_quiet (fail)
              go_wp2_with fail
              go_ret3
              exact ⟨by rw [HC.out, HW.out]; rfl, ext_drewN HEZ.out _⟩
    · obtain rfl : gi = 0 := by omega
      obtain rfl : k = nl := by omega
      have y4 : ¬ (k : Int) < (k : Int) := by omega
      have hz := HZ.out
      have hk1 : (x.cam p).length - 1 < (x.cam p).length := by have := HLEN.out; omega
      have hl := camAt_last hk1 (t := tick) (fun j hj => HLO.out j hj (by rw [← HLEN.out]; exact hj))
      obtain ⟨b, o, rfl, hbw, hc⟩ := HPT.out.1.2 (by omega)
      have q := hc ((x.cam p).length - 1) hk1
      obtain ⟨v, hv⟩ : ∃ q, q = (x.cam p)[(x.cam p).length - 1] := ⟨_, rfl⟩
      rw [← hv] at q hl
      clear hv
      obtain ⟨t0, p0, p1⟩ := v
      rw [HLEN.out] at q
      have z1 := q 1 (by omega); have z2 := q 2 (by omega)
      simp only [cR, Nat.add_zero, List.getElem?_cons_zero, List.getElem?_cons_succ] at z1 z2
      have HL := Lib.hid hl
      have v1 : (1 : Int) ≤ (k : Int) := by omega
      have v2 : (0 : Int) ≤ (k : Int) - 1 := by omega
      have v3 : (k : Int) - 1 < (k : Int) := by omega
      have v5 : ((k : Int) - 1).toNat = k - 1 := by omega
      have v4 : IntKind.i64.wrap ((k : Int) - 1) = (k : Int) - 1 := IntWalk.i64_in _ (by omega)
      clear hc q hk1 hz hl
      go_upto_region 15 with fail
      go_quiet (fail)
      go_wp2_with fail
      go_ret3
      exact ⟨by rw [HC.out, HL.out]; rfl, ext_drewN HE0.out _⟩
end Go.Proofs.Ytlldmpcamdginaa.Trk
