/- The walk of the law on who arrives: the loop. -/
import Derived.Test.YtdbjknljdplinaaFixE
import Derived.IntWalk
namespace Go.Proofs.Ytdbjknljdplinaa.Fix
open Go.ChangeShapes Go.WideShapes Go.ChangeAt Go.RowKit
set_option maxHeartbeats 16000000 in
set_option maxRecDepth 100000 in
theorem arrives (a b c d part all : Nat) (ha : a < 256) (hb : b < 256) (hc : c < 256) (hd : d < 256) (hpart : part < 65536) (hall : all < 65536) (w : World) :
    Calls Try.prog 5 #[.int .u8 (a : Int), .int .u8 (b : Int), .int .u8 (c : Int), .int .u8 (d : Int), .int .u16 (part : Int), .int .u16 (all : Int)] w fun e w' => e = .returned (.bool true) ∧ Ext w w' := by
  go_enter Try.func5, Try.ntmps5
  go_wp2_with fail
  refine (middle_yes _ _ (by omega) (by omega) (by omega) (by omega) _).mono ?_
  rintro e w1 ⟨rfl, b1⟩
  go_wp2_with fail
  refine (middle_yes _ _ (by omega) (by omega) (by omega) (by omega) _).mono ?_
  rintro e w2 ⟨rfl, b2⟩
  obtain ⟨px, hpx⟩ : ∃ px : Int, px = (a : Int) % 64 * 256 + 128 := ⟨_, rfl⟩
  obtain ⟨py, hpy⟩ : ∃ px : Int, px = (b : Int) % 64 * 256 + 128 := ⟨_, rfl⟩
  obtain ⟨qx, hqx⟩ : ∃ px : Int, px = (c : Int) % 64 * 256 + 128 := ⟨_, rfl⟩
  obtain ⟨qy, hqy⟩ : ∃ px : Int, px = (d : Int) % 64 * 256 + 128 := ⟨_, rfl⟩
  rw [← hpx, ← hpy, ← hqx, ← hqy]
  have px1 : 0 ≤ px := by omega
  have px2 : px ≤ 16384 := by omega
  have py1 : 0 ≤ py := by omega
  have py2 : py ≤ 16384 := by omega
  have qx1 : 0 ≤ qx := by omega
  have qx2 : qx ≤ 16384 := by omega
  have qy1 : 0 ≤ qy := by omega
  have qy2 : qy ≤ 16384 := by omega
  clear hpx hpy hqx hqy
  obtain ⟨r0, hr0⟩ := root_exists (sqd px py qx qy)
  have hr0le := root_le px1 px2 py1 py2 qx1 qx2 qy1 qy2 hr0
  have HR0 := Lib.hid hr0; clear hr0
  have HP := Lib.hid (near_of px1 px2 py1 py2)
  have HQ := Lib.hid (near_of qx1 qx2 qy1 qy2)
  have HZ := Lib.hid (show IsRoot (sqd qx qy qx qy) 0 by rw [sqd_same]; exact ⟨by decide, by decide⟩)
  go_wp2_with fail
  refine (far_yes _ _ _ _ r0 HP.out HQ.out HR0.out _).mono ?_
  rintro e w4 ⟨rfl, b4⟩
  have e2 : Ext w (((w2.alloc (.cells #[.int .i32 px, .int .i32 py] 24)).alloc (.cells #[.int .i32 qx, .int .i32 qy] 24)).alloc (.cells #[.int .i32 px, .int .i32 py] 24)) := ext_alloc (ext_alloc (ext_alloc (ext_trans b1 b2) _) _) _
  have k1 := (((Blk.new w2 24 #[.int .i32 px, .int .i32 py]).alloc (.cells #[.int .i32 qx, .int .i32 qy] 24)).alloc (.cells #[.int .i32 px, .int .i32 py] 24)).ext b4
  have k2 := ((Blk.new (w2.alloc (.cells #[.int .i32 px, .int .i32 py] 24)) 24 #[.int .i32 qx, .int .i32 qy]).alloc (.cells #[.int .i32 px, .int .i32 py] 24)).ext b4
  have k3 := (Blk.new ((w2.alloc (.cells #[.int .i32 px, .int .i32 py] 24)).alloc (.cells #[.int .i32 qx, .int .i32 qy] 24)) 24 #[.int .i32 px, .int .i32 py]).ext b4
  have e4 : Ext w w4 := ext_trans e2 b4
  have hB : w.heap.size ≤ w2.heap.size := (ext_trans b1 b2).size
  simp only [World.size_alloc] at k2 k3
  have K1 := Lib.hid k1; have K2 := Lib.hid k2; have K3 := Lib.hid k3
  clear k1 k2 k3 b4 e2 b1 b2
  go_wp2_with fail
  go_loopw [17, 18, 19] (fun th i _ wr => ARel w w2.heap.size px py qx qy r0 th i wr) (fun _ i _ _ => r0 / 256 + 2 - (intOf i).toNat)
  case atStart => exact ⟨0, r0, px, py, false, by omega, rfl, rfl, K1.out, K2.out, K3.out, e4, px1, px2, py1, py2, HR0.out, fun _ => by omega, fun h => by cases h⟩
  case round =>
    clear K1 K2 K3 e4
    obtain ⟨k, r, x, y, bb, hk, rfl, rfl, k1, k2, k3, ex, x1, x2, y1, y2, hr, hno, hyes⟩ := hrel
    have hrle := root_le x1 x2 y1 y2 qx1 qx2 qy1 qy2 hr
    have HR := Lib.hid hr; clear hr
    have HN := Lib.hid (near_of x1 x2 y1 y2)
    have K1 := Lib.hid k1; have K2 := Lib.hid k2; have K3 := Lib.hid k3
    clear k1 k2 k3
    cases bb with
    | false =>
      have hno := hno rfl
      have hlt : (k : Int) < (r0 : Int) / 256 + 2 := by omega
      clear hyes
      obtain ⟨c0, c1, f0, f1⟩ := K3.out.two
      obtain ⟨d0, d1, _, _⟩ := K2.out.two
      go_wp2_with fail
      refine (far_yes _ _ _ _ r HN.out HQ.out HR.out _).mono ?_
      rintro e w5 ⟨rfl, b5⟩
      clear c0 c1 d0 d1 f0 f1
      obtain ⟨c0, c1, f0, f1⟩ := (K3.out.ext b5).two
      obtain ⟨d0, d1, _, _⟩ := (K2.out.ext b5).two
      by_cases hs : r ≤ 256
      · go_wp2_with fail
        refine (toward_there _ _ _ _ 256 r HN.out HQ.out (by omega) (by omega) HR.out (by omega) _).mono ?_
        rintro e w6 ⟨rfl, b6⟩
        clear c0 c1 d0 d1 f0 f1
        have b56 := ext_trans b5 b6
        obtain ⟨c0, c1, f0, f1⟩ := (K3.out.ext b56).two
        obtain ⟨d0, d1, _, _⟩ := (K2.out.ext b56).two
        have l6 := (K3.out.ext b56).lt
        go_wp2_with fail
        refine (far_yes _ _ _ _ 0 HQ.out HQ.out HZ.out _).mono ?_
        rintro e w7 ⟨rfl, b7⟩
        have k1 := ((K1.out.ext b56).far2 (g' := w2.heap.size + 1 + 1) (c := .int .i32 qx) (d := .int .i32 qy) (by omega)).ext b7
        have k2 := ((K2.out.ext b56).far2 (g' := w2.heap.size + 1 + 1) (c := .int .i32 qx) (d := .int .i32 qy) (by omega)).ext b7
        have k3 := ((K3.out.ext b56).put2 (c := .int .i32 qx) (d := .int .i32 qy)).ext b7
        have e7 := ext_trans (ext_put2 (g := w2.heap.size + 1 + 1) (ext_trans ex b56) (by omega) (.int .i32 qx) (.int .i32 qy)) b7
        have K1' := Lib.hid k1; have K2' := Lib.hid k2; have K3' := Lib.hid k3
        clear k1 k2 k3 c0 c1 d0 d1 f0 f1
        go_wp2_with fail
        go_roundw
        case rel => exact ⟨k + 1, 0, qx, qy, true, by omega, rfl, by go_num, K1'.out, K2'.out, K3'.out, e7, qx1, qx2, qy1, qy2, HZ.out, (fun h => by cases h), fun _ => ⟨rfl, rfl⟩⟩
        case measure => simp [intOf]; omega
      · obtain ⟨r', hr'⟩ := root_exists (sqd (x + pt (qx - x) 256 r) (y + pt (qy - y) 256 r) qx qy)
        have hstep := step_root HR.out (by omega) hr'
        obtain ⟨xi1, xi2⟩ := step_in (d := qx - x) (s := 256) (r := r) (by omega) (by omega) (by omega) x1 x2 (by omega) (by omega)
        obtain ⟨yi1, yi2⟩ := step_in (d := qy - y) (s := 256) (r := r) (by omega) (by omega) (by omega) y1 y2 (by omega) (by omega)
        have HR' := Lib.hid hr'; clear hr'
        have HT := Lib.hid (toward_goes x y qx qy 256 r HN.out HQ.out (by omega) (by omega) HR.out (by omega))
        generalize x + pt (qx - x) 256 r = x' at *
        generalize y + pt (qy - y) 256 r = y' at *
        have HN' := Lib.hid (near_of xi1 xi2 yi1 yi2)
        go_wp2_with fail
        refine (HT.out _).mono ?_
        rintro e w6 ⟨rfl, b6⟩
        clear c0 c1 d0 d1 f0 f1
        have b56 := ext_trans b5 b6
        obtain ⟨c0, c1, f0, f1⟩ := (K3.out.ext b56).two
        obtain ⟨d0, d1, _, _⟩ := (K2.out.ext b56).two
        have l6 := (K3.out.ext b56).lt
        go_wp2_with fail
        refine (far_yes _ _ _ _ r' HN'.out HQ.out HR'.out _).mono ?_
        rintro e w7 ⟨rfl, b7⟩
        have k1 := ((K1.out.ext b56).far2 (g' := w2.heap.size + 1 + 1) (c := .int .i32 x') (d := .int .i32 y') (by omega)).ext b7
        have k2 := ((K2.out.ext b56).far2 (g' := w2.heap.size + 1 + 1) (c := .int .i32 x') (d := .int .i32 y') (by omega)).ext b7
        have k3 := ((K3.out.ext b56).put2 (c := .int .i32 x') (d := .int .i32 y')).ext b7
        have e7 := ext_trans (ext_put2 (g := w2.heap.size + 1 + 1) (ext_trans ex b56) (by omega) (.int .i32 x') (.int .i32 y')) b7
        have K1' := Lib.hid k1; have K2' := Lib.hid k2; have K3' := Lib.hid k3
        clear k1 k2 k3 c0 c1 d0 d1 f0 f1
        go_wp2_with fail
        go_roundw
        case rel => exact ⟨k + 1, r', x', y', false, by omega, rfl, by go_num, K1'.out, K2'.out, K3'.out, e7, xi1, xi2, yi1, yi2, HR'.out, (fun _ => by omega), fun h => by cases h⟩
        case measure => simp [intOf]; omega
    | true =>
      obtain ⟨rfl, rfl⟩ := hyes rfl
      clear hno hyes
      obtain ⟨n, hn⟩ : ∃ n : Int, n = 1 + (all : Int) := ⟨_, rfl⟩
      obtain ⟨j, hj⟩ : ∃ j : Int, j = (part : Int) % n := ⟨_, rfl⟩
      have hn1 : 1 ≤ n := by omega
      have hn2 : n ≤ 65536 := by omega
      have hj0 : 0 ≤ j := by rw [hj]; exact Int.emod_nonneg _ (by omega)
      have hj1 : j < n := by rw [hj]; exact Int.emod_lt_of_pos _ (by omega)
      have HB1 := Lib.hid (fun W => between_yes px py x y j n HP.out HQ.out hn1 (by omega) hj0 (by omega) W)
      have HB2 := Lib.hid (fun W => between_yes px py x y (j + 1) n HP.out HQ.out hn1 (by omega) (by omega) (by omega) W)
      have HB0 := Lib.hid (fun W => between_yes px py x y 0 n HP.out HQ.out hn1 (by omega) (by omega) (by omega) W)
      have HBn := Lib.hid (fun W => between_yes px py x y n n HP.out HQ.out hn1 (by omega) (by omega) (by omega) W)
      have HX := Lib.hid (goes (x := px) (u := x) (b := j + 1) hj0 (by omega) (show j + 1 ≤ n by omega) hn1)
      have HY := Lib.hid (goes (x := py) (u := y) (b := j + 1) hj0 (by omega) (show j + 1 ≤ n by omega) hn1)
      rw [part_zero, part_zero] at HB0
      rw [part_all _ _ _ hn1, part_all _ _ _ hn1] at HBn
      generalize px + pt (x - px) j n = u0 at *
      generalize py + pt (y - py) j n = u1 at *
      generalize px + pt (x - px) (j + 1) n = v0 at *
      generalize py + pt (y - py) (j + 1) n = v1 at *
      have HN1 := Lib.hid hn; have HJ1 := Lib.hid hj; clear hn hj
      by_cases hlt : (k : Int) < (r0 : Int) / 256 + 2
      all_goals
        obtain ⟨c0, c1, f0, f1⟩ := K3.out.two
        obtain ⟨d0, d1, _, _⟩ := K2.out.two
        obtain ⟨p0, p1, _, _⟩ := K1.out.two
        go_upto_region 16 with fail
        rw [← HN1.out, ← HJ1.out]
        go_cut [22, 23] (fun s22 s23 wx => ∃ g1 g2 : Nat, s22 = .pointer (some ⟨g1, 0, none⟩) ∧ s23 = .pointer (some ⟨g2, 0, none⟩) ∧ Blk wx g1 24 #[.int .i32 u0, .int .i32 u1] ∧ Blk wx g2 24 #[.int .i32 v0, .int .i32 v1] ∧ Blk wx w2.heap.size 24 #[.int .i32 px, .int .i32 py] ∧ Blk wx (w2.heap.size + 1) 24 #[.int .i32 x, .int .i32 y] ∧ Ext w wx)
        case first =>
          have hw : IntKind.i64.wrap (j + 1) = j + 1 := IntWalk.i64_in _ (by omega)
          have MKS := Lib.hid (fun (w' : World) (e : Ext wr w') => (⟨kc e p0, kc e p1, kc e d0, kc e d1, Lib.hid e⟩ : w'.cell? ⟨w2.heap.size, 0, none⟩ = some (.int .i32 px) ∧ w'.cell? ⟨w2.heap.size, 1, none⟩ = some (.int .i32 py) ∧ w'.cell? ⟨w2.heap.size + 1, 0, none⟩ = some (.int .i32 x) ∧ w'.cell? ⟨w2.heap.size + 1, 1, none⟩ = some (.int .i32 y) ∧ Hid (Ext wr w')))
          have zT := Lib.hid (Ext.rfl' wr)
          have hz : wr.heap.size ≤ wr.heap.size := Nat.le_refl _
          go_region_held3 (fun w' => w'.cell? ⟨w2.heap.size, 0, none⟩ = some (.int .i32 px) ∧ w'.cell? ⟨w2.heap.size, 1, none⟩ = some (.int .i32 py) ∧ w'.cell? ⟨w2.heap.size + 1, 0, none⟩ = some (.int .i32 x) ∧ w'.cell? ⟨w2.heap.size + 1, 1, none⟩ = some (.int .i32 y) ∧ Hid (Ext wr w'))
            ((refine MKS.out _ ?_; repeat (first | exact zT.out | refine ext_alloc ?_ _ | refine ext_drew ?_ | refine ext_set ?_ (by first | omega | (simp; done) | (simp; omega)) _)))
            (first | (go_at_call 19; ((with_reducible refine (HB1.out _).mono ?_); rintro e w8 ⟨rfl, b8⟩; go_split_ands; have zT : Hid (Ext wr w8) := Lib.hid (ext_trans (Hid.out (by assumption)) b8); have hz := zT.out.size; obtain ⟨hcl, hfr⟩ := ecell b8; have hz8 := b8.size; (try simp at hz8); (try have q1 : wr.heap.size < w8.heap.size := by omega); (try have q2 : wr.heap.size + 1 < w8.heap.size := by omega))) | (go_at_call 19; ((with_reducible refine (HB2.out _).mono ?_); rintro e w9 ⟨rfl, b9⟩; go_split_ands; have zT : Hid (Ext wr w9) := Lib.hid (ext_trans (Hid.out (by assumption)) b9); have hz := zT.out.size; obtain ⟨hcl, hfr⟩ := ecell b9; have hz9 := b9.size; (try simp at hz9); (try have q3 : wr.heap.size < w9.heap.size := by omega); (try have q4 : wr.heap.size + 1 < w9.heap.size := by omega); (try have q5 : w8.heap.size < w9.heap.size := by omega); (try have q6 : w8.heap.size + 1 < w9.heap.size := by omega))))
          all_goals
            go_wp2_with fail
            go_meet
            go_split_ands
            refine ⟨_, _, rfl, rfl, ?_, ?_, K1.out.ext (Hid.out (by assumption)), K2.out.ext (Hid.out (by assumption)), ext_trans ex (Hid.out (by assumption))⟩
            all_goals repeat (first | with_reducible exact Blk.new _ _ _ | with_reducible exact Blk.new1 _ _ _ _ | with_reducible exact Blk.newD _ _ _ | with_reducible exact Blk.new1D _ _ _ _ | with_reducible exact Blk.newS _ _ _ _ _ _ _ | with_reducible refine Blk.drew ?_ | with_reducible refine Blk.alloc ?_ _ | with_reducible refine Blk.put2 (a := .int .i32 0) (b := .int .i32 0) ?_ | ((with_reducible refine Blk.far2 ?_ ?_); rotate_left; omega) | with_reducible refine Blk.ext ?_ b9 | with_reducible refine Blk.ext ?_ b8)
        case rest =>
          obtain ⟨g1, g2, rfl, rfl, k4, k5, k1, k2, ex2⟩ := hcut
          obtain ⟨p0, p1, _, _⟩ := k1.two
          obtain ⟨d0, d1, _, _⟩ := k2.two
          obtain ⟨s0, s1, _, _⟩ := k4.two
          obtain ⟨t0, t1, _, _⟩ := k5.two
          have MKS := Lib.hid (fun (w' : World) (e : Ext wc w') => (⟨kc e p0, kc e p1, kc e d0, kc e d1, kc e s0, kc e s1, kc e t0, kc e t1, Lib.hid e⟩ : w'.cell? ⟨w2.heap.size, 0, none⟩ = some (.int .i32 px) ∧ w'.cell? ⟨w2.heap.size, 1, none⟩ = some (.int .i32 py) ∧ w'.cell? ⟨w2.heap.size + 1, 0, none⟩ = some (.int .i32 x) ∧ w'.cell? ⟨w2.heap.size + 1, 1, none⟩ = some (.int .i32 y) ∧ w'.cell? ⟨g1, 0, none⟩ = some (.int .i32 u0) ∧ w'.cell? ⟨g1, 1, none⟩ = some (.int .i32 u1) ∧ w'.cell? ⟨g2, 0, none⟩ = some (.int .i32 v0) ∧ w'.cell? ⟨g2, 1, none⟩ = some (.int .i32 v1) ∧ Hid (Ext wc w')))
          have E0 := Lib.hid (ext_drew (Ext.rfl' wc))
          clear k1 k2 k4 k5
          go_wp2_with fail
          go_region_held3 (fun w' => w'.cell? ⟨w2.heap.size, 0, none⟩ = some (.int .i32 px) ∧ w'.cell? ⟨w2.heap.size, 1, none⟩ = some (.int .i32 py) ∧ w'.cell? ⟨w2.heap.size + 1, 0, none⟩ = some (.int .i32 x) ∧ w'.cell? ⟨w2.heap.size + 1, 1, none⟩ = some (.int .i32 y) ∧ w'.cell? ⟨g1, 0, none⟩ = some (.int .i32 u0) ∧ w'.cell? ⟨g1, 1, none⟩ = some (.int .i32 u1) ∧ w'.cell? ⟨g2, 0, none⟩ = some (.int .i32 v0) ∧ w'.cell? ⟨g2, 1, none⟩ = some (.int .i32 v1) ∧ Hid (Ext wc w'))
            (first | assumption | exact MKS.out _ E0.out | (go_split_ands; exact MKS.out _ (ext_trans (Hid.out (by assumption)) b9)))
            (first | (go_at_call 19; ((with_reducible refine (HB0.out _).mono ?_); rintro e w9 ⟨rfl, b9⟩)) | (go_at_call 19; ((with_reducible refine (HBn.out _).mono ?_); rintro e w9 ⟨rfl, b9⟩)) | (go_at_call 23; ((with_reducible refine (nearer_yes _ _ _ _ HX.out _).mono ?_); rintro e w8 ⟨rfl, rfl⟩)) | (go_at_call 23; ((with_reducible refine (nearer_yes _ _ _ _ HY.out _).mono ?_); rintro e w8 ⟨rfl, rfl⟩)) | (go_at_call 21; refine (wakes _).mono ?_; rintro e w9 ⟨rfl, b9⟩))
          go_wp2_with fail
          go_ret
          refine ⟨rfl, ext_trans ex2 ?_⟩
          go_split_ands
          exact Hid.out (by assumption)
end Go.Proofs.Ytdbjknljdplinaa.Fix
