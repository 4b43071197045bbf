/- The walk of the law that tells of points. -/
import Derived.Test.YtdbjknljdplinaaFixH
import Derived.Deep.DeepCutAuto
namespace Go.Proofs.Ytdbjknljdplinaa.Fix
open Go.ChangeShapes Go.WideShapes Go.ChangeAt Go.RowKit
set_option linter.unusedVariables false

/-- What is there of the law's own: both points, and both as the document has them. -/
def TW (w : World) (g1 g2 : Nat) (x y u v : Int) (wx : World) : Prop :=
  Blk wx w.heap.size 24 #[.int .i32 x, .int .i32 y] ∧ Blk wx (w.heap.size + 1) 24 #[.int .i32 u, .int .i32 v] ∧ Blk wx g1 26 #[.int .i64 x, .int .i64 y] ∧ Blk wx g2 26 #[.int .i64 u, .int .i64 v] ∧ Ext w wx
section
variable {w wx w' : World} {g1 g2 : Nat} {x y u v : Int}
theorem TW.ext (h : TW w g1 g2 x y u v wx) (hb : Ext wx w') : TW w g1 g2 x y u v w' := ⟨h.1.ext hb, h.2.1.ext hb, h.2.2.1.ext hb, h.2.2.2.1.ext hb, ext_trans h.2.2.2.2 hb⟩
theorem TW.alloc (h : TW w g1 g2 x y u v wx) (o : Obj) : TW w g1 g2 x y u v (wx.alloc o) := h.ext (ext_alloc (Ext.rfl' _) o)
theorem TW.put2 (h : TW w g1 g2 x y u v wx) {g : Nat} (hg : w.heap.size + 1 < g) (h1 : g1 ≠ g) (h2 : g2 ≠ g) (c d : Value) : TW w g1 g2 x y u v ((wx.setCell ⟨g, 0, none⟩ c).setCell ⟨g, 1, none⟩ d) :=
  ⟨h.1.far2 (by omega), h.2.1.far2 (by omega), h.2.2.1.far2 h1, h.2.2.2.1.far2 h2, ext_put2 h.2.2.2.2 (by omega) c d⟩
end
set_option maxHeartbeats 16000000 in
set_option maxRecDepth 100000 in
theorem tells (x y u v s a b mx my f tx ty zx zy cx cy : Int) (tb nb vb mb : Bool) (hx : I32 x) (hy : I32 y) (hu : I32 u) (hv : I32 v) (hs : I32 s) (hf : I32 f) (htx : I32 tx) (hty : I32 ty) (hzx : I32 zx) (hzy : I32 zy) (hcx : I32 cx) (hcy : I32 cy)
    (h1 : ∀ W, Calls Try.prog 15 #[P x y, P u v] W fun e w' => e = .returned (.int .i32 f) ∧ Ext W w')
    (h2 : ∀ W, Calls Try.prog 16 #[R x y, R u v] W fun e w' => e = .returned (.int .i64 f) ∧ Ext W w')
    (h3 : ∀ W, Calls Try.prog 13 #[P x y, P u v, .int .i32 s] W fun e w' => e = .returned (.tuple #[P tx ty, .bool tb]) ∧ Ext W w')
    (h4 : ∀ W, Calls Try.prog 14 #[R x y, R u v, .int .i64 s] W fun e w' => e = .returned (.tuple #[R tx ty, .bool tb]) ∧ Ext W w')
    (h5 : ∀ W, Calls Try.prog 19 #[P x y, P u v, .int .i64 a, .int .i64 b] W fun e w' => e = .returned (P zx zy) ∧ Ext W w')
    (h6 : ∀ W, Calls Try.prog 20 #[.int .i64 mx, .int .i64 my] W fun e w' => e = .returned (P cx cy) ∧ Ext W w')
    (n0 : nb = true ↔ Near x y ∧ Near u v) (n1 : nb = false → zx = 0 ∧ zy = 0) (n2 : nb = true → vb = false → zx = x ∧ zy = y) (n3 : nb = true → vb = true → ∀ W, Calls Try.prog 18 #[R x y, R u v, .int .i64 a, .int .i64 b] W fun e w' => e = .returned (R zx zy) ∧ Ext W w')
    (v0 : vb = true ↔ 1 ≤ b ∧ b ≤ 1048576 ∧ 0 ≤ a ∧ a ≤ b) (m0 : mb = true ↔ 0 ≤ mx ∧ mx < 64 ∧ 0 ≤ my ∧ my < 64) (m1 : mb = false → cx = 0 ∧ cy = 0) (m2 : mb = true → cx = 256 * mx + 128 ∧ cy = 256 * my + 128) (w : World) :
    Calls Try.prog 3 #[P x y, P u v, .int .i32 s, .int .i64 a, .int .i64 b, .int .i64 mx, .int .i64 my] w fun e w' => e = .returned (.bool true) ∧ Ext w w' := by
  have H1 := Lib.hid h1; have H2 := Lib.hid h2; have H3 := Lib.hid h3; have H4 := Lib.hid h4; have H5 := Lib.hid h5; have H6 := Lib.hid h6
  have N0 := Lib.hid n0; have N1 := Lib.hid n1; have N2 := Lib.hid n2; have N3 := Lib.hid n3; have V0 := Lib.hid v0; have M0 := Lib.hid m0; have M1 := Lib.hid m1; have M2 := Lib.hid m2
  have HBp := Lib.hid (back x y hx hy); have HBq := Lib.hid (back u v hu hv); have HBt := Lib.hid (back tx ty htx hty); have HBz := Lib.hid (back zx zy hzx hzy); have HBc := Lib.hid (back cx cy hcx hcy)
  clear h1 h2 h3 h4 h5 h6 n0 n1 n2 n3 v0 m0 m1 m2 hx hy hu hv htx hty hzx hzy hcx hcy
  obtain ⟨hs1, hs2⟩ := hs
  obtain ⟨hf1, hf2⟩ := hf
  go_enter Try.func3, Try.ntmps3
  go_upto_region 1 with fail
  have k7 := (Blk.new w 24 #[.int .i32 x, .int .i32 y]).alloc (.cells #[.int .i32 u, .int .i32 v] 24)
  have k8 := Blk.new1 w (.cells #[.int .i32 x, .int .i32 y] 24) 24 #[.int .i32 u, .int .i32 v]
  have ex : Ext w ((w.alloc (.cells #[.int .i32 x, .int .i32 y] 24)).alloc (.cells #[.int .i32 u, .int .i32 v] 24)) := ext_alloc (ext_alloc (Ext.rfl' _) _) _
  generalize (w.alloc (.cells #[.int .i32 x, .int .i32 y] 24)).alloc (.cells #[.int .i32 u, .int .i32 v] 24) = wr at *
  have l8 := k8.lt
  have K7 := Lib.hid k7; have K8 := Lib.hid k8; clear k7 k8
  go_cut [15, 16] (fun s15 s16 wx => ∃ g1 g2 : Nat, s15 = .pointer (some ⟨g1, 0, none⟩) ∧ s16 = .pointer (some ⟨g2, 0, none⟩) ∧ TW w g1 g2 x y u v wx)
  case first =>
    obtain ⟨p0, p1, _, _⟩ := K7.out.two
    obtain ⟨d0, d1, _, _⟩ := K8.out.two
    have MKS := Lib.hid (fun (w' : World) (e : Ext wr w') => (⟨kc e p0, kc e p1, kc e d0, kc e d1, Lib.hid e⟩ : w'.cell? ⟨w.heap.size, 0, none⟩ = some (.int .i32 x) ∧ w'.cell? ⟨w.heap.size, 1, none⟩ = some (.int .i32 y) ∧ w'.cell? ⟨w.heap.size + 1, 0, none⟩ = some (.int .i32 u) ∧ w'.cell? ⟨w.heap.size + 1, 1, none⟩ = some (.int .i32 v) ∧ Hid (Ext wr w')))
    have zT := Lib.hid (Ext.rfl' wr)
    have hz : wr.heap.size ≤ wr.heap.size := Nat.le_refl _
    go_region_held3 (fun w' => w'.cell? ⟨w.heap.size, 0, none⟩ = some (.int .i32 x) ∧ w'.cell? ⟨w.heap.size, 1, none⟩ = some (.int .i32 y) ∧ w'.cell? ⟨w.heap.size + 1, 0, none⟩ = some (.int .i32 u) ∧ w'.cell? ⟨w.heap.size + 1, 1, none⟩ = some (.int .i32 v) ∧ Hid (Ext wr w'))
      ((refine MKS.out _ ?_; repeat (first | exact zT.out | refine ext_alloc ?_ _ | refine ext_drew ?_ | refine ext_set ?_ (by first | omega | (simp; done) | (simp; omega)) _)))
      (first | (go_at_call 12; ((with_reducible refine (HBp.out _).mono ?_); rintro e w8 ⟨rfl, b8⟩; go_split_ands; have zT : Hid (Ext wr w8) := Lib.hid (ext_trans (Hid.out (by assumption)) b8); have hz := zT.out.size; obtain ⟨hcl, hfr⟩ := ecell b8; have hz8 := b8.size; (try simp at hz8); (try have q1 : wr.heap.size < w8.heap.size := by omega); (try have q2 : wr.heap.size + 1 < w8.heap.size := by omega))) | (go_at_call 12; ((with_reducible refine (HBq.out _).mono ?_); rintro e w9 ⟨rfl, b9⟩; go_split_ands; have zT : Hid (Ext wr w9) := Lib.hid (ext_trans (Hid.out (by assumption)) b9); have hz := zT.out.size; obtain ⟨hcl, hfr⟩ := ecell b9; have hz9 := b9.size; (try simp at hz9); (try have q3 : wr.heap.size < w9.heap.size := by omega); (try have q4 : wr.heap.size + 1 < w9.heap.size := by omega); (try have q5 : w8.heap.size < w9.heap.size := by omega); (try have q6 : w8.heap.size + 1 < w9.heap.size := by omega))))
    all_goals
      go_wp2_with fail
      go_meet
      go_split_ands
      refine ⟨_, _, rfl, rfl, K7.out.ext (Hid.out (by assumption)), K8.out.ext (Hid.out (by assumption)), ?_, ?_, ext_trans ex (Hid.out (by assumption))⟩
      all_goals repeat (first | with_reducible exact Blk.new _ _ _ | with_reducible exact Blk.new1 _ _ _ _ | with_reducible exact Blk.newD _ _ _ | with_reducible exact Blk.new1D _ _ _ _ | with_reducible exact Blk.newS _ _ _ _ _ _ _ | with_reducible refine Blk.drew ?_ | with_reducible refine Blk.alloc ?_ _ | with_reducible refine Blk.put2 (a := .int .i64 0) (b := .int .i64 0) ?_ | ((with_reducible refine Blk.far2 ?_ ?_); rotate_left; omega) | with_reducible refine Blk.ext ?_ b9 | with_reducible refine Blk.ext ?_ b8)
  case rest =>
    obtain ⟨g1, g2, rfl, rfl, kt⟩ := hcut
    have KT := Lib.hid kt; clear kt K7 K8 ex
    obtain ⟨p0, p1, _, _⟩ := KT.out.1.two
    obtain ⟨d0, d1, _, _⟩ := KT.out.2.1.two
    go_wp2_with fail
    refine (H3.out _).mono ?_
    rintro e w3 ⟨rfl, b3⟩
    clear p0 p1 d0 d1
    have KT3 := Lib.hid (KT.out.ext b3); clear KT b3
    obtain ⟨p0, p1, _, _⟩ := KT3.out.2.2.1.two
    obtain ⟨d0, d1, _, _⟩ := KT3.out.2.2.2.1.two
    have l1 := KT3.out.2.2.1.lt
    have l2 := KT3.out.2.2.2.1.lt
    go_wp2_with fail
    refine (H4.out _).mono ?_
    rintro e w4 ⟨rfl, b4⟩
    clear p0 p1 d0 d1
    have KT4 := Lib.hid ((KT3.out.alloc _).ext b4)
    have K17 := Lib.hid ((Blk.new w3 24 #[.int .i32 tx, .int .i32 ty]).ext b4)
    clear KT3 b4
    go_upto_region 4 with fail
    have kt := KT4.out.alloc (.cells #[.int .i64 tx, .int .i64 ty] 26)
    have k17 := K17.out.alloc (.cells #[.int .i64 tx, .int .i64 ty] 26)
    have k19 := Blk.new w4 26 #[.int .i64 tx, .int .i64 ty]
    generalize w4.alloc (.cells #[.int .i64 tx, .int .i64 ty] 26) = wd at *
    have KT := Lib.hid kt; clear kt KT4 K17
    go_cut [60] (fun s60 wx => s60 = .bool false ∧ TW w g1 g2 x y u v wx)
    case first =>
      obtain ⟨c0, c1, _, _⟩ := KT.out.1.two
      obtain ⟨c2, c3, _, _⟩ := KT.out.2.1.two
      obtain ⟨c4, c5, _, _⟩ := KT.out.2.2.1.two
      obtain ⟨c6, c7, _, _⟩ := KT.out.2.2.2.1.two
      obtain ⟨c8, c9, _, _⟩ := k17.two
      obtain ⟨c10, c11, _, _⟩ := k19.two
      have hwf : IntKind.i64.wrap f = f := IntWalk.i64_in _ (by omega)
      have MKS := Lib.hid (fun (w' : World) (e : Ext wd w') => (⟨kc e c0, kc e c1, kc e c2, kc e c3, kc e c4, kc e c5, kc e c6, kc e c7, kc e c8, kc e c9, kc e c10, kc e c11, Lib.hid e⟩ : w'.cell? ⟨w.heap.size, 0, none⟩ = some (.int .i32 x) ∧ w'.cell? ⟨w.heap.size, 1, none⟩ = some (.int .i32 y) ∧ w'.cell? ⟨w.heap.size + 1, 0, none⟩ = some (.int .i32 u) ∧ w'.cell? ⟨w.heap.size + 1, 1, none⟩ = some (.int .i32 v) ∧ w'.cell? ⟨g1, 0, none⟩ = some (.int .i64 x) ∧ w'.cell? ⟨g1, 1, none⟩ = some (.int .i64 y) ∧ w'.cell? ⟨g2, 0, none⟩ = some (.int .i64 u) ∧ w'.cell? ⟨g2, 1, none⟩ = some (.int .i64 v) ∧ w'.cell? ⟨w3.heap.size, 0, none⟩ = some (.int .i32 tx) ∧ w'.cell? ⟨w3.heap.size, 1, none⟩ = some (.int .i32 ty) ∧ w'.cell? ⟨w4.heap.size, 0, none⟩ = some (.int .i64 tx) ∧ w'.cell? ⟨w4.heap.size, 1, none⟩ = some (.int .i64 ty) ∧ Hid (Ext wd w')))
      have E0 := Lib.hid (ext_drew (Ext.rfl' wd))
      clear k17 k19
      go_region_held3 (fun w' => w'.cell? ⟨w.heap.size, 0, none⟩ = some (.int .i32 x) ∧ w'.cell? ⟨w.heap.size, 1, none⟩ = some (.int .i32 y) ∧ w'.cell? ⟨w.heap.size + 1, 0, none⟩ = some (.int .i32 u) ∧ w'.cell? ⟨w.heap.size + 1, 1, none⟩ = some (.int .i32 v) ∧ w'.cell? ⟨g1, 0, none⟩ = some (.int .i64 x) ∧ w'.cell? ⟨g1, 1, none⟩ = some (.int .i64 y) ∧ w'.cell? ⟨g2, 0, none⟩ = some (.int .i64 u) ∧ w'.cell? ⟨g2, 1, none⟩ = some (.int .i64 v) ∧ w'.cell? ⟨w3.heap.size, 0, none⟩ = some (.int .i32 tx) ∧ w'.cell? ⟨w3.heap.size, 1, none⟩ = some (.int .i32 ty) ∧ w'.cell? ⟨w4.heap.size, 0, none⟩ = some (.int .i64 tx) ∧ w'.cell? ⟨w4.heap.size, 1, none⟩ = some (.int .i64 ty) ∧ Hid (Ext wd w'))
        (first | exact MKS.out _ E0.out | (go_split_ands; exact MKS.out _ (ext_trans (Hid.out (by assumption)) b9)))
        (first | (go_at_call 15; refine (H1.out _).mono ?_; rintro e w9 ⟨rfl, b9⟩) | (go_at_call 16; refine (H2.out _).mono ?_; rintro e w9 ⟨rfl, b9⟩) | (go_at_call 12; refine (HBt.out _).mono ?_; rintro e w9 ⟨rfl, b9⟩))
      go_wp2_with fail
      go_meet
      go_split_ands
      exact ⟨rfl, KT.out.ext (Hid.out (by assumption))⟩
    case rest =>
      clear k17 k19 KT
      obtain ⟨rfl, kt⟩ := hcut
      have KT := Lib.hid kt; clear kt
      go_upto_region 7 with fail
      have kt := KT.out.alloc (.cells #[.int .i64 0, .int .i64 0] 26)
      have kw := Blk.new wc 26 #[.int .i64 0, .int .i64 0]
      have l0 := KT.out.2.1.lt
      have l1 := KT.out.2.2.1.lt
      have l2 := KT.out.2.2.2.1.lt
      generalize wc.alloc (.cells #[.int .i64 0, .int .i64 0] 26) = we at *
      generalize wc.heap.size = gw at *
      clear KT
      have KT := Lib.hid kt; have KW := Lib.hid kw; clear kt kw
      go_cut [67] (fun s67 wx => s67 = .bool nb ∧ TW w g1 g2 x y u v wx ∧ Blk wx gw 26 #[.int .i64 0, .int .i64 0])
      case first =>
        obtain ⟨c4, c5, _, _⟩ := KT.out.2.2.1.two
        obtain ⟨c6, c7, _, _⟩ := KT.out.2.2.2.1.two
        by_cases hp : Near x y
        · by_cases hq : Near u v
          · have HN := Lib.hid (N0.out.2 ⟨hp, hq⟩)
            have Hp := Lib.hid hp; have Hq := Lib.hid hq; clear hp hq
            go_wp2_with fail
            refine (may_yes _ _ Hp.out _).mono ?_
            rintro e w5 ⟨rfl, b5⟩
            clear c4 c5 c6 c7
            obtain ⟨c6, c7, _, _⟩ := (KT.out.ext b5).2.2.2.1.two
            go_wp2_with fail
            refine (may_yes _ _ Hq.out _).mono ?_
            rintro e w6 ⟨rfl, b6⟩
            go_wp2_with fail
            go_meet
            exact ⟨by rw [HN.out], (KT.out.ext b5).ext b6, (KW.out.ext b5).ext b6⟩
          · have HN : Hid (nb = false) := Lib.hid (by cases nb with | false => rfl | true => exact absurd (N0.out.1 rfl).2 hq)
            have Hp := Lib.hid hp; have Hq := Lib.hid hq; clear hp hq
            go_wp2_with fail
            refine (may_yes _ _ Hp.out _).mono ?_
            rintro e w5 ⟨rfl, b5⟩
            clear c4 c5 c6 c7
            obtain ⟨c6, c7, _, _⟩ := (KT.out.ext b5).2.2.2.1.two
            go_wp2_with fail
            refine (may_no _ _ Hq.out _).mono ?_
            rintro e w6 ⟨rfl, b6⟩
            go_wp2_with fail
            go_meet
            exact ⟨by rw [HN.out], (KT.out.ext b5).ext b6, (KW.out.ext b5).ext b6⟩
        · have HN : Hid (nb = false) := Lib.hid (by cases nb with | false => rfl | true => exact absurd (N0.out.1 rfl).1 hp)
          have Hp := Lib.hid hp; clear hp
          go_wp2_with fail
          refine (may_no _ _ Hp.out _).mono ?_
          rintro e w5 ⟨rfl, b5⟩
          go_wp2_with fail
          go_meet
          exact ⟨by rw [HN.out], KT.out.ext b5, KW.out.ext b5⟩
      case rest =>
        clear KT KW
        obtain ⟨rfl, kt, kw⟩ := hcut
        have KT := Lib.hid kt; have KW := Lib.hid kw; clear kt kw
        go_upto_if 67 with fail
        go_cut [] (fun wx => TW w g1 g2 x y u v wx ∧ Blk wx gw 26 #[.int .i64 zx, .int .i64 zy])
        case first =>
          obtain ⟨k0, k1, k2, k3⟩ := KW.out.two
          obtain ⟨c4, c5, _, _⟩ := KT.out.2.2.1.two
          obtain ⟨c6, c7, _, _⟩ := KT.out.2.2.2.1.two
          have lw := KW.out.lt
          have q0 : w.heap.size + 1 < gw := l0
          have q1 : g1 ≠ gw := by omega
          have q2 : g2 ≠ gw := by omega
          cases nb with
          | false =>
            obtain ⟨e1, e2⟩ := N1.out rfl
            subst e1 e2
            go_wp2_with fail
            go_meet
            exact ⟨KT.out, KW.out⟩
          | true =>
            cases vb with
            | false =>
              obtain ⟨e1, e2⟩ := N2.out rfl rfl
              subst e1 e2
              have hall : (¬ 1 ≤ b) ∨ (1 ≤ b ∧ ¬ b ≤ 1048576) ∨ (1 ≤ b ∧ b ≤ 1048576 ∧ ¬ 0 ≤ a) ∨ (1 ≤ b ∧ b ≤ 1048576 ∧ 0 ≤ a ∧ ¬ a ≤ b) := by
                have := V0.out
                simp at this
                omega
              rcases hall with j1 | ⟨j1, j2⟩ | ⟨j1, j2, j3⟩ | ⟨j1, j2, j3, j4⟩
              all_goals
                go_wp2_with fail
                go_meet
                exact ⟨KT.out.put2 q0 q1 q2 _ _, KW.out.put2⟩
            | true =>
              obtain ⟨j1, j2, j3, j4⟩ := V0.out.1 rfl
              have HM := Lib.hid (N3.out rfl rfl)
              have KT2 := Lib.hid (KT.out.put2 q0 q1 q2 (.int .i64 x) (.int .i64 y))
              have KW2 := Lib.hid (KW.out.put2 (c := .int .i64 x) (d := .int .i64 y))
              go_wp2_with fail
              refine (HM.out _).mono ?_
              rintro e w5 ⟨rfl, b5⟩
              clear k0 k1 k2 k3 c4 c5 c6 c7
              obtain ⟨k0, k1, k2, k3⟩ := (KW2.out.ext b5).two
              have lw5 := (KW2.out.ext b5).lt
              go_wp2_with fail
              go_meet
              exact ⟨(KT2.out.ext b5).put2 q0 q1 q2 _ _, (KW2.out.ext b5).put2⟩
        case rest =>
          clear KT KW
          obtain ⟨kt, kw⟩ := hcut
          go_upto_region 12 with fail
          have kt2 := kt.alloc (.cells #[.int .i64 0, .int .i64 0] 26)
          have kw2 := kw.alloc (.cells #[.int .i64 0, .int .i64 0] 26)
          have km := Blk.new wc 26 #[.int .i64 0, .int .i64 0]
          have q0 : w.heap.size + 1 < wc.heap.size := kt.2.1.lt
          have q1 : g1 < wc.heap.size := kt.2.2.1.lt
          have q2 : g2 < wc.heap.size := kt.2.2.2.1.lt
          have q3 : gw < wc.heap.size := kw.lt
          clear kt kw
          generalize wc.alloc (.cells #[.int .i64 0, .int .i64 0] 26) = wf at *
          generalize wc.heap.size = gm at *
          have KT := Lib.hid kt2; have KW := Lib.hid kw2; have KM := Lib.hid km; clear kt2 kw2 km
          go_cut [103] (fun s103 wx => s103 = .bool mb ∧ wx = wf)
          case first =>
            cases mb with
            | true =>
              obtain ⟨j1, j2, j3, j4⟩ := M0.out.1 rfl
              go_wp2_with fail
              go_meet
              exact ⟨rfl, rfl⟩
            | false =>
              have hall : (¬ 0 ≤ mx) ∨ (0 ≤ mx ∧ ¬ mx < 64) ∨ (0 ≤ mx ∧ mx < 64 ∧ ¬ 0 ≤ my) ∨ (0 ≤ mx ∧ mx < 64 ∧ 0 ≤ my ∧ ¬ my < 64) := by
                have := M0.out
                simp at this
                omega
              rcases hall with j1 | ⟨j1, j2⟩ | ⟨j1, j2, j3⟩ | ⟨j1, j2, j3, j4⟩
              all_goals
                go_wp2_with fail
                go_meet
                exact ⟨rfl, rfl⟩
          case rest =>
            obtain ⟨rfl, rfl⟩ := hcut
            go_upto_if 103 with fail
            go_cut [] (fun wx => TW w g1 g2 x y u v wx ∧ Blk wx gw 26 #[.int .i64 zx, .int .i64 zy] ∧ Blk wx gm 26 #[.int .i64 cx, .int .i64 cy])
            case first =>
              obtain ⟨k0, k1, k2, k3⟩ := KM.out.two
              have lm := KM.out.lt
              cases mb with
              | false =>
                obtain ⟨e1, e2⟩ := M1.out rfl
                subst e1 e2
                go_wp2_with fail
                go_meet
                exact ⟨KT.out, KW.out, KM.out⟩
              | true =>
                obtain ⟨j1, j2, j3, j4⟩ := M0.out.1 rfl
                have HE := Lib.hid (M2.out rfl)
                go_wp2_with fail
                go_meet
                refine ⟨KT.out.put2 q0 (by omega) (by omega) _ _, KW.out.far2 (by omega), ?_⟩
                rw [HE.out.1, HE.out.2]
                exact KM.out.put2
            case rest =>
              clear KT KW KM
              obtain ⟨kt, kw, km⟩ := hcut
              obtain ⟨c0, c1, _, _⟩ := kt.1.two
              obtain ⟨c2, c3, _, _⟩ := kt.2.1.two
              obtain ⟨c4, c5, _, _⟩ := kw.two
              obtain ⟨c6, c7, _, _⟩ := km.two
              have EX := Lib.hid kt.2.2.2.2
              clear kt kw km
              go_wp2_with fail
              have MKS := Lib.hid (fun (w' : World) (e : Ext wc w') => (⟨kc e c0, kc e c1, kc e c2, kc e c3, kc e c4, kc e c5, kc e c6, kc e c7, Lib.hid e⟩ : w'.cell? ⟨w.heap.size, 0, none⟩ = some (.int .i32 x) ∧ w'.cell? ⟨w.heap.size, 1, none⟩ = some (.int .i32 y) ∧ w'.cell? ⟨w.heap.size + 1, 0, none⟩ = some (.int .i32 u) ∧ w'.cell? ⟨w.heap.size + 1, 1, none⟩ = some (.int .i32 v) ∧ w'.cell? ⟨gw, 0, none⟩ = some (.int .i64 zx) ∧ w'.cell? ⟨gw, 1, none⟩ = some (.int .i64 zy) ∧ w'.cell? ⟨gm, 0, none⟩ = some (.int .i64 cx) ∧ w'.cell? ⟨gm, 1, none⟩ = some (.int .i64 cy) ∧ Hid (Ext wc w')))
              have E0 := Lib.hid (ext_drew (Ext.rfl' wc))
              go_region_held3 (fun w' => w'.cell? ⟨w.heap.size, 0, none⟩ = some (.int .i32 x) ∧ w'.cell? ⟨w.heap.size, 1, none⟩ = some (.int .i32 y) ∧ w'.cell? ⟨w.heap.size + 1, 0, none⟩ = some (.int .i32 u) ∧ w'.cell? ⟨w.heap.size + 1, 1, none⟩ = some (.int .i32 v) ∧ w'.cell? ⟨gw, 0, none⟩ = some (.int .i64 zx) ∧ w'.cell? ⟨gw, 1, none⟩ = some (.int .i64 zy) ∧ w'.cell? ⟨gm, 0, none⟩ = some (.int .i64 cx) ∧ w'.cell? ⟨gm, 1, none⟩ = some (.int .i64 cy) ∧ Hid (Ext wc w'))
                (first | exact MKS.out _ E0.out | (go_split_ands; exact MKS.out _ (ext_trans (Hid.out (by assumption)) b9)))
                (first | (go_at_call 19; refine (H5.out _).mono ?_; rintro e w9 ⟨rfl, b9⟩) | (go_at_call 20; refine (H6.out _).mono ?_; rintro e w9 ⟨rfl, b9⟩) | (go_at_call 12; ((with_reducible refine (HBz.out _).mono ?_); rintro e w9 ⟨rfl, b9⟩)) | (go_at_call 12; ((with_reducible refine (HBc.out _).mono ?_); rintro e w9 ⟨rfl, b9⟩)) | (go_at_call 21; refine (wakes _).mono ?_; rintro e w9 ⟨rfl, b9⟩))
              go_wp2_with fail
              go_ret
              refine ⟨rfl, ext_trans EX.out ?_⟩
              go_split_ands
              exact Hid.out (by assumption)
end Go.Proofs.Ytdbjknljdplinaa.Fix
