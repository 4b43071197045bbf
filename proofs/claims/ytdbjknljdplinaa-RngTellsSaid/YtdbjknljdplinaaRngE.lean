/- The next state and the known ones, over worlds of which nothing below has turned. -/
import Derived.Test.YtdbjknljdplinaaRngD
namespace Go.Proofs.Ytdbjknljdplinaa.Rng
open Go.ChangeShapes Go.WideShapes Go.ChangeAt Go.RowKit
theorem nextE_of (n0 n : BitVec 32) (h : ∀ w, Calls Try.prog 24 #[.int .u32 (n0.toNat : Int)] w fun e w' => e = .returned (.int .u32 (n.toNat : Int)) ∧ w = w') (w : World) :
    Calls Try.prog 26 #[.int .u32 (n0.toNat : Int)] w fun e w' => e = .returned (.int .u32 ((nextW n).toNat : Int)) ∧ Ext w w' := by
  have H := Lib.hid h; clear h
  have h0 := n0.isLt
  have hfin : nextW n = nextW n := rfl
  conv at hfin => rhs; unfold nextW
  generalize nextW n = r at *
  have Hr := Lib.hid hfin; clear hfin
  have h2 := n.isLt
  go_enter Try.func26, Try.ntmps26
  go_wp2_with (go_at_call 24; refine (H.out _).mono ?_; rintro e w' ⟨rfl, rfl⟩)
  rw [shl13_bv]
  generalize hs1 : n <<< 13 = s1
  have H1 := Lib.hid hs1; clear hs1
  refine (mix _ n w.heap.size _ (by go_simp) (by go_simp)).mono ?_
  rintro e w' ⟨rfl, rfl⟩
  generalize hn1 : n ^^^ s1 = n1
  have H2 := Lib.hid hn1; clear hn1
  have h3 := n1.isLt
  go_wp2_with fail
  rw [shr17_bv]
  generalize hs2 : n1 >>> 17 = s2
  have H3 := Lib.hid hs2; clear hs2
  refine (mix _ n1 w.heap.size _ (by go_simp) (by go_simp)).mono ?_
  rintro e w' ⟨rfl, rfl⟩
  generalize hn2 : n1 ^^^ s2 = n2
  have H4 := Lib.hid hn2; clear hn2
  have h4 := n2.isLt
  go_wp2_with fail
  rw [shl5_bv]
  generalize hs3 : n2 <<< 5 = s3
  have H5 := Lib.hid hs3; clear hs3
  refine (mix _ n2 w.heap.size _ (by go_simp) (by go_simp)).mono ?_
  rintro e w' ⟨rfl, rfl⟩
  generalize hn3 : n2 ^^^ s3 = n3
  have H6 := Lib.hid hn3; clear hn3
  go_wp2_with fail
  go_ret
  refine ⟨?_, by repeat (first | exact Ext.rfl' _ | refine ext_drew ?_ | refine ext_alloc ?_ _)⟩
  rw [Hr.out, H1.out, H2.out, H3.out, H4.out, H5.out, H6.out]
  rfl
theorem nextE (n : BitVec 32) (w : World) :
    Calls Try.prog 26 #[.int .u32 (n.toNat : Int)] w fun e w' => e = .returned (.int .u32 ((nextW (seedW n)).toNat : Int)) ∧ Ext w w' :=
  nextE_of n (seedW n) (seed n) w
theorem nextE_at {a r : Int} (n : BitVec 32) (ha : (n.toNat : Int) = a) (hr : ((nextW (seedW n)).toNat : Int) = r) (w : World) :
    Calls Try.prog 26 #[.int .u32 a] w fun e w' => e = .returned (.int .u32 r) ∧ Ext w w' := by subst ha hr; exact nextE n w
theorem wakesE (w : World) : Calls Try.prog 30 #[] w fun e w' => e = .returned (.bool true) ∧ Ext w w' := by
  go_enter Try.func30, Try.ntmps30
  go_wp2_with fail
  refine (seed_at (r := 1) 1#32 (by decide) (by decide) _).mono ?_
  rintro e w' ⟨rfl, rfl⟩
  go_wp2_with fail
  refine (nextE_at (r := 270369) 1#32 (by decide) (by decide) _).mono ?_
  rintro e w1 ⟨rfl, g1⟩
  go_wp2_with fail
  refine (nextE_at (r := 1359758873) 0#32 (by decide) (by decide) _).mono ?_
  rintro e w2 ⟨rfl, g2⟩
  go_wp2_with fail
  refine (nextE_at (r := 1359758873) 2654435769#32 (by decide) (by decide) _).mono ?_
  rintro e w3 ⟨rfl, g3⟩
  go_wp2_with fail
  refine (below_at (r := 1) 773#32 (by decide) (by decide) (by decide) (by decide) _).mono ?_
  rintro e w4 ⟨rfl, rfl⟩
  go_wp2_with fail
  go_ret
  exact ⟨rfl, ext_trans g1 (ext_trans g2 g3)⟩
end Go.Proofs.Ytdbjknljdplinaa.Rng
