/- Contracts of package rng. -/
import Derived.Test.YtdbjknljdplinaaRows
import Derived.WalkKit
import Derived.ProofKit
import Derived.OpenShut
import Derived.Outline
import Derived.Lib.Hide
namespace Go.Proofs.Ytdbjknljdplinaa.Rng
open Go.ChangeShapes Go.WideShapes Go.ChangeAt Go.RowKit

/-- The first state of a number. -/
def seedW (n : BitVec 32) : BitVec 32 := if n = 0 then 2654435769#32 else n
theorem seed (n : BitVec 32) (w : World) :
    Calls Try.prog 24 #[.int .u32 (n.toNat : Int)] w fun e w' => e = .returned (.int .u32 ((seedW n).toNat : Int)) ∧ w = w' := by
  by_cases h : n = 0
  · subst h
    have e : ((seedW 0).toNat : Int) = 2654435769 := by decide
    rw [e]
    go_enter Try.func24, Try.ntmps24
    go_wp2
    go_ret
    exact ⟨rfl, rfl⟩
  · have e : seedW n = n := if_neg h
    rw [e]
    have hp : n.toNat ≠ 0 := fun hz => h (BitVec.eq_of_toNat_eq (by simpa using hz))
    have hb : ((n.toNat : Int) == 0) = false := beq_eq_false_iff_ne.2 (by omega)
    clear e h
    go_enter Try.func24, Try.ntmps24
    go_wp2
    go_ret
    exact ⟨rfl, rfl⟩
/-! the words of 32 bits, as the walk spells them -/
theorem xor_bv (n s : BitVec 32) : bits .xor .u32 (n.toNat : Int) (s.toNat : Int) = ((n ^^^ s).toNat : Int) := by
  show IntKind.u32.wrap ((BitVec.ofInt 32 (n.toNat : Int) ^^^ BitVec.ofInt 32 (s.toNat : Int)).toNat : Int) = _
  rw [BitVec.ofInt_natCast, BitVec.ofInt_natCast, BitVec.ofNat_toNat, BitVec.ofNat_toNat, BitVec.setWidth_eq, BitVec.setWidth_eq]
  have := (n ^^^ s).isLt
  rw [IntKind.wrap_u32]
  omega
theorem shl13_bv (n : BitVec 32) : (n.toNat : Int) * (8192 : Int) % (4294967296 : Int) = ((n <<< 13).toNat : Int) := by
  rw [BitVec.toNat_shiftLeft, Nat.shiftLeft_eq]; omega
theorem shl5_bv (n : BitVec 32) : (n.toNat : Int) * (32 : Int) % (4294967296 : Int) = ((n <<< 5).toNat : Int) := by
  rw [BitVec.toNat_shiftLeft, Nat.shiftLeft_eq]; omega
theorem shr17_bv (n : BitVec 32) : (n.toNat : Int) / (131072 : Int) = ((n >>> 17).toNat : Int) := by
  rw [BitVec.toNat_ushiftRight, Nat.shiftRight_eq_div_pow]; omega
/-- One step of the states, over words. -/
def nextW (n : BitVec 32) : BitVec 32 :=
  ((n ^^^ n <<< 13) ^^^ (n ^^^ n <<< 13) >>> 17) ^^^ ((n ^^^ n <<< 13) ^^^ (n ^^^ n <<< 13) >>> 17) <<< 5
theorem mix (s n : BitVec 32) (b : Nat) (w : World) (hc : w.cell? ⟨b, 0, none⟩ = some (.int .u32 (n.toNat : Int))) (hf : w.frozen? ⟨b, 0, none⟩ = false) :
    Calls Try.prog 64 #[.int .u32 (s.toNat : Int), .pointer (some ⟨b, 0, none⟩)] w fun e w' => e = .returned (.tuple #[]) ∧ w.setCell ⟨b, 0, none⟩ (.int .u32 ((n ^^^ s).toNat : Int)) = w' := by
  go_enter Try.func64, Try.ntmps64
  go_wp2
  go_end0
  rw [xor_bv]
  exact ⟨rfl, rfl⟩
theorem next_of (n0 n : BitVec 32) (h : ∀ w, Calls Try.prog 24 #[.int .u32 (n0.toNat : Int)] w fun e w' => e = .returned (.int .u32 (n.toNat : Int)) ∧ w = w') (w : World) :
    Calls Try.prog 26 #[.int .u32 (n0.toNat : Int)] w fun e w' => e = .returned (.int .u32 ((nextW n).toNat : Int)) ∧ Grown w w' := by
  have H := Lib.hid h; clear h
  have h0 := n0.isLt
  have hfin : nextW n = nextW n := rfl
  conv at hfin => rhs; unfold nextW
  generalize nextW n = r at *
  have Hr := Lib.hid hfin; clear hfin
  have h2 := n.isLt
  go_enter Try.func26, Try.ntmps26
  go_wp2_with (go_at_call 24; refine (H.out _).mono ?_; rintro e w' ⟨rfl, rfl⟩)
  rw [shl13_bv]
  generalize hs1 : n <<< 13 = s1
  have H1 := Lib.hid hs1; clear hs1
  refine (mix _ n w.heap.size _ (by go_simp) (by go_simp)).mono ?_
  rintro e w' ⟨rfl, rfl⟩
  generalize hn1 : n ^^^ s1 = n1
  have H2 := Lib.hid hn1; clear hn1
  have h3 := n1.isLt
  go_wp2_with fail
  rw [shr17_bv]
  generalize hs2 : n1 >>> 17 = s2
  have H3 := Lib.hid hs2; clear hs2
  refine (mix _ n1 w.heap.size _ (by go_simp) (by go_simp)).mono ?_
  rintro e w' ⟨rfl, rfl⟩
  generalize hn2 : n1 ^^^ s2 = n2
  have H4 := Lib.hid hn2; clear hn2
  have h4 := n2.isLt
  go_wp2_with fail
  rw [shl5_bv]
  generalize hs3 : n2 <<< 5 = s3
  have H5 := Lib.hid hs3; clear hs3
  refine (mix _ n2 w.heap.size _ (by go_simp) (by go_simp)).mono ?_
  rintro e w' ⟨rfl, rfl⟩
  generalize hn3 : n2 ^^^ s3 = n3
  have H6 := Lib.hid hn3; clear hn3
  go_wp2_with fail
  go_ret
  refine ⟨?_, by repeat (first | exact Grown.refl _ | apply Grown.drew | apply Grown.alloc)⟩
  rw [Hr.out, H1.out, H2.out, H3.out, H4.out, H5.out, H6.out]
  rfl
theorem next (n : BitVec 32) (w : World) :
    Calls Try.prog 26 #[.int .u32 (n.toNat : Int)] w fun e w' => e = .returned (.int .u32 ((nextW (seedW n)).toNat : Int)) ∧ Grown w w' :=
  next_of n (seedW n) (seed n) w
theorem below_neg (s : BitVec 32) (n : Int) (h : n < 1) (w : World) :
    Calls Try.prog 28 #[.int .u32 (s.toNat : Int), .int .i64 n] w fun e w' => e = .returned (.int .i64 0) ∧ w = w' := by
  have h0 := s.isLt
  go_enter Try.func28, Try.ntmps28
  go_wp2
  go_ret
  exact ⟨rfl, rfl⟩
theorem below_pos (s : BitVec 32) (n : Int) (h : 1 ≤ n) (h2 : n < 9223372036854775808) (w : World) :
    Calls Try.prog 28 #[.int .u32 (s.toNat : Int), .int .i64 n] w fun e w' => e = .returned (.int .i64 ((s.toNat : Int) / 256 % n)) ∧ w = w' := by
  have h0 := s.isLt
  go_enter Try.func28, Try.ntmps28
  go_wp2
  go_ret
  exact ⟨rfl, rfl⟩
/-! ### the plain part: a step of the states is one-to-one, and 0 comes of 0 alone -/
theorem xl_inj {k : Nat} (hk : 0 < k) {x y : BitVec 32} (h : x ^^^ x <<< k = y ^^^ y <<< k) : x = y := by
  apply BitVec.eq_of_getLsbD_eq
  intro i
  induction i using Nat.strongRecOn with
  | ind i ih =>
    intro hi
    have hb := congrArg (fun v => v.getLsbD i) h
    simp only [BitVec.getLsbD_xor, BitVec.getLsbD_shiftLeft] at hb
    by_cases hik : i < k
    · simpa [hik] using hb
    · have := ih (i - k) (by omega) (by omega)
      rw [this] at hb
      simpa using hb
theorem xr_inj {k : Nat} (hk : 0 < k) {x y : BitVec 32} (h : x ^^^ x >>> k = y ^^^ y >>> k) : x = y := by
  have key : ∀ j i, i < 32 → 32 - i ≤ j → x.getLsbD i = y.getLsbD i := by
    intro j
    induction j with
    | zero => intro i hi hj; omega
    | succ j ih =>
      intro i hi hj
      have hb := congrArg (fun v => v.getLsbD i) h
      simp only [BitVec.getLsbD_xor, BitVec.getLsbD_ushiftRight] at hb
      by_cases hik : k + i < 32
      · rw [ih (k + i) hik (by omega)] at hb
        simpa using hb
      · rw [BitVec.getLsbD_of_ge x (k + i) (by omega), BitVec.getLsbD_of_ge y (k + i) (by omega)] at hb
        simpa using hb
  exact BitVec.eq_of_getLsbD_eq fun i hi => key 32 i hi (by omega)
theorem nextW_inj {x y : BitVec 32} (h : nextW x = nextW y) : x = y :=
  xl_inj (k := 13) (by omega) (xr_inj (k := 17) (by omega) (xl_inj (k := 5) (by omega) h))
theorem nextW_ne_zero {x : BitVec 32} (h : x ≠ 0) : nextW x ≠ 0 := fun e => h (nextW_inj (e.trans (by decide)))
theorem seedW_ne (x : BitVec 32) : seedW x ≠ 0 := by
  unfold seedW
  by_cases h : x = 0
  · rw [if_pos h]; decide
  · rw [if_neg h]; exact h
theorem seedW_seedW (x : BitVec 32) : seedW (seedW x) = seedW x := if_neg (seedW_ne x)
theorem toNat_ne {x y : BitVec 32} (h : x ≠ y) : x.toNat ≠ y.toNat := fun e => h (BitVec.eq_of_toNat_eq e)
/-! ### the contracts at numbers -/
theorem seed_at {a r : Int} (n : BitVec 32) (ha : (n.toNat : Int) = a) (hr : ((seedW n).toNat : Int) = r) (w : World) :
    Calls Try.prog 24 #[.int .u32 a] w fun e w' => e = .returned (.int .u32 r) ∧ w = w' := by subst ha hr; exact seed n w
theorem next_at {a r : Int} (n : BitVec 32) (ha : (n.toNat : Int) = a) (hr : ((nextW (seedW n)).toNat : Int) = r) (w : World) :
    Calls Try.prog 26 #[.int .u32 a] w fun e w' => e = .returned (.int .u32 r) ∧ Grown w w' := by subst ha hr; exact next n w
theorem below_at {a n r : Int} (s : BitVec 32) (ha : (s.toNat : Int) = a) (h : 1 ≤ n) (h2 : n < 9223372036854775808) (hr : a / 256 % n = r) (w : World) :
    Calls Try.prog 28 #[.int .u32 a, .int .i64 n] w fun e w' => e = .returned (.int .i64 r) ∧ w = w' := by subst ha hr; exact below_pos s n h h2 w
theorem grown_trans {a b c : World} (h : Grown a b) (k : Grown b c) : Grown a c :=
  ⟨World.keptBut_trans h.1 k.1, fun x => (k.2.1 x).trans (h.2.1 x), Nat.le_trans h.2.2 k.2.2⟩
theorem wakes (w : World) : Calls Try.prog 30 #[] w fun e w' => e = .returned (.bool true) ∧ Grown w w' := by
  go_enter Try.func30, Try.ntmps30
  go_wp2_with fail
  refine (seed_at (r := 1) 1#32 (by decide) (by decide) _).mono ?_
  rintro e w' ⟨rfl, rfl⟩
  go_wp2_with fail
  refine (next_at (r := 270369) 1#32 (by decide) (by decide) _).mono ?_
  rintro e w1 ⟨rfl, g1⟩
  go_wp2_with fail
  refine (next_at (r := 1359758873) 0#32 (by decide) (by decide) _).mono ?_
  rintro e w2 ⟨rfl, g2⟩
  go_wp2_with fail
  refine (next_at (r := 1359758873) 2654435769#32 (by decide) (by decide) _).mono ?_
  rintro e w3 ⟨rfl, g3⟩
  go_wp2_with fail
  refine (below_at (r := 1) 773#32 (by decide) (by decide) (by decide) (by decide) _).mono ?_
  rintro e w4 ⟨rfl, rfl⟩
  go_wp2_with fail
  go_ret
  exact ⟨rfl, grown_trans g1 (grown_trans g2 g3)⟩
end Go.Proofs.Ytdbjknljdplinaa.Rng
