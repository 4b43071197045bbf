/- The document's answer for rng: the state from a number, the next one, a number below another one. -/
import Derived.Test.YtdbjknljdplinaaRngC
namespace Go.Proofs.Ytdbjknljdplinaa.Rng
open Go.ChangeShapes Go.WideShapes Go.ChangeAt Go.RowKit
set_option linter.unusedVariables false

theorem rseed (n : BitVec 32) (w : World) :
    Calls Try.prog 25 #[.int .u32 (n.toNat : Int)] w fun e w' => e = .returned (.int .u32 ((seedW n).toNat : Int)) ∧ w = w' := by
  by_cases h : n = 0
  · subst h
    have e : ((seedW 0).toNat : Int) = 2654435769 := by decide
    rw [e]
    go_enter Try.func25, Try.ntmps25
    go_wp2
    go_ret
    exact ⟨rfl, rfl⟩
  · have e : seedW n = n := if_neg h
    rw [e]
    have hp : n.toNat ≠ 0 := fun hz => h (BitVec.eq_of_toNat_eq (by simpa using hz))
    have hb : ((n.toNat : Int) == 0) = false := beq_eq_false_iff_ne.2 (by omega)
    clear e h
    go_enter Try.func25, Try.ntmps25
    go_wp2
    go_ret
    exact ⟨rfl, rfl⟩
theorem rbelow_neg (s : BitVec 32) (n : Int) (h : n < 1) (w : World) :
    Calls Try.prog 29 #[.int .u32 (s.toNat : Int), .int .i64 n] w fun e w' => e = .returned (.int .i64 0) ∧ w = w' := by
  have h0 := s.isLt
  go_enter Try.func29, Try.ntmps29
  go_wp2
  go_ret
  exact ⟨rfl, rfl⟩
theorem rbelow_pos (s : BitVec 32) (n : Int) (h : 1 ≤ n) (h2 : n < 9223372036854775808) (w : World) :
    Calls Try.prog 29 #[.int .u32 (s.toNat : Int), .int .i64 n] w fun e w' => e = .returned (.int .i64 ((s.toNat : Int) / 256 % n)) ∧ w = w' := by
  have h0 := s.isLt
  go_enter Try.func29, Try.ntmps29
  go_wp2
  go_ret
  exact ⟨rfl, rfl⟩
theorem wf_up (x : BitVec 32) (s : Nat) : bs (wf x.getLsbD (s : Int)) = bs (x ^^^ x <<< s).getLsbD := bs_congr fun i hi => by
  rw [BitVec.getLsbD_xor, BitVec.getLsbD_shiftLeft]
  by_cases h : 0 ≤ (i : Int) - s ∧ (i : Int) - s < 32 ∧ x.getLsbD ((i : Int) - s).toNat = true
  · rw [wf_yes h]
    have e : ((i : Int) - s).toNat = i - s := by omega
    rw [e] at h
    simp [hi, h.2.2, show ¬ i < s by omega]
  · rw [wf_no h]
    by_cases h1 : i < s
    · simp [h1]
    · have e : ((i : Int) - s).toNat = i - s := by omega
      rw [e] at h
      have : x.getLsbD (i - s) = false := by
        cases hb : x.getLsbD (i - s) with
        | false => rfl
        | true => exact absurd ⟨by omega, by omega, hb⟩ h
      simp [this]
theorem wf_down (x : BitVec 32) (s : Nat) : bs (wf x.getLsbD (-(s : Int))) = bs (x ^^^ x >>> s).getLsbD := bs_congr fun i hi => by
  rw [BitVec.getLsbD_xor, BitVec.getLsbD_ushiftRight]
  have e : ((i : Int) - -(s : Int)).toNat = s + i := by omega
  by_cases h : 0 ≤ (i : Int) - -(s : Int) ∧ (i : Int) - -(s : Int) < 32 ∧ x.getLsbD ((i : Int) - -(s : Int)).toNat = true
  · rw [wf_yes h]
    rw [e] at h
    simp [h.2.2]
  · rw [wf_no h]
    rw [e] at h
    have : x.getLsbD (s + i) = false := by
      cases hb : x.getLsbD (s + i) with
      | false => rfl
      | true =>
        by_cases h3 : s + i < 32
        · exact absurd ⟨by omega, by omega, hb⟩ h
        · rw [BitVec.getLsbD_of_ge x _ (by omega)] at hb; cases hb
    simp [this]
theorem step_num (x : BitVec 32) (j : Nat) : x.toNat / 2 ^ j = x.toNat / 2 ^ (j + 1) * 2 + (if x.getLsbD j = true then 1 else 0) := by
  have h := bit_of x j
  rw [half]
  generalize x.toNat / 2 ^ j = q at *
  by_cases hb : x.getLsbD j = true
  · rw [hb] at h
    have := beq_iff_eq.1 h
    simp [hb]; omega
  · have hb' : x.getLsbD j = false := by simpa using hb
    rw [hb'] at h
    have := beq_eq_false_iff_ne.1 h
    simp [hb']; omega
def NRel (x : BitVec 32) (out i : Value) : Prop := ∃ k : Nat, k ≤ 32 ∧ out = .int .u32 ((x.toNat / 2 ^ k : Nat) : Int) ∧ i = .int .i64 ((k : Int) - 1)
set_option maxHeartbeats 1000000 in
theorem rnext (n : BitVec 32) (w : World) :
    Calls Try.prog 27 #[.int .u32 (n.toNat : Int)] w fun e w' => e = .returned (.int .u32 ((nextW (seedW n)).toNat : Int)) ∧ Ext w w' := by
  have H1 := Lib.hid (bits (seedW n))
  have H2 := Lib.hid (fun W => withs (seedW n).getLsbD 13 (by omega) (by omega) W)
  have e2 := wf_up (seedW n) 13
  have H3 := Lib.hid (fun W => withs (seedW n ^^^ seedW n <<< 13).getLsbD (-17) (by omega) (by omega) W)
  have e3 := wf_down (seedW n ^^^ seedW n <<< 13) 17
  have H4 := Lib.hid (fun W => withs ((seedW n ^^^ seedW n <<< 13) ^^^ (seedW n ^^^ seedW n <<< 13) >>> 17).getLsbD 5 (by omega) (by omega) W)
  have e4 := wf_up ((seedW n ^^^ seedW n <<< 13) ^^^ (seedW n ^^^ seedW n <<< 13) >>> 17) 5
  have e5 : ((seedW n ^^^ seedW n <<< 13) ^^^ (seedW n ^^^ seedW n <<< 13) >>> 17) ^^^ ((seedW n ^^^ seedW n <<< 13) ^^^ (seedW n ^^^ seedW n <<< 13) >>> 17) <<< 5 = nextW (seedW n) := rfl
  rw [e5] at e4
  rw [show ((13 : Nat) : Int) = 13 from rfl] at e2
  rw [show ((17 : Nat) : Int) = 17 from rfl] at e3
  rw [show ((5 : Nat) : Int) = 5 from rfl] at e4
  rw [e2] at H2
  rw [e3] at H3
  rw [e4] at H4
  clear e2 e3 e4 e5
  generalize nextW (seedW n) = x at *
  generalize (seedW n ^^^ seedW n <<< 13) ^^^ (seedW n ^^^ seedW n <<< 13) >>> 17 = y2 at *
  generalize seedW n ^^^ seedW n <<< 13 = y1 at *
  have HS := Lib.hid (rseed n)
  generalize seedW n = y0 at *
  have hx := x.isLt
  go_enter Try.func27, Try.ntmps27
  go_wp2_with fail
  refine (HS.out _).mono ?_
  rintro e w1 ⟨rfl, rfl⟩
  go_wp2_with fail
  refine (H1.out _).mono ?_
  rintro e w1 ⟨rfl, b1⟩
  go_wp2_with fail
  refine (H2.out _).mono ?_
  rintro e w2 ⟨rfl, b2⟩
  go_wp2_with fail
  refine (H3.out _).mono ?_
  rintro e w3 ⟨rfl, b3⟩
  go_wp2_with fail
  refine (H4.out _).mono ?_
  rintro e w4 ⟨rfl, b4⟩
  have bb := ext_trans b1 (ext_trans b2 (ext_trans b3 b4))
  clear b1 b2 b3 b4
  go_wp2_with (first | (refine wpList_store_row rfl 108 (.tmp 3) (.tmp 11) rfl w4.heap.size (bs x.getLsbD) rfl rfl 108 #[.bool false, .bool false, .bool false, .bool false, .bool false, .bool false, .bool false, .bool false, .bool false, .bool false, .bool false, .bool false, .bool false, .bool false, .bool false, .bool false, .bool false, .bool false, .bool false, .bool false, .bool false, .bool false, .bool false, .bool false, .bool false, .bool false, .bool false, .bool false, .bool false, .bool false, .bool false, .bool false] (Blk.new _ _ _) (by rw [bs_size]; exact info_arr) (by rw [bs_size]; rfl) (bs_one _) ?_))
  have KB : Hid (Blk ((w4.alloc (.cells #[.bool false, .bool false, .bool false, .bool false, .bool false, .bool false, .bool false, .bool false, .bool false, .bool false, .bool false, .bool false, .bool false, .bool false, .bool false, .bool false, .bool false, .bool false, .bool false, .bool false, .bool false, .bool false, .bool false, .bool false, .bool false, .bool false, .bool false, .bool false, .bool false, .bool false, .bool false, .bool false] 108)).setRow w4.heap.size (bs x.getLsbD)) w4.heap.size 108 (bs x.getLsbD)) := Lib.hid (setRow_blk (Blk.new _ _ _))
  have ew := ext_setRow (g := w4.heap.size) (ext_alloc bb (.cells #[.bool false, .bool false, .bool false, .bool false, .bool false, .bool false, .bool false, .bool false, .bool false, .bool false, .bool false, .bool false, .bool false, .bool false, .bool false, .bool false, .bool false, .bool false, .bool false, .bool false, .bool false, .bool false, .bool false, .bool false, .bool false, .bool false, .bool false, .bool false, .bool false, .bool false, .bool false, .bool false] 108)) bb.size (bs x.getLsbD)
  generalize (w4.alloc (.cells #[.bool false, .bool false, .bool false, .bool false, .bool false, .bool false, .bool false, .bool false, .bool false, .bool false, .bool false, .bool false, .bool false, .bool false, .bool false, .bool false, .bool false, .bool false, .bool false, .bool false, .bool false, .bool false, .bool false, .bool false, .bool false, .bool false, .bool false, .bool false, .bool false, .bool false, .bool false, .bool false] 108)).setRow w4.heap.size (bs x.getLsbD) = wr at *
  go_loop [4, 5] (fun out i => NRel x out i) (fun _ i => (intOf i + 1).toNat)
  case atStart => exact ⟨32, by omega, by rw [Nat.div_eq_of_lt (by omega)]; rfl, rfl⟩
  case round =>
    obtain ⟨k, hk, rfl, rfl⟩ := hrel
    cases k with
    | zero =>
      rw [show ((0 : Nat) : Int) - 1 = -1 from rfl, Nat.pow_zero, Nat.div_one]
      go_wp2
      go_ret
      exact ⟨rfl, ew⟩
    | succ j =>
      rw [show ((j + 1 : Nat) : Int) - 1 = (j : Int) from by omega]
      have hs := step_num x j
      have c0 : wr.cell? ⟨w4.heap.size, j, none⟩ = some (.bool (x.getLsbD j)) := (KB.out.cell j).trans (bs_at _ j (by omega))
      have j0 : (0 : Int) ≤ (j : Int) := by omega
      have j1 : (j : Int) < 32 := by omega
      have hlt : x.toNat / 2 ^ j < 4294967296 := Nat.lt_of_le_of_lt (Nat.div_le_self _ _) hx
      cases hb : x.getLsbD j with
      | true =>
        rw [hb] at c0 hs
        simp only [if_true] at hs
        clear hb
        rw [hs] at hlt
        generalize x.toNat / 2 ^ (j + 1) = q at *
        have HQ := Lib.hid hs; clear hs
        go_wp2
        go_round
        case rel => exact ⟨j, by omega, by rw [HQ.out]; go_num, rfl⟩
        case measure => simp [intOf]
      | false =>
        rw [hb] at c0 hs
        simp only [Bool.false_eq_true, if_false, Nat.add_zero] at hs
        clear hb
        rw [hs] at hlt
        generalize x.toNat / 2 ^ (j + 1) = q at *
        have HQ := Lib.hid hs; clear hs
        go_wp2
        go_round
        case rel => exact ⟨j, by omega, by rw [HQ.out]; go_num, rfl⟩
        case measure => simp [intOf]
end Go.Proofs.Ytdbjknljdplinaa.Rng
