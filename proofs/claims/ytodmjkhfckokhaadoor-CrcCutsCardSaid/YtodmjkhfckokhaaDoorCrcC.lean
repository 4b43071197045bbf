/- The document's checksum, walked. -/
import Derived.Test.YtodmjkhfckokhaaDoorCrcB
namespace Go.Proofs.YtodmjkhfckokhaaDoor.Crc
open Go.ChangeShapes Go.WideShapes Go.ChangeAt Go.RowKit
set_option linter.unusedVariables false

def RRel (xs : List Nat) (nv iv : Value) : Prop := ∃ k : Nat, k ≤ xs.length ∧ nv = .int .u32 ((feed (~~~ 0#32) (xs.take k)).toNat : Int) ∧ iv = .int .i64 (k : Int)
def SRel (m : BitVec 32) (c0 : Nat) (nv cv kv : Value) : Prop := ∃ (k : Nat) (x : BitVec 32), k ≤ 8 ∧ nv = .int .u32 (x.toNat : Int) ∧ cv = .int .u32 ((c0 / 2 ^ k : Nat) : Int) ∧ kv = .int .i64 (k : Int) ∧ x ^^^ BitVec.ofNat 32 (c0 / 2 ^ k) = stepN k m
theorem half_nat (n k : Nat) : n / 2 ^ (k + 1) = n / 2 ^ k / 2 := by rw [Nat.pow_succ, Nat.div_div_eq_div_mul]
theorem shr1_bv (n : BitVec 32) : (n.toNat : Int) / (2 : Int) = ((n >>> 1).toNat : Int) := by
  rw [BitVec.toNat_ushiftRight, Nat.shiftRight_eq_div_pow]; omega
set_option maxHeartbeats 1000000 in
theorem rsum_some (b o n c : Nat) (xs : List Nat) (w : World) (hl : xs.length = n) (hb : ∀ j, xs.getD j 0 < 256) (hc : ∀ j, j < n → w.cell? ⟨b, o + j, none⟩ = some (.int .u8 (xs.getD j 0 : Nat))) (hn : n ≤ 4000000000) :
    Calls Tryd.prog 7 #[.slice (some ⟨b, o, none⟩) n c] w fun e w' => e = .returned (.int .u32 ((moreW 0#32 xs).toNat : Int)) ∧ w = w' := by
  have HC := Lib.hid hc; clear hc
  have HB := Lib.hid hb; clear hb
  have hfin : moreW 0#32 xs = ~~~ feed (~~~ 0#32) xs := rfl
  generalize moreW 0#32 xs = fin at *
  have HF := Lib.hid hfin; clear hfin
  go_enter Tryd.func7, Tryd.ntmps7
  go_wp2
  have hle : n ≤ xs.length := by omega
  have hle2 : xs.length ≤ n := by omega
  clear hl
  go_loop [3, 4] (fun nv iv => RRel xs nv iv) (fun _ iv => n - (intOf iv).toNat)
  case atStart => exact ⟨0, by omega, by simp [feed], rfl⟩
  case round =>
    obtain ⟨k, hk, rfl, rfl⟩ := hrel
    by_cases hlt : k < n
    · have hk0 : (0 : Int) ≤ (k : Int) := by omega
      have hk1 : (k : Int) < (n : Int) := by omega
      have c0 := HC.out k hlt
      have c1 := HB.out k
      have HFS := Lib.hid (feed_snoc (~~~ 0#32) xs k (by omega))
      generalize hnn : feed (~~~ 0#32) (xs.take k) = nn at *
      have HNN := Lib.hid hnn; clear hnn
      generalize xs.getD k 0 = cb at *
      have n1 := nn.isLt
      go_wp2
      go_loop [3, 5, 6] (fun nv cv kv => SRel (nn ^^^ BitVec.ofNat 32 cb) cb nv cv kv) (fun _ _ kv => 8 - (intOf kv).toNat)
      case atStart => exact ⟨0, nn, by omega, rfl, by simp, rfl, by simp [stepN]⟩
      case round =>
        obtain ⟨j, x, hj, rfl, rfl, rfl, hx⟩ := hrel
        by_cases hj8 : j < 8
        · have hq : cb / 2 ^ j < 256 := Nat.lt_of_le_of_lt (Nat.div_le_self _ _) c1
          have hh := half_nat cb j
          generalize cb / 2 ^ j = q at *
          have HH := Lib.hid hh; clear hh
          have HX := Lib.hid hx; clear hx
          have x1 := x.isLt
          by_cases hbit : (x.toNat + q) % 2 = 1
          · have hb : (((x.toNat : Int) + (q : Int)) % 2 == 1) = true := beq_iff_eq.2 (by omega)
            have HS := Lib.hid (bit_step x q hq (x >>> 1 ^^^ poly) (by rw [if_pos hbit]))
            clear hbit
            go_wp2
            go_round
            case rel => exact ⟨j + 1, x >>> 1 ^^^ poly, by omega, by rw [shr1_bv]; exact congrArg _ (xor_bv (x >>> 1) poly), by rw [HH.out]; go_num, by go_num, by rw [HH.out, HS.out, HX.out]; rfl⟩
            case measure => simp [intOf]; omega
          · have hb : (((x.toNat : Int) + (q : Int)) % 2 == 1) = false := beq_eq_false_iff_ne.2 (by omega)
            have HS := Lib.hid (bit_step x q hq (x >>> 1) (by rw [if_neg hbit]))
            clear hbit
            go_wp2
            go_round
            case rel => exact ⟨j + 1, x >>> 1, by omega, by rw [shr1_bv], by rw [HH.out]; go_num, by go_num, by rw [HH.out, HS.out, HX.out]; rfl⟩
            case measure => simp [intOf]; omega
        · obtain rfl : j = 8 := by omega
          have hz : cb / 2 ^ 8 = 0 := Nat.div_eq_of_lt c1
          rw [hz] at hx
          have hx2 : x = byteW nn cb := by rw [byte_eq, ← hx]; simp
          have HX := Lib.hid hx2; clear hx hx2
          rw [hz]
          clear hz
          go_wp2
          go_round
          case rel => exact ⟨k + 1, by omega, by rw [HFS.out, HX.out], by go_num⟩
          case measure => simp [intOf]; omega
    · have hk2 : k = xs.length := by omega
      have HX := Lib.hid (show feed (~~~ 0#32) (xs.take k) = feed (~~~ 0#32) xs by rw [hk2, List.take_length])
      clear hk2
      rw [HX.out]
      generalize feed (~~~ 0#32) xs = y at *
      have y1 := y.isLt
      have HN : Hid (((~~~ y).toNat : Int) = 4294967295 - (y.toNat : Int)) := Lib.hid (by rw [BitVec.toNat_not]; omega)
      go_wp2
      go_ret
      exact ⟨by rw [HF.out, HN.out]; rfl, rfl⟩
set_option maxHeartbeats 1000000 in
theorem rsum_nil (A : Option Addr) (c : Nat) (w : World) :
    Calls Tryd.prog 7 #[.slice A 0 c] w fun e w' => e = .returned (.int .u32 0) ∧ w = w' := by
  go_enter Tryd.func7, Tryd.ntmps7
  go_wp2
  go_loop [3, 4] (fun nv iv => nv = .int .u32 4294967295 ∧ iv = .int .i64 0) (fun _ _ => 0)
  case atStart => exact ⟨rfl, rfl⟩
  case round =>
    obtain ⟨rfl, rfl⟩ := hrel
    go_wp2
    go_ret
    exact ⟨rfl, rfl⟩
theorem rsum (A : Option Addr) (n c : Nat) (xs : List Nat) (w : World) (h : Rd w A n xs) (hn : n ≤ 4000000000) :
    Calls Tryd.prog 7 #[.slice A n c] w fun e w' => e = .returned (.int .u32 ((moreW 0#32 xs).toNat : Int)) ∧ w = w' := by
  rcases Nat.eq_zero_or_pos n with rfl | hp
  · have : xs = [] := List.eq_nil_of_length_eq_zero h.1
    subst this
    have e : ((moreW 0#32 []).toNat : Int) = 0 := by decide
    rw [e]
    exact rsum_nil A c w
  · obtain ⟨b, o, rfl, _, hc⟩ := h.2.2 hp
    exact rsum_some b o n c xs w h.1 h.2.1 hc hn
end Go.Proofs.YtodmjkhfckokhaaDoor.Crc
