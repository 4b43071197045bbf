/- Contracts of package wire: a fixed number is read. -/
import Derived.Test.YtodmjkhfckokhaaWireV69
import Derived.Test.YtodmjkhfckokhaaWireR69
import Derived.Test.YtodmjkhfckokhaaWireI
namespace Go.Proofs.Ytodmjkhfckokhaa.Wire
open Go.ChangeShapes Go.WideShapes Go.ChangeAt Go.RowKit
set_option linter.unusedVariables false

def be (ys : List Nat) : Nat := ys.foldl (fun a c => a * 256 + c) 0
theorem be_snoc (ys : List Nat) (k : Nat) (h : k < ys.length) : be (ys.take (k + 1)) = be (ys.take k) * 256 + ys.getD k 0 := by
  unfold be
  rw [List.take_succ_eq_append_getElem h, List.foldl_append]
  simp [List.getD_eq_getElem?_getD, List.getElem?_eq_getElem h]
theorem be_fx {m : Nat} (h : m < 4294967296) : be (fx m) = m := by
  simp only [be, fx, List.foldl_cons, List.foldl_nil]; omega
theorem or32 (a b : Nat) : bits .or .u32 (a : Int) (b : Int) = ((BitVec.ofNat 32 a ||| BitVec.ofNat 32 b).toNat : Int) := by
  show IntKind.u32.wrap ((BitVec.ofInt 32 (a : Int) ||| BitVec.ofInt 32 (b : Int)).toNat : Int) = _
  rw [BitVec.ofInt_natCast, BitVec.ofInt_natCast]
  have := (BitVec.ofNat 32 a ||| BitVec.ofNat 32 b).isLt
  rw [IntKind.wrap_u32]
  omega
theorem be_val (acc cb : Nat) (ha : acc < 16777216) (hc : cb < 256) : bits BinOp.or IntKind.u32 ((acc : Int) * 256) (cb : Int) = ((acc * 256 + cb : Nat) : Int) := by
  rw [show ((acc : Int) * 256) = ((acc * 256 : Nat) : Int) from by omega, or32, BitVec.toNat_or, BitVec.toNat_ofNat, BitVec.toNat_ofNat, Nat.mod_eq_of_lt (show acc * 256 < 2 ^ 32 by omega), Nat.mod_eq_of_lt (show cb < 2 ^ 32 by omega)]
  have := Nat.shiftLeft_add_eq_or_of_lt (i := 8) (b := cb) (by omega) acc
  rw [Nat.shiftLeft_eq] at this
  rw [show acc * 256 = acc * 2 ^ 8 from rfl, ← this]
def FPhi (at_ : Nat) (rest : List Nat) (v : Value) (a' : Nat) (err : Int) (w' : World) : Prop :=
  (4 ≤ rest.length ∧ v = .int .u32 (be (rest.take 4) : Nat) ∧ a' = at_ + 4 ∧ err = 0) ∨ (rest.length < 4 ∧ err = 3)
def FRel (ys : List Nat) (nv iv : Value) : Prop := ∃ k : Nat, k ≤ 4 ∧ nv = .int .u32 (be (ys.take k) : Nat) ∧ iv = .int .i64 (k : Int) ∧ be (ys.take k) < 256 ^ k
set_option maxHeartbeats 4000000 in
set_option maxRecDepth 100000 in
theorem fixed1 (pb rb g n c at_ : Nat) (A : Option Addr) (xs : List Nat) (w : World) (hp : w.cell? ⟨pb, 0, none⟩ = some (.pointer (some ⟨g, 0, none⟩))) (hr : w.cell? ⟨rb, 0, none⟩ = some (.pointer (some ⟨g, 0, none⟩)))
    (h : Rdr w g (.slice A n c) at_ 0) (hB : RB w g A n c xs) (hat : at_ ≤ n) (hn : n ≤ 4000000000) :
    Calls Try.prog 45 #[.func (.func 69) #[] #[.pointer (some ⟨pb, 0, none⟩)], .pointer (some ⟨rb, 0, none⟩)] w (CP w g (.slice A n c) (FPhi at_ (xs.drop at_))) := by
  have hxl : (xs.drop at_).length = n - at_ := by rw [List.length_drop, hB.1.1]
  by_cases h4 : at_ + 4 ≤ n
  · have HC := Lib.hid (show Calls Try.prog 46 #[.pointer (some ⟨g, 0, none⟩), .int .u64 4, .func (.func 69) #[] #[.pointer (some ⟨pb, 0, none⟩)]] w (PPost w g (.slice A n c) at_ 4 ((xs.drop at_).take 4)) from piece_ok g n c at_ 4 A _ xs w h hB h4 hn)
    have HF : Hid (∀ w', FPhi at_ (xs.drop at_) (.int .u32 (be ((xs.drop at_).take 4) : Nat)) (at_ + 4) 0 w') := Lib.hid (fun w' => .inl ⟨by omega, rfl, rfl, rfl⟩)
    have HYL : Hid (((xs.drop at_).take 4).length = 4) := Lib.hid (by rw [List.length_take]; omega)
    clear hp h hB hxl
    generalize FPhi at_ (xs.drop at_) = Φ at *
    generalize (xs.drop at_).take 4 = ys at *
    go_enter Try.func45, Try.ntmps45
    go_wp2_with fail
    refine (HC.out).mono ?_
    rintro e w3 ⟨A', c', rfl, hc1, hc2, hc3, hB3, hE3⟩
    obtain ⟨b, o, rfl, _, hcell⟩ := hB3.2.2 (by omega)
    have HBY := Lib.hid hB3.2.1
    have HE3 := Lib.hid hE3; have HCE := Lib.hid hcell; clear hE3 hB3 hcell hc3
    go_wp2_with fail
    go_loop [4, 6, 11] (fun nv _ iv => FRel ys nv iv) (fun _ _ iv => 4 - (intOf iv).toNat)
    case atStart => exact ⟨0, by omega, rfl, rfl, Nat.zero_lt_one⟩
    case round =>
      obtain ⟨k, hk, rfl, rfl, hbe⟩ := hrel
      by_cases hlt : k < 4
      · have q0 := HCE.out k hlt
        have q1 := HBY.out k
        have HSN := Lib.hid (be_snoc ys k (by rw [HYL.out]; exact hlt))
        have hpow : 256 ^ k ≤ 256 ^ 3 := Nat.pow_le_pow_right (by omega) (by omega)
        have hs : be (ys.take k) < 16777216 := by
          have : (256 : Nat) ^ 3 = 16777216 := by decide
          omega
        have HBE : Hid (be (ys.take (k + 1)) < 256 ^ (k + 1)) := Lib.hid (by rw [HSN.out, Nat.pow_succ]; omega)
        clear hpow hbe
        generalize be (ys.take k) = acc at *
        generalize ys.getD k 0 = cb at *
        have HV := Lib.hid (be_val acc cb hs q1)
        have k0 : (0 : Int) ≤ (k : Int) := by omega
        have k1 : (k : Int) < 4 := by omega
        have s0 : (acc : Int) < 16777216 := by omega
        have q2 : (cb : Int) < 256 := by omega
        go_wp2_with fail
        go_round
        case rel => exact ⟨k + 1, by omega, by rw [HSN.out, HV.out], by go_num, HBE.out⟩
        case measure => simp [intOf]; omega
      · obtain rfl : k = 4 := by omega
        have HTK : Hid (ys.take 4 = ys) := Lib.hid (List.take_of_length_le (by rw [HYL.out]; exact Nat.le_refl _))
        rw [HTK.out]
        clear hbe
        generalize be ys = y at *
        go_wp2_with fail
        go_ret
        exact ⟨_, at_ + 4, 0, rfl, HE3.out, HF.out _⟩
  · have HC := Lib.hid (show Calls Try.prog 46 #[.pointer (some ⟨g, 0, none⟩), .int .u64 4, .func (.func 69) #[] #[.pointer (some ⟨pb, 0, none⟩)]] w (fun e w' => e = .returned (.slice none 0 0) ∧ Eff w w' g (.slice A n c) at_ 3) from piece_short_69 pb g n c at_ 4 A xs w hp h hat hn (by omega))
    have HF : Hid (∀ v w', FPhi at_ (xs.drop at_) v at_ 3 w') := Lib.hid (fun v w' => .inr ⟨by omega, rfl⟩)
    clear hp h hB hxl
    generalize FPhi at_ (xs.drop at_) = Φ at *
    go_enter Try.func45, Try.ntmps45
    go_wp2_with fail
    refine (HC.out).mono ?_
    rintro e w3 ⟨rfl, hE3⟩
    have HE3 := Lib.hid hE3; clear hE3
    go_wp2_with fail
    go_loop [4, 6, 11] (fun nv _ iv => nv = .int .u32 0 ∧ iv = .int .i64 0) (fun _ _ _ => 0)
    case atStart => exact ⟨rfl, rfl⟩
    case round =>
      obtain ⟨rfl, rfl⟩ := hrel
      go_wp2_with fail
      go_ret
      exact ⟨_, at_, 3, rfl, HE3.out, HF.out _ _⟩
/-- What Fixed comes to. -/
def FPost (w : World) (g : Nat) (s : Value) (at_ : Nat) (rest : List Nat) (e : Ending) (w' : World) : Prop :=
  (4 ≤ rest.length ∧ e = .returned (.int .u32 (be (rest.take 4) : Nat)) ∧ Eff w w' g s (at_ + 4) 0) ∨ (rest.length < 4 ∧ e = .returned (.int .u32 0) ∧ Eff w w' g s at_ 3)
theorem fpost_of {w w' : World} {g : Nat} {s : Value} {at_ : Nat} {rest : List Nat} {e : Ending} (h : RP w g s (.int .u32 0) at_ (FPhi at_ rest) e w') : FPost w g s at_ rest e w' := by
  rcases h with ⟨v, a', rfl, hE, ⟨h1, rfl, rfl, _⟩ | ⟨_, h2⟩⟩ | ⟨err, hne, rfl, hE, v0, a0, w0, ⟨_, _, _, h2⟩ | ⟨h1, h2⟩⟩
  · exact .inl ⟨h1, rfl, hE⟩
  · exact absurd h2 (by decide)
  · exact absurd h2 hne
  · subst h2; exact .inr ⟨h1, rfl, hE⟩
set_option maxHeartbeats 4000000 in
theorem fixed (g n c at_ : Nat) (A : Option Addr) (xs : List Nat) (w : World) (h : Rdr w g (.slice A n c) at_ 0) (hB : RB w g A n c xs) (hat : at_ ≤ n) (hn : n ≤ 4000000000) :
    Calls Try.prog 22 #[.pointer (some ⟨g, 0, none⟩)] w (FPost w g (.slice A n c) at_ (xs.drop at_)) := by
  have ha := ext_alloc (Ext.rfl' w) (.cells #[.pointer (some ⟨g, 0, none⟩)] 34)
  have hb := ext_alloc (Ext.rfl' (w.alloc (.cells #[.pointer (some ⟨g, 0, none⟩)] 34))) (.cells #[.pointer (some ⟨g, 0, none⟩)] 34)
  have HC := Lib.hid (reading_69 g at_ (.slice A n c) (.pointer (some ⟨w.heap.size, 0, none⟩)) (FPhi at_ (xs.drop at_)) (w.alloc (.cells #[.pointer (some ⟨g, 0, none⟩)] 34)) (h.ext ha)
    (fixed1 (w.alloc (.cells #[.pointer (some ⟨g, 0, none⟩)] 34)).heap.size w.heap.size g n c at_ A xs _ (by simp) (kc hb (by simp)) ((h.ext ha).ext hb) ((hB.eff (gb_ext ha _)).eff (gb_ext hb _)) hat hn))
  clear h hB ha hb
  generalize xs.drop at_ = rest at *
  go_enter Try.func22, Try.ntmps22
  go_wp2_with fail
  refine (HC.out).mono ?_
  intro e w3 hq
  have hp := fpost_of (rp_alloc _ hq)
  clear hq
  have HP := Lib.hid hp
  rcases hp with ⟨h1, rfl, hE⟩ | ⟨h1, rfl, hE⟩
  all_goals
    clear h1 hE
    go_wp2_with fail
    go_ret
    exact HP.out
end Go.Proofs.Ytodmjkhfckokhaa.Wire
