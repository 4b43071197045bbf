/- Contracts of package wire: a number that is not too great is read. -/
import Derived.Test.YtlldmpcamdginaaG3
import Derived.Test.YtlldmpcamdginaaG2
import Derived.WalkSpells
import Derived.Test.YtlldmpcamdginaaG1
import Derived.RangeFuncNested
import Derived.RangeFuncCalls
import Derived.RangeFuncLeaves
import Derived.OwnWalkIn
import Derived.OrdersHeld
import Derived.Deep.RegionHeld
import Derived.BigRegion
import Derived.Deep.RegionHeld3
import Derived.Laws.CopyOwn
import Derived.Lib.BufferWrite
import Derived.LoopIn
import Derived.LoopNIn
import Derived.LoopTactic
import Derived.Maps.AppendAt
import Derived.RangeFuncBound
import Derived.RangeFuncBox
import Derived.RegionTactic
import Derived.Shelf.Abstract
import Derived.Shelf.RegionOpen
import Derived.Sort.CutIn
import Derived.TacticsInMore
import Derived.WalkLawsBesides
import Derived.Laws.IdiomStrings
import Derived.Deep.Slices
import Derived.Deep.Fields
import Derived.ChangeSame
import Derived.WideShapes
namespace Go.Proofs.Ytlldmpcamdginaa.Wire
open Go.ChangeShapes Go.WideShapes Go.ChangeAt Go.RowKit
set_option linter.unusedVariables false

def lim : VR → VR
  | .ok v k => if v ≤ 2147483647 then .ok v k else .form
  | r => r
def IPhi (at_ : Nat) (R : VR) (v : Value) (a' : Nat) (err : Int) (w' : World) : Prop :=
  ∃ z : Int, v = .int .i64 z ∧ (match lim R with | .short => err = 3 | .form => err = 4 | .ok k l => z = (k : Int) ∧ a' = at_ + l ∧ err = 0)
set_option maxHeartbeats 4000000 in
set_option maxRecDepth 100000 in
theorem int1 (pb rb g n c at_ : Nat) (A : Option Addr) (xs : List Nat) (w : World) (hp : w.cell? ⟨pb, 0, none⟩ = some (.pointer (some ⟨g, 0, none⟩))) (hr : w.cell? ⟨rb, 0, none⟩ = some (.pointer (some ⟨g, 0, none⟩))) (hpg : pb ≠ g)
    (h : Rdr w g (.slice A n c) at_ 0) (hB : Bs w A n xs) (hat : at_ ≤ n) (hn : n ≤ 4000000000) :
    Calls Try.prog 66 #[.func (.func 85) #[] #[.pointer (some ⟨pb, 0, none⟩)], .pointer (some ⟨rb, 0, none⟩)] w (CP w g (.slice A n c) (IPhi at_ (vr 0 0 (xs.drop at_)))) := by
  have HC := Lib.hid (varint_68 pb g n c at_ A xs w hp h hB hat hn)
  have HP := Lib.hid hp; have H := Lib.hid h; clear hp h hB
  generalize vr 0 0 (xs.drop at_) = R at *
  go_enter Try.func66, Try.ntmps66
  go_wp2_with fail
  refine (HC.out).mono ?_
  rintro e w3 ⟨z, j, err, rfl, hz, hE3, hm⟩
  have p3 := hE3.2.cell HP.out (by simpa using hpg)
  have HE3 := Lib.hid hE3; clear hE3
  clear hz
  cases R with
  | short =>
    obtain rfl : err = 3 := hm
    by_cases hbig : z ≤ 2147483647
    · have hbig2 : ¬ (2147483647 : Int) < (z : Int) := by omega
      go_wp2_with fail
      go_ret
      exact ⟨_, at_ + j, 3, rfl, HE3.out, _, rfl, rfl⟩
    · have hbig2 : (2147483647 : Int) < (z : Int) := by omega
      go_wp2_with fail
      refine (fail1_68 _ pb g _ (at_ + j) 4 3 p3 HE3.out.1 (by decide)).mono ?_
      rintro e w4 ⟨rfl, hE4⟩
      have HE4 := Lib.hid hE4; clear hE4
      go_wp2_with fail
      go_ret
      exact ⟨_, at_ + j, 3, rfl, HE3.out.trans HE4.out, _, rfl, rfl⟩
  | form =>
    obtain rfl : err = 4 := hm
    by_cases hbig : z ≤ 2147483647
    · have hbig2 : ¬ (2147483647 : Int) < (z : Int) := by omega
      go_wp2_with fail
      go_ret
      exact ⟨_, at_ + j, 4, rfl, HE3.out, _, rfl, rfl⟩
    · have hbig2 : (2147483647 : Int) < (z : Int) := by omega
      go_wp2_with fail
      refine (fail1_68 _ pb g _ (at_ + j) 4 4 p3 HE3.out.1 (by decide)).mono ?_
      rintro e w4 ⟨rfl, hE4⟩
      have HE4 := Lib.hid hE4; clear hE4
      go_wp2_with fail
      go_ret
      exact ⟨_, at_ + j, 4, rfl, HE3.out.trans HE4.out, _, rfl, rfl⟩
  | ok v k =>
    obtain ⟨rfl, rfl, rfl⟩ := hm
    by_cases hbig : z ≤ 2147483647
    · have hbig2 : ¬ (2147483647 : Int) < (z : Int) := by omega
      go_wp2_with fail
      go_ret
      exact ⟨_, at_ + j, 0, rfl, HE3.out, (z : Int), rfl, by simp [lim, hbig]⟩
    · have hbig2 : (2147483647 : Int) < (z : Int) := by omega
      go_wp2_with fail
      refine (fail0_68 _ pb g _ (at_ + j) 4 p3 HE3.out.1).mono ?_
      rintro e w4 ⟨rfl, hE4⟩
      have HE4 := Lib.hid hE4; clear hE4
      go_wp2_with fail
      go_ret
      exact ⟨_, at_ + j, 4, rfl, HE3.out.trans HE4.out, _, rfl, by simp only [lim, if_neg hbig]⟩
/-- What Int comes to. -/
def IPost (w : World) (g : Nat) (s : Value) (at_ : Nat) (R : VR) (e : Ending) (w' : World) : Prop :=
  ∃ (z j : Nat) (err : Int), e = .returned (.int .i64 (z : Int)) ∧ z ≤ 2147483647 ∧ Eff w w' g s (at_ + j) err ∧
    (match lim R with | .short => z = 0 ∧ j = 0 ∧ err = 3 | .form => z = 0 ∧ j = 0 ∧ err = 4 | .ok v k => z = v ∧ j = k ∧ err = 0)
theorem lim_le {R : VR} {v k : Nat} (h : lim R = .ok v k) : v ≤ 2147483647 := by
  cases R with
  | short => cases h
  | form => cases h
  | ok a b =>
    simp only [lim] at h
    by_cases hb : a ≤ 2147483647
    · rw [if_pos hb] at h; cases h; exact hb
    · rw [if_neg hb] at h; cases h
theorem ipost_of {w w' : World} {g : Nat} {s : Value} {at_ : Nat} {R : VR} {e : Ending} (h : RP w g s (.int .i64 0) at_ (IPhi at_ R) e w') : IPost w g s at_ R e w' := by
  rcases h with ⟨v, a', rfl, hE, z, rfl, hm⟩ | ⟨err, hne, rfl, hE, v0, a0, w0, z, rfl, hm⟩
  · cases hR : lim R with
    | short => rw [hR] at hm; exact absurd (show (0 : Int) = 3 from hm) (by decide)
    | form => rw [hR] at hm; exact absurd (show (0 : Int) = 4 from hm) (by decide)
    | ok k l =>
      rw [hR] at hm
      obtain ⟨rfl, rfl, _⟩ := hm
      exact ⟨k, l, 0, rfl, lim_le hR, hE, by rw [hR]; exact ⟨rfl, rfl, rfl⟩⟩
  · cases hR : lim R with
    | short => rw [hR] at hm; obtain rfl : err = 3 := hm; exact ⟨0, 0, 3, rfl, by omega, hE, by rw [hR]; exact ⟨rfl, rfl, rfl⟩⟩
    | form => rw [hR] at hm; obtain rfl : err = 4 := hm; exact ⟨0, 0, 4, rfl, by omega, hE, by rw [hR]; exact ⟨rfl, rfl, rfl⟩⟩
    | ok k l => rw [hR] at hm; exact absurd hm.2.2 hne
theorem eff_alloc {w w' : World} {g : Nat} {s : Value} {i : Nat} {e : Int} (o : Obj) (h : Eff (w.alloc o) w' g s i e) : Eff w w' g s i e :=
  ⟨h.1, gb_trans (gb_ext (ext_alloc (Ext.rfl' w) o) _) h.2⟩
theorem rp_alloc {w w' : World} {g : Nat} {s zero : Value} {at_ : Nat} {Φ : Value → Nat → Int → World → Prop} {e : Ending} (o : Obj) (h : RP (w.alloc o) g s zero at_ Φ e w') : RP w g s zero at_ Φ e w' := by
  rcases h with ⟨v, a', he, hE, hm⟩ | ⟨err, hne, he, hE, hm⟩
  · exact .inl ⟨v, a', he, eff_alloc o hE, hm⟩
  · exact .inr ⟨err, hne, he, eff_alloc o hE, hm⟩
set_option maxHeartbeats 4000000 in
theorem int (g n c at_ : Nat) (A : Option Addr) (xs : List Nat) (w : World) (h : Rdr w g (.slice A n c) at_ 0) (hB : Bs w A n xs) (hat : at_ ≤ n) (hn : n ≤ 4000000000) :
    Calls Try.prog 38 #[.pointer (some ⟨g, 0, none⟩)] w (IPost w g (.slice A n c) at_ (vr 0 0 (xs.drop at_))) := by
  have hgl : g < w.heap.size := Blk.lt h
  have ha := ext_alloc (Ext.rfl' w) (.cells #[.pointer (some ⟨g, 0, none⟩)] 100)
  have hb := ext_alloc (Ext.rfl' (w.alloc (.cells #[.pointer (some ⟨g, 0, none⟩)] 100))) (.cells #[.pointer (some ⟨g, 0, none⟩)] 100)
  have HC := Lib.hid (reading_68 g at_ (.slice A n c) (.pointer (some ⟨w.heap.size, 0, none⟩)) (IPhi at_ (vr 0 0 (xs.drop at_))) (w.alloc (.cells #[.pointer (some ⟨g, 0, none⟩)] 100)) (h.ext ha)
    (int1 (w.alloc (.cells #[.pointer (some ⟨g, 0, none⟩)] 100)).heap.size w.heap.size g n c at_ A xs _ (by simp) (kc hb (by simp)) (by simp; omega) ((h.ext ha).ext hb) ((hB.ext ha).ext hb) hat hn))
  clear h hB ha hb
  generalize vr 0 0 (xs.drop at_) = R at *
  go_enter Try.func38, Try.ntmps38
  go_wp2_with fail
  refine (HC.out).mono ?_
  intro e w3 hq
  have hp := ipost_of (rp_alloc _ hq)
  clear hq
  obtain ⟨z, j, err, rfl, hz, hE3, hm⟩ := hp
  have HP : Hid (IPost w g (.slice A n c) at_ R (.returned (.int .i64 (z : Int))) w3) := Lib.hid ⟨z, j, err, rfl, hz, hE3, hm⟩
  clear hz hE3 hm
  go_wp2_with fail
  go_ret
  exact HP.out
theorem int_err (g at_ : Nat) (s : Value) (e0 : Int) (w : World) (h : Rdr w g s at_ e0) (he : (e0 == 0) = false) :
    Calls Try.prog 38 #[.pointer (some ⟨g, 0, none⟩)] w fun e w' => e = .returned (.int .i64 0) ∧ Ext w w' := by
  have ha := ext_alloc (Ext.rfl' w) (.cells #[.pointer (some ⟨g, 0, none⟩)] 100)
  have HC := Lib.hid (fun F => reading_err_68 g at_ s F e0 _ (h.ext ha) he)
  clear h he
  have HA := Lib.hid ha; clear ha
  go_enter Try.func38, Try.ntmps38
  go_wp2_with fail
  refine (HC.out _).mono ?_
  rintro e w3 ⟨rfl, hE3⟩
  have HE3 := Lib.hid hE3; clear hE3
  go_wp2_with fail
  go_ret
  exact ⟨rfl, ext_trans HA.out HE3.out⟩
end Go.Proofs.Ytlldmpcamdginaa.Wire
namespace Go.Proofs.Ytlldmpcamdginaa.Wire
open Go.ChangeShapes Go.WideShapes Go.ChangeAt Go.RowKit
set_option linter.unusedVariables false

def be (ys : List Nat) : Nat := ys.foldl (fun a c => a * 256 + c) 0
theorem be_snoc (ys : List Nat) (k : Nat) (h : k < ys.length) : be (ys.take (k + 1)) = be (ys.take k) * 256 + ys.getD k 0 := by
  unfold be
  rw [List.take_succ_eq_append_getElem h, List.foldl_append]
  simp [List.getD_eq_getElem?_getD, List.getElem?_eq_getElem h]
theorem be_fx {m : Nat} (h : m < 4294967296) : be (fx m) = m := by
  simp only [be, fx, List.foldl_cons, List.foldl_nil]; omega
theorem or32 (a b : Nat) : bits .or .u32 (a : Int) (b : Int) = ((BitVec.ofNat 32 a ||| BitVec.ofNat 32 b).toNat : Int) := by
  show IntKind.u32.wrap ((BitVec.ofInt 32 (a : Int) ||| BitVec.ofInt 32 (b : Int)).toNat : Int) = _
  rw [BitVec.ofInt_natCast, BitVec.ofInt_natCast]
  have := (BitVec.ofNat 32 a ||| BitVec.ofNat 32 b).isLt
  rw [IntKind.wrap_u32]
  omega
theorem be_val (acc cb : Nat) (ha : acc < 16777216) (hc : cb < 256) : bits BinOp.or IntKind.u32 ((acc : Int) * 256) (cb : Int) = ((acc * 256 + cb : Nat) : Int) := by
  rw [show ((acc : Int) * 256) = ((acc * 256 : Nat) : Int) from by omega, or32, BitVec.toNat_or, BitVec.toNat_ofNat, BitVec.toNat_ofNat, Nat.mod_eq_of_lt (show acc * 256 < 2 ^ 32 by omega), Nat.mod_eq_of_lt (show cb < 2 ^ 32 by omega)]
  have := Nat.shiftLeft_add_eq_or_of_lt (i := 8) (b := cb) (by omega) acc
  rw [Nat.shiftLeft_eq] at this
  rw [show acc * 256 = acc * 2 ^ 8 from rfl, ← this]
def FPhi (at_ : Nat) (rest : List Nat) (v : Value) (a' : Nat) (err : Int) (w' : World) : Prop :=
  (4 ≤ rest.length ∧ v = .int .u32 (be (rest.take 4) : Nat) ∧ a' = at_ + 4 ∧ err = 0) ∨ (rest.length < 4 ∧ err = 3)
def FRel (ys : List Nat) (nv iv : Value) : Prop := ∃ k : Nat, k ≤ 4 ∧ nv = .int .u32 (be (ys.take k) : Nat) ∧ iv = .int .i64 (k : Int) ∧ be (ys.take k) < 256 ^ k
set_option maxHeartbeats 4000000 in
set_option maxRecDepth 100000 in
theorem fixed1 (pb rb g n c at_ : Nat) (A : Option Addr) (xs : List Nat) (w : World) (hp : w.cell? ⟨pb, 0, none⟩ = some (.pointer (some ⟨g, 0, none⟩))) (hr : w.cell? ⟨rb, 0, none⟩ = some (.pointer (some ⟨g, 0, none⟩)))
    (h : Rdr w g (.slice A n c) at_ 0) (hB : RB w g A n c xs) (hat : at_ ≤ n) (hn : n ≤ 4000000000) :
    Calls Try.prog 69 #[.func (.func 86) #[] #[.pointer (some ⟨pb, 0, none⟩)], .pointer (some ⟨rb, 0, none⟩)] w (CP w g (.slice A n c) (FPhi at_ (xs.drop at_))) := by
  have hxl : (xs.drop at_).length = n - at_ := by rw [List.length_drop, hB.1.1]
  by_cases h4 : at_ + 4 ≤ n
  · have HC := Lib.hid (show Calls Try.prog 70 #[.pointer (some ⟨g, 0, none⟩), .int .u64 4, .func (.func 86) #[] #[.pointer (some ⟨pb, 0, none⟩)]] w (PPost w g (.slice A n c) at_ 4 ((xs.drop at_).take 4)) from piece_ok g n c at_ 4 A _ xs w h hB h4 hn)
    have HF : Hid (∀ w', FPhi at_ (xs.drop at_) (.int .u32 (be ((xs.drop at_).take 4) : Nat)) (at_ + 4) 0 w') := Lib.hid (fun w' => .inl ⟨by omega, rfl, rfl, rfl⟩)
    have HYL : Hid (((xs.drop at_).take 4).length = 4) := Lib.hid (by rw [List.length_take]; omega)
    clear hp h hB hxl
    generalize FPhi at_ (xs.drop at_) = Φ at *
    generalize (xs.drop at_).take 4 = ys at *
    go_enter Try.func69, Try.ntmps69
    go_wp2_with fail
    refine (HC.out).mono ?_
    rintro e w3 ⟨A', c', rfl, hc1, hc2, hc3, hB3, hE3⟩
    obtain ⟨b, o, rfl, _, hcell⟩ := hB3.2.2 (by omega)
    have HBY := Lib.hid hB3.2.1
    have HE3 := Lib.hid hE3; have HCE := Lib.hid hcell; clear hE3 hB3 hcell hc3
    go_wp2_with fail
    go_loop [4, 6, 11] (fun nv _ iv => FRel ys nv iv) (fun _ _ iv => 4 - (intOf iv).toNat)
    case atStart => exact ⟨0, by omega, rfl, rfl, Nat.zero_lt_one⟩
    case round =>
      obtain ⟨k, hk, rfl, rfl, hbe⟩ := hrel
      by_cases hlt : k < 4
      · have q0 := HCE.out k hlt
        have q1 := HBY.out k
        have HSN := Lib.hid (be_snoc ys k (by rw [HYL.out]; exact hlt))
        have hpow : 256 ^ k ≤ 256 ^ 3 := Nat.pow_le_pow_right (by omega) (by omega)
        have hs : be (ys.take k) < 16777216 := by
          have : (256 : Nat) ^ 3 = 16777216 := by decide
          omega
        have HBE : Hid (be (ys.take (k + 1)) < 256 ^ (k + 1)) := Lib.hid (by rw [HSN.out, Nat.pow_succ]; omega)
        clear hpow hbe
        generalize be (ys.take k) = acc at *
        generalize ys.getD k 0 = cb at *
        have HV := Lib.hid (be_val acc cb hs q1)
        have k0 : (0 : Int) ≤ (k : Int) := by omega
        have k1 : (k : Int) < 4 := by omega
        have s0 : (acc : Int) < 16777216 := by omega
        have q2 : (cb : Int) < 256 := by omega
        go_wp2_with fail
        go_round
        case rel => exact ⟨k + 1, by omega, by rw [HSN.out, HV.out], by go_num, HBE.out⟩
        case measure => simp [intOf]; omega
      · obtain rfl : k = 4 := by omega
        have HTK : Hid (ys.take 4 = ys) := Lib.hid (List.take_of_length_le (by rw [HYL.out]; exact Nat.le_refl _))
        rw [HTK.out]
        clear hbe
        generalize be ys = y at *
        go_wp2_with fail
        go_ret
        exact ⟨_, at_ + 4, 0, rfl, HE3.out, HF.out _⟩
  · have HC := Lib.hid (show Calls Try.prog 70 #[.pointer (some ⟨g, 0, none⟩), .int .u64 4, .func (.func 86) #[] #[.pointer (some ⟨pb, 0, none⟩)]] w (fun e w' => e = .returned (.slice none 0 0) ∧ Eff w w' g (.slice A n c) at_ 3) from piece_short_69 pb g n c at_ 4 A xs w hp h hat hn (by omega))
    have HF : Hid (∀ v w', FPhi at_ (xs.drop at_) v at_ 3 w') := Lib.hid (fun v w' => .inr ⟨by omega, rfl⟩)
    clear hp h hB hxl
    generalize FPhi at_ (xs.drop at_) = Φ at *
    go_enter Try.func69, Try.ntmps69
    go_wp2_with fail
    refine (HC.out).mono ?_
    rintro e w3 ⟨rfl, hE3⟩
    have HE3 := Lib.hid hE3; clear hE3
    go_wp2_with fail
    go_loop [4, 6, 11] (fun nv _ iv => nv = .int .u32 0 ∧ iv = .int .i64 0) (fun _ _ _ => 0)
    case atStart => exact ⟨rfl, rfl⟩
    case round =>
      obtain ⟨rfl, rfl⟩ := hrel
      go_wp2_with fail
      go_ret
      exact ⟨_, at_, 3, rfl, HE3.out, HF.out _ _⟩
/-- What Fixed comes to. -/
def FPost (w : World) (g : Nat) (s : Value) (at_ : Nat) (rest : List Nat) (e : Ending) (w' : World) : Prop :=
  (4 ≤ rest.length ∧ e = .returned (.int .u32 (be (rest.take 4) : Nat)) ∧ Eff w w' g s (at_ + 4) 0) ∨ (rest.length < 4 ∧ e = .returned (.int .u32 0) ∧ Eff w w' g s at_ 3)
theorem fpost_of {w w' : World} {g : Nat} {s : Value} {at_ : Nat} {rest : List Nat} {e : Ending} (h : RP w g s (.int .u32 0) at_ (FPhi at_ rest) e w') : FPost w g s at_ rest e w' := by
  rcases h with ⟨v, a', rfl, hE, ⟨h1, rfl, rfl, _⟩ | ⟨_, h2⟩⟩ | ⟨err, hne, rfl, hE, v0, a0, w0, ⟨_, _, _, h2⟩ | ⟨h1, h2⟩⟩
  · exact .inl ⟨h1, rfl, hE⟩
  · exact absurd h2 (by decide)
  · exact absurd h2 hne
  · subst h2; exact .inr ⟨h1, rfl, hE⟩
set_option maxHeartbeats 4000000 in
theorem fixed (g n c at_ : Nat) (A : Option Addr) (xs : List Nat) (w : World) (h : Rdr w g (.slice A n c) at_ 0) (hB : RB w g A n c xs) (hat : at_ ≤ n) (hn : n ≤ 4000000000) :
    Calls Try.prog 39 #[.pointer (some ⟨g, 0, none⟩)] w (FPost w g (.slice A n c) at_ (xs.drop at_)) := by
  have ha := ext_alloc (Ext.rfl' w) (.cells #[.pointer (some ⟨g, 0, none⟩)] 100)
  have hb := ext_alloc (Ext.rfl' (w.alloc (.cells #[.pointer (some ⟨g, 0, none⟩)] 100))) (.cells #[.pointer (some ⟨g, 0, none⟩)] 100)
  have HC := Lib.hid (reading_69 g at_ (.slice A n c) (.pointer (some ⟨w.heap.size, 0, none⟩)) (FPhi at_ (xs.drop at_)) (w.alloc (.cells #[.pointer (some ⟨g, 0, none⟩)] 100)) (h.ext ha)
    (fixed1 (w.alloc (.cells #[.pointer (some ⟨g, 0, none⟩)] 100)).heap.size w.heap.size g n c at_ A xs _ (by simp) (kc hb (by simp)) ((h.ext ha).ext hb) ((hB.eff (gb_ext ha _)).eff (gb_ext hb _)) hat hn))
  clear h hB ha hb
  generalize xs.drop at_ = rest at *
  go_enter Try.func39, Try.ntmps39
  go_wp2_with fail
  refine (HC.out).mono ?_
  intro e w3 hq
  have hp := fpost_of (rp_alloc _ hq)
  clear hq
  have HP := Lib.hid hp
  rcases hp with ⟨h1, rfl, hE⟩ | ⟨h1, rfl, hE⟩
  all_goals
    clear h1 hE
    go_wp2_with fail
    go_ret
    exact HP.out
end Go.Proofs.Ytlldmpcamdginaa.Wire
namespace Go.Proofs.Ytlldmpcamdginaa.Wire
open Go.ChangeShapes Go.WideShapes Go.ChangeAt Go.RowKit
set_option linter.unusedVariables false

theorem err_any (g : Nat) (s : Value) (i : Nat) (e0 : Int) (w : World) (h : Rdr w g s i e0) : Calls Try.prog 42 #[.pointer (some ⟨g, 0, none⟩)] w fun e w' => e = .returned (.int .i64 e0) ∧ w = w' := by
  obtain ⟨c0, c1, c2, f1, f2⟩ := h.cells
  clear h
  go_enter Try.func42, Try.ntmps42
  go_wp2_with fail
  go_ret
  exact ⟨rfl, rfl⟩
set_option maxRecDepth 100000 in
theorem left_any (g n c : Nat) (A : Option Addr) (i : Nat) (e0 : Int) (w : World) (h : Rdr w g (.slice A n c) i e0) (hi : i ≤ n) (hn : n ≤ 4000000000) : Calls Try.prog 74 #[.pointer (some ⟨g, 0, none⟩)] w fun e w' => e = .returned (.int .i64 ((n - i : Nat) : Int)) ∧ Ext w w' := by
  obtain ⟨c0, c1, c2, f1, f2⟩ := h.cells
  clear h
  have HW1 : Hid (IntKind.i64.wrap ((n : Int) - (i : Int)) = ((n - i : Nat) : Int)) := Lib.hid (by rw [IntWalk.i64_in _ (by omega)]; omega)
  generalize n - i = L at *
  go_enter Try.func74, Try.ntmps74
  go_wp2_with fail
  have hw1 := HW1.out
  refine wp_still (by kernel_rfl) (by kernel_rfl) ?_
  repeat still_step
  refine wpStill_nil ?_
  clear hw1
  go_wp2_with fail
  go_ret
  exact ⟨rfl, ext_drew (Ext.rfl' _)⟩
theorem end_bad (g : Nat) (s : Value) (i : Nat) (e0 : Int) (w : World) (h : Rdr w g s i e0) (he : (e0 == 0) = false) : Calls Try.prog 43 #[.pointer (some ⟨g, 0, none⟩)] w fun e w' => e = .returned (.int .i64 e0) ∧ Ext w w' := by
  have HC := Lib.hid (err_any g s i e0 w h)
  clear h
  go_enter Try.func43, Try.ntmps43
  go_wp2_with fail
  refine (HC.out).mono ?_
  rintro e w1 ⟨rfl, rfl⟩
  go_wp2_with fail
  go_ret
  exact ⟨rfl, Ext.rfl' _⟩
theorem end_ok (g n c : Nat) (A : Option Addr) (i : Nat) (w : World) (h : Rdr w g (.slice A n c) i 0) (hi : i ≤ n) (hn : n ≤ 4000000000) : Calls Try.prog 43 #[.pointer (some ⟨g, 0, none⟩)] w fun e w' => e = .returned (.int .i64 (if i = n then 0 else 4)) ∧ Ext w w' := by
  have HC := Lib.hid (err_any g _ i 0 w h)
  have HL := Lib.hid (left_any g n c A i 0 w h hi hn)
  clear h
  by_cases hin : i = n
  · subst hin
    rw [if_pos rfl]
    have e0 : i - i = 0 := by omega
    rw [e0] at HL
    clear e0
    go_enter Try.func43, Try.ntmps43
    go_wp2_with fail
    refine (HC.out).mono ?_
    rintro e w1 ⟨rfl, rfl⟩
    go_wp2_with fail
    refine (HL.out).mono ?_
    rintro e w1 ⟨rfl, b1⟩
    go_wp2_with fail
    go_ret
    exact ⟨rfl, b1⟩
  · rw [if_neg hin]
    have hL : 0 < n - i := by omega
    generalize n - i = L at *
    go_enter Try.func43, Try.ntmps43
    go_wp2_with fail
    refine (HC.out).mono ?_
    rintro e w1 ⟨rfl, rfl⟩
    go_wp2_with fail
    refine (HL.out).mono ?_
    rintro e w1 ⟨rfl, b1⟩
    go_wp2_with fail
    go_ret
    exact ⟨rfl, b1⟩
/-- What a copy comes to. -/
def KPost (w : World) (n : Nat) (xs : List Nat) (e : Ending) (w' : World) : Prop :=
  ∃ (A' : Option Addr) (c' : Nat), e = .returned (.slice A' n c') ∧ n ≤ c' ∧ c' ≤ 9223372036854775807 ∧ (A' = none → n = 0 ∧ c' = 0) ∧ (0 < n → ∀ a, A' = some a → w.heap.size ≤ a.block) ∧ Bs w' A' n xs ∧ Ext w w'
set_option maxHeartbeats 1000000 in
theorem clone (A : Option Addr) (n c : Nat) (xs : List Nat) (w : World) (hB : Bs w A n xs) (hnil : A = none → n = 0 ∧ c = 0) (hn : n ≤ 4000000000) :
    Calls Try.prog 64 #[.slice A n c] w (KPost w n xs) := by
  have hnl := @Lib.run_eql_slice_nil Try.prog
  rcases A with _ | a
  · obtain ⟨rfl, rfl⟩ := hnil rfl
    have hx : xs = [] := List.eq_nil_of_length_eq_zero hB.1
    subst hx
    clear hnil hB
    go_enter Try.func64, Try.ntmps64
    go_wp2_with fail
    go_ret
    exact ⟨none, 0, rfl, Nat.le_refl _, by omega, fun _ => ⟨rfl, rfl⟩, fun h => absurd h (by omega), Bs.none _ _, Ext.rfl' _⟩
  · clear hnil
    have hxl := hB.1
    subst hxl
    have HE := Lib.hid (ext_alloc (Ext.rfl' w) (.cells #[] 5))
    have HSM := Lib.hid hB.2.1
    have HSR : Hid (Src Try.prog 1 29 (.slice (some a) xs.length c) xs.length (c8 xs) (w.alloc (.cells #[] 5))) := Lib.hid (Bs.src (hB.ext HE.out) Try.underlying29 c)
    have HOW : Hid (Own w (w.alloc (.cells #[] 5)) (.slice (some ⟨w.heap.size, 0, none⟩) 0 0) []) := Lib.hid (World.ownsRow_made w #[] 0 (Nat.le_refl _) (by unfold maxLen; omega) rfl)
    have HQ : Hid (([] : List Nat).length + xs.length ≤ 140737488355328) := Lib.hid (by simp; omega)
    clear hB
    go_enter Try.func64, Try.ntmps64
    go_wp2_with (first | (at_builtin; refine wpList_own (W := w) rfl (.tmp 5) (.tmp 6) 29 rfl (.slice (some ⟨w.heap.size, 0, none⟩) 0 0) (.slice (some a) xs.length c) [] xs rfl rfl HOW.out HE.out HSR.out HQ.out ?_; intro v2 w2 hown2 hE2))
    have HO2 : Hid (Own w w2 v2 xs) := Lib.hid hown2
    have HE2 := Lib.hid hE2
    clear hown2 hE2
    go_ret
    obtain ⟨A2, c2, rfl, h1, h2, h3⟩ := own_shape HO2.out
    refine ⟨A2, c2, rfl, h1, by unfold maxLen at h2; omega, fun h => ?_, fun hp a2 ha2 => ?_, Own.bs HO2.out HSM.out, HE2.out⟩
    · subst h
      rcases HO2.out.2 with ⟨hq, hz⟩ | ⟨g, cap, cur, hq, _⟩
      · obtain ⟨_, _, rfl⟩ := Value.slice.inj hq; exact ⟨hz, rfl⟩
      · simp at hq
    · obtain ⟨g, rfl, hg⟩ := h3 hp
      obtain rfl := Option.some.inj ha2
      exact hg
/-- What Of comes to. -/
def OPost (w : World) (n : Nat) (xs : List Nat) (e : Ending) (w' : World) : Prop :=
  ∃ (g : Nat) (A' : Option Addr) (c' : Nat), e = .returned (.pointer (some ⟨g, 0, none⟩)) ∧ w.heap.size ≤ g ∧ Rdr w' g (.slice A' n c') 0 0 ∧ RB w' g A' n c' xs ∧ Ext w w'
set_option maxHeartbeats 1000000 in
theorem of (A : Option Addr) (n c : Nat) (xs : List Nat) (w : World) (hB : Bs w A n xs) (hnil : A = none → n = 0 ∧ c = 0) (hn : n ≤ 4000000000) :
    Calls Try.prog 37 #[.slice A n c] w (OPost w n xs) := by
  have HC := Lib.hid (clone A n c xs w hB hnil hn)
  clear hB hnil
  go_enter Try.func37, Try.ntmps37
  go_wp2_with fail
  refine (HC.out).mono ?_
  rintro e w1 ⟨A', c', rfl, h1, h2, h3, h4, hB, hE⟩
  have HB := Lib.hid hB; have HE := Lib.hid hE; have H3 := Lib.hid h3; have H4 := Lib.hid h4; clear hB hE h3 h4
  go_wp2_with fail
  go_ret
  refine ⟨w1.heap.size, A', c', rfl, HE.out.size, Blk.new _ _ _, ⟨HB.out.ext (ext_alloc (Ext.rfl' _) _), h1, h2, H3.out, fun hp a ha => ?_⟩, ext_alloc HE.out _⟩
  obtain ⟨b, o, e, hl, _⟩ := HB.out.2.2 hp
  obtain rfl := Option.some.inj (ha.symm.trans e)
  exact Nat.ne_of_lt hl
theorem and64 (a b : Nat) : bits .and .u64 (a : Int) (b : Int) = ((BitVec.ofNat 64 a &&& BitVec.ofNat 64 b).toNat : Int) := by
  show IntKind.u64.wrap ((BitVec.ofInt 64 (a : Int) &&& BitVec.ofInt 64 (b : Int)).toNat : Int) = _
  rw [BitVec.ofInt_natCast, BitVec.ofInt_natCast]
  have := (BitVec.ofNat 64 a &&& BitVec.ofNat 64 b).isLt
  rw [IntKind.wrap_u64]
  omega
theorem and1 (z : Nat) (hz : z < 18446744073709551616) : bits .and .u64 (z : Int) 1 = ((z % 2 : Nat) : Int) := by
  have h := and64 z 1
  rw [BitVec.toNat_and, BitVec.toNat_ofNat, BitVec.toNat_ofNat, Nat.mod_eq_of_lt (show z < 2 ^ 64 from hz), Nat.mod_eq_of_lt (show 1 < 2 ^ 64 by decide), Nat.and_one_is_mod] at h
  exact h
theorem uz_eq (z : Nat) (hz : z < 18446744073709551616) : bits BinOp.xor IntKind.i64 ((z : Int) / 2) (wrap64 (-wrap64 (bits BinOp.and IntKind.u64 (z : Int) 1))) = uz z := by
  have hx : ∀ a b : Int, bits .xor .i64 a b = IntKind.i64.wrap ((BitVec.ofInt 64 a ^^^ BitVec.ofInt 64 b).toNat : Int) := fun _ _ => rfl
  rw [and1 z hz]
  have e0 : (z : Int) / 2 = ((z / 2 : Nat) : Int) := by omega
  have e1 : wrap64 ((z % 2 : Nat) : Int) = ((z % 2 : Nat) : Int) := IntWalk.wrap64_in _ (by omega)
  rw [e1, e0, hx]
  unfold uz
  by_cases h : z % 2 = 0
  · have e2 : wrap64 (-((z % 2 : Nat) : Int)) = ((0 : Nat) : Int) := (IntWalk.wrap64_in _ (by omega)).trans (by omega)
    rw [e2, if_pos h, BitVec.ofInt_natCast, BitVec.ofInt_natCast, show BitVec.ofNat 64 0 = 0#64 from rfl, BitVec.xor_zero, BitVec.toNat_ofNat, Nat.mod_eq_of_lt (by omega)]
    exact IntWalk.i64_in _ (by omega)
  · have e2 : wrap64 (-((z % 2 : Nat) : Int)) = -1 := (IntWalk.wrap64_in _ (by omega)).trans (by omega)
    rw [e2, if_neg h, BitVec.ofInt_natCast, show BitVec.ofInt 64 (-1) = BitVec.allOnes 64 from by decide, BitVec.xor_allOnes, BitVec.toNat_not, BitVec.toNat_ofNat, Nat.mod_eq_of_lt (by omega)]
    rw [IntKind.wrap_i64]
    omega
end Go.Proofs.Ytlldmpcamdginaa.Wire
namespace Go.Proofs.Ytlldmpcamdginaa.Wire
open Go.ChangeShapes Go.WideShapes Go.ChangeAt Go.RowKit
set_option linter.unusedVariables false

/-- A slice that was read: so many bytes. -/
def Got (w' : World) (ys : List Nat) (v : Value) : Prop := ∃ (A' : Option Addr) (c' : Nat), v = .slice A' ys.length c' ∧ ys.length ≤ c' ∧ c' ≤ 9223372036854775807 ∧ (A' = none → ys.length = 0 ∧ c' = 0) ∧ Bs w' A' ys.length ys
def BPhi (at_ : Nat) (rest : List Nat) (m : Int) (v : Value) (a' : Nat) (err : Int) (w' : World) : Prop :=
  (m < 0 ∧ err = 4) ∨ (0 ≤ m ∧ (rest.length : Int) < m ∧ err = 3) ∨ (0 ≤ m ∧ m ≤ (rest.length : Int) ∧ Got w' (rest.take m.toNat) v ∧ a' = at_ + m.toNat ∧ err = 0)
set_option maxHeartbeats 4000000 in
set_option maxRecDepth 100000 in
theorem bytes1 (pb mb rb g n c at_ : Nat) (m : Int) (A : Option Addr) (xs : List Nat) (w : World) (hp : w.cell? ⟨pb, 0, none⟩ = some (.pointer (some ⟨g, 0, none⟩))) (hr : w.cell? ⟨rb, 0, none⟩ = some (.pointer (some ⟨g, 0, none⟩))) (hmo : w.cell? ⟨mb, 0, none⟩ = some (.int .i64 m))
    (hm1 : -9223372036854775808 ≤ m) (hm2 : m ≤ 9223372036854775807)
    (h : Rdr w g (.slice A n c) at_ 0) (hB : RB w g A n c xs) (hat : at_ ≤ n) (hn : n ≤ 4000000000) :
    Calls Try.prog 90 #[.func (.func 93) #[] #[.pointer (some ⟨pb, 0, none⟩)], .pointer (some ⟨mb, 0, none⟩), .pointer (some ⟨rb, 0, none⟩)] w (CP w g (.slice A n c) (BPhi at_ (xs.drop at_) m)) := by
  have hxl : (xs.drop at_).length = n - at_ := by rw [List.length_drop, hB.1.1]
  by_cases hneg : m < 0
  · have HP := Lib.hid hp; have H := Lib.hid h
    have HF : Hid (∀ v a' w', BPhi at_ (xs.drop at_) m v a' 4 w') := Lib.hid (fun _ _ _ => .inl ⟨hneg, rfl⟩)
    clear hp h hB hxl hm2
    generalize BPhi at_ (xs.drop at_) m = Φ at *
    go_enter Try.func90, Try.ntmps90
    go_wp2_with fail
    refine (fail0_71 _ pb g _ at_ 4 HP.out H.out).mono ?_
    rintro e w3 ⟨rfl, hE3⟩
    have HE3 := Lib.hid hE3; clear hE3
    go_wp2_with fail
    go_ret
    exact ⟨_, _, 4, rfl, HE3.out, HF.out _ _ _⟩
  · obtain ⟨k, rfl⟩ : ∃ k : Nat, m = (k : Int) := ⟨m.toNat, by omega⟩
    have hk1 : ¬ (k : Int) < 0 := hneg
    by_cases hsh : n - at_ < k
    · have HC := Lib.hid (piece_short_71 pb g n c at_ k A xs w hp h hat hn hsh)
      have HF : Hid (∀ v a' w', BPhi at_ (xs.drop at_) (k : Int) v a' 3 w') := Lib.hid (fun _ _ _ => .inr (.inl ⟨by omega, by omega, rfl⟩))
      clear hp h hB hxl
      generalize BPhi at_ (xs.drop at_) (k : Int) = Φ at *
      go_enter Try.func90, Try.ntmps90
      go_wp2_with fail
      refine (HC.out).mono ?_
      rintro e w3 ⟨rfl, hE3⟩
      have HE3 := Lib.hid hE3; clear hE3
      go_wp2_with fail
      refine (clone none 0 0 [] w3 (Bs.none _ _) (fun _ => ⟨rfl, rfl⟩) (by omega)).mono ?_
      rintro e w4 ⟨A', c', rfl, _, _, _, _, _, hE⟩
      have HE4 := Lib.hid hE; clear hE
      go_wp2_with fail
      go_ret
      exact ⟨_, _, 3, rfl, HE3.out.ext HE4.out, HF.out _ _ _⟩
    · have HC := Lib.hid (piece_ok g n c at_ k A (.func (.func 93) #[] #[.pointer (some ⟨pb, 0, none⟩)]) xs w h hB (by omega) hn)
      have HL : Hid (((xs.drop at_).take k).length = k) := Lib.hid (by rw [List.length_take]; omega)
      have HF : Hid (∀ v w', Got w' ((xs.drop at_).take k) v → BPhi at_ (xs.drop at_) (k : Int) v (at_ + k) 0 w') := Lib.hid (fun _ _ hg => .inr (.inr ⟨by omega, by omega, by rw [Int.toNat_natCast]; exact hg, by rw [Int.toNat_natCast], rfl⟩))
      clear hp h hB hxl
      generalize BPhi at_ (xs.drop at_) (k : Int) = Φ at *
      generalize (xs.drop at_).take k = ys at *
      go_enter Try.func90, Try.ntmps90
      go_wp2_with fail
      refine (HC.out).mono ?_
      rintro e w3 ⟨A', c', rfl, hc1, hc2, hc3, hB3, hE3⟩
      have HB3 := Lib.hid hB3; have HC3 := Lib.hid hc3
      have HE3 := Lib.hid hE3; clear hE3 hB3 hc3
      go_wp2_with fail
      refine (clone A' k c' ys w3 HB3.out HC3.out (by omega)).mono ?_
      rintro e w4 ⟨A4, c4, rfl, h1, h2, h3, h4, hB4, hE⟩
      have HE4 := Lib.hid hE; have HB4 := Lib.hid hB4; have H3 := Lib.hid h3; clear hE hB4 h3 h4
      go_wp2_with fail
      go_ret
      have hg : Got w4 ys (.slice A4 k c4) := ⟨A4, c4, by rw [HL.out], by rw [HL.out]; exact h1, h2, by rw [HL.out]; exact H3.out, by rw [HL.out]; exact HB4.out⟩
      exact ⟨_, _, 0, rfl, HE3.out.ext HE4.out, HF.out _ _ hg⟩
/-- What Bytes comes to. -/
def BPost (w : World) (g : Nat) (s : Value) (at_ : Nat) (rest : List Nat) (m : Int) (e : Ending) (w' : World) : Prop :=
  (m < 0 ∧ e = .returned (.slice none 0 0) ∧ Eff w w' g s at_ 4) ∨ (0 ≤ m ∧ (rest.length : Int) < m ∧ e = .returned (.slice none 0 0) ∧ Eff w w' g s at_ 3) ∨
  (0 ≤ m ∧ m ≤ (rest.length : Int) ∧ (∃ v, e = .returned v ∧ Got w' (rest.take m.toNat) v) ∧ Eff w w' g s (at_ + m.toNat) 0)
theorem bpost_of {w w' : World} {g : Nat} {s : Value} {at_ : Nat} {rest : List Nat} {m : Int} {e : Ending} (h : RP w g s (.slice none 0 0) at_ (BPhi at_ rest m) e w') : BPost w g s at_ rest m e w' := by
  rcases h with ⟨v, a', rfl, hE, ⟨_, h2⟩ | ⟨_, _, h2⟩ | ⟨h1, h2, h3, rfl, _⟩⟩ | ⟨err, hne, rfl, hE, v0, a0, w0, ⟨h1, h2⟩ | ⟨h1, h2, h3⟩ | ⟨_, _, _, _, h2⟩⟩
  · exact absurd h2 (by decide)
  · exact absurd h2 (by decide)
  · exact .inr (.inr ⟨h1, h2, ⟨v, rfl, h3⟩, hE⟩)
  · subst h2; exact .inl ⟨h1, rfl, hE⟩
  · subst h3; exact .inr (.inl ⟨h1, h2, rfl, hE⟩)
  · exact absurd h2 hne
set_option maxHeartbeats 4000000 in
theorem bytes (g n c at_ : Nat) (m : Int) (hm1 : -9223372036854775808 ≤ m) (hm2 : m ≤ 9223372036854775807) (A : Option Addr) (xs : List Nat) (w : World) (h : Rdr w g (.slice A n c) at_ 0) (hB : RB w g A n c xs) (hat : at_ ≤ n) (hn : n ≤ 4000000000) :
    Calls Try.prog 76 #[.pointer (some ⟨g, 0, none⟩), .int .i64 m] w (BPost w g (.slice A n c) at_ (xs.drop at_) m) := by
  have ha := ext_alloc (Ext.rfl' w) (.cells #[.pointer (some ⟨g, 0, none⟩)] 100)
  have hb := ext_alloc (Ext.rfl' (w.alloc (.cells #[.pointer (some ⟨g, 0, none⟩)] 100))) (.cells #[.int .i64 m] 3)
  have hc := ext_alloc (Ext.rfl' ((w.alloc (.cells #[.pointer (some ⟨g, 0, none⟩)] 100)).alloc (.cells #[.int .i64 m] 3))) (.cells #[.pointer (some ⟨g, 0, none⟩)] 100)
  have HC := Lib.hid (reading_71 g at_ (.slice A n c) (.pointer (some ⟨w.heap.size + 1, 0, none⟩)) (.pointer (some ⟨w.heap.size, 0, none⟩)) (BPhi at_ (xs.drop at_) m) ((w.alloc (.cells #[.pointer (some ⟨g, 0, none⟩)] 100)).alloc (.cells #[.int .i64 m] 3)) ((h.ext ha).ext hb)
    (bytes1 ((w.alloc (.cells #[.pointer (some ⟨g, 0, none⟩)] 100)).alloc (.cells #[.int .i64 m] 3)).heap.size (w.heap.size + 1) w.heap.size g n c at_ m A xs _ (by rw [World.cell?_alloc_new]; rfl) (kc hc (kc hb (by rw [World.cell?_alloc_new]; rfl))) (kc hc (by
      have := World.cell?_alloc_new (w.alloc (.cells #[.pointer (some ⟨g, 0, none⟩)] 100)) #[.int .i64 m] 3 0
      rw [World.size_alloc] at this
      rw [this]; rfl)) hm1 hm2 (((h.ext ha).ext hb).ext hc) (((hB.eff (gb_ext ha _)).eff (gb_ext hb _)).eff (gb_ext hc _)) hat hn))
  clear h hB ha hb hc hm1 hm2
  generalize xs.drop at_ = rest at *
  go_enter Try.func76, Try.ntmps76
  go_wp2_with fail
  refine (HC.out).mono ?_
  intro e w3 hq
  have hp := bpost_of (rp_alloc _ (rp_alloc _ hq))
  clear hq
  have HP := Lib.hid hp
  rcases hp with ⟨h1, rfl, hE⟩ | ⟨h1, h2, rfl, hE⟩ | ⟨h1, h2, ⟨v, rfl, h3⟩, hE⟩
  · clear h1 hE
    go_wp2_with fail
    go_ret
    exact HP.out
  · clear h1 h2 hE
    go_wp2_with fail
    go_ret
    exact HP.out
  · clear h1 h2 h3 hE
    go_wp2_with fail
    go_ret
    exact HP.out
end Go.Proofs.Ytlldmpcamdginaa.Wire
namespace Go.Proofs.Ytlldmpcamdginaa.Wire
open Go.ChangeShapes Go.WideShapes Go.ChangeAt Go.RowKit
set_option linter.unusedVariables false

/-- A slice that was read: so many bytes, of their own. -/
def GotF (base : Nat) (w' : World) (ys : List Nat) (v : Value) : Prop := ∃ (A' : Option Addr) (c' : Nat), v = .slice A' ys.length c' ∧ ys.length ≤ c' ∧ c' ≤ 9223372036854775807 ∧ (A' = none → ys.length = 0 ∧ c' = 0) ∧ Bs w' A' ys.length ys ∧ (0 < ys.length → ∀ a, A' = some a → base ≤ a.block)
def BPhiF (base : Nat) (at_ : Nat) (rest : List Nat) (m : Int) (v : Value) (a' : Nat) (err : Int) (w' : World) : Prop :=
  (m < 0 ∧ err = 4) ∨ (0 ≤ m ∧ (rest.length : Int) < m ∧ err = 3) ∨ (0 ≤ m ∧ m ≤ (rest.length : Int) ∧ GotF base w' (rest.take m.toNat) v ∧ a' = at_ + m.toNat ∧ err = 0)
set_option maxHeartbeats 4000000 in
set_option maxRecDepth 100000 in
theorem bytesF1 (base : Nat) (pb mb rb g n c at_ : Nat) (m : Int) (A : Option Addr) (xs : List Nat) (w : World) (hp : w.cell? ⟨pb, 0, none⟩ = some (.pointer (some ⟨g, 0, none⟩))) (hbase : base ≤ w.heap.size) (hr : w.cell? ⟨rb, 0, none⟩ = some (.pointer (some ⟨g, 0, none⟩))) (hmo : w.cell? ⟨mb, 0, none⟩ = some (.int .i64 m))
    (hm1 : -9223372036854775808 ≤ m) (hm2 : m ≤ 9223372036854775807)
    (h : Rdr w g (.slice A n c) at_ 0) (hB : RB w g A n c xs) (hat : at_ ≤ n) (hn : n ≤ 4000000000) :
    Calls Try.prog 90 #[.func (.func 93) #[] #[.pointer (some ⟨pb, 0, none⟩)], .pointer (some ⟨mb, 0, none⟩), .pointer (some ⟨rb, 0, none⟩)] w (CP w g (.slice A n c) (BPhiF base at_ (xs.drop at_) m)) := by
  have hxl : (xs.drop at_).length = n - at_ := by rw [List.length_drop, hB.1.1]
  by_cases hneg : m < 0
  · have HP := Lib.hid hp; have H := Lib.hid h
    have HF : Hid (∀ v a' w', BPhiF base at_ (xs.drop at_) m v a' 4 w') := Lib.hid (fun _ _ _ => .inl ⟨hneg, rfl⟩)
    clear hp h hB hxl hm2
    generalize BPhiF base at_ (xs.drop at_) m = Φ at *
    go_enter Try.func90, Try.ntmps90
    go_wp2_with fail
    refine (fail0_71 _ pb g _ at_ 4 HP.out H.out).mono ?_
    rintro e w3 ⟨rfl, hE3⟩
    have HE3 := Lib.hid hE3; clear hE3
    go_wp2_with fail
    go_ret
    exact ⟨_, _, 4, rfl, HE3.out, HF.out _ _ _⟩
  · obtain ⟨k, rfl⟩ : ∃ k : Nat, m = (k : Int) := ⟨m.toNat, by omega⟩
    have hk1 : ¬ (k : Int) < 0 := hneg
    by_cases hsh : n - at_ < k
    · have HC := Lib.hid (piece_short_71 pb g n c at_ k A xs w hp h hat hn hsh)
      have HF : Hid (∀ v a' w', BPhiF base at_ (xs.drop at_) (k : Int) v a' 3 w') := Lib.hid (fun _ _ _ => .inr (.inl ⟨by omega, by omega, rfl⟩))
      clear hp h hB hxl
      generalize BPhiF base at_ (xs.drop at_) (k : Int) = Φ at *
      go_enter Try.func90, Try.ntmps90
      go_wp2_with fail
      refine (HC.out).mono ?_
      rintro e w3 ⟨rfl, hE3⟩
      have HE3 := Lib.hid hE3; clear hE3
      go_wp2_with fail
      refine (clone none 0 0 [] w3 (Bs.none _ _) (fun _ => ⟨rfl, rfl⟩) (by omega)).mono ?_
      rintro e w4 ⟨A', c', rfl, _, _, _, _, _, hE⟩
      have HE4 := Lib.hid hE; clear hE
      go_wp2_with fail
      go_ret
      exact ⟨_, _, 3, rfl, HE3.out.ext HE4.out, HF.out _ _ _⟩
    · have HC := Lib.hid (piece_ok g n c at_ k A (.func (.func 93) #[] #[.pointer (some ⟨pb, 0, none⟩)]) xs w h hB (by omega) hn)
      have HL : Hid (((xs.drop at_).take k).length = k) := Lib.hid (by rw [List.length_take]; omega)
      have HF : Hid (∀ v w', GotF base w' ((xs.drop at_).take k) v → BPhiF base at_ (xs.drop at_) (k : Int) v (at_ + k) 0 w') := Lib.hid (fun _ _ hg => .inr (.inr ⟨by omega, by omega, by rw [Int.toNat_natCast]; exact hg, by rw [Int.toNat_natCast], rfl⟩))
      clear hp h hB hxl
      generalize BPhiF base at_ (xs.drop at_) (k : Int) = Φ at *
      generalize (xs.drop at_).take k = ys at *
      go_enter Try.func90, Try.ntmps90
      go_wp2_with fail
      refine (HC.out).mono ?_
      rintro e w3 ⟨A', c', rfl, hc1, hc2, hc3, hB3, hE3⟩
      have HB3 := Lib.hid hB3; have HC3 := Lib.hid hc3
      have HE3 := Lib.hid hE3; clear hE3 hB3 hc3
      go_wp2_with fail
      refine (clone A' k c' ys w3 HB3.out HC3.out (by omega)).mono ?_
      rintro e w4 ⟨A4, c4, rfl, h1, h2, h3, h4, hB4, hE⟩
      have HE4 := Lib.hid hE; have HB4 := Lib.hid hB4; have H3 := Lib.hid h3; have H4 := Lib.hid h4; clear hE hB4 h3 h4
      go_wp2_with fail
      go_ret
      have hg : GotF base w4 ys (.slice A4 k c4) := ⟨A4, c4, by rw [HL.out], by rw [HL.out]; exact h1, h2, by rw [HL.out]; exact H3.out, by rw [HL.out]; exact HB4.out, by rw [HL.out]; exact fun hp a ha => Nat.le_trans (Nat.le_trans hbase HE3.out.2.size) (H4.out hp a ha)⟩
      exact ⟨_, _, 0, rfl, HE3.out.ext HE4.out, HF.out _ _ hg⟩
/-- What Bytes comes to. -/
def BPostF (w : World) (g : Nat) (s : Value) (at_ : Nat) (rest : List Nat) (m : Int) (e : Ending) (w' : World) : Prop :=
  (m < 0 ∧ e = .returned (.slice none 0 0) ∧ Eff w w' g s at_ 4) ∨ (0 ≤ m ∧ (rest.length : Int) < m ∧ e = .returned (.slice none 0 0) ∧ Eff w w' g s at_ 3) ∨
  (0 ≤ m ∧ m ≤ (rest.length : Int) ∧ (∃ v, e = .returned v ∧ GotF w.heap.size w' (rest.take m.toNat) v) ∧ Eff w w' g s (at_ + m.toNat) 0)
theorem bpostF_of {w w' : World} {g : Nat} {s : Value} {at_ : Nat} {rest : List Nat} {m : Int} {e : Ending} (h : RP w g s (.slice none 0 0) at_ (BPhiF w.heap.size at_ rest m) e w') : BPostF w g s at_ rest m e w' := by
  rcases h with ⟨v, a', rfl, hE, ⟨_, h2⟩ | ⟨_, _, h2⟩ | ⟨h1, h2, h3, rfl, _⟩⟩ | ⟨err, hne, rfl, hE, v0, a0, w0, ⟨h1, h2⟩ | ⟨h1, h2, h3⟩ | ⟨_, _, _, _, h2⟩⟩
  · exact absurd h2 (by decide)
  · exact absurd h2 (by decide)
  · exact .inr (.inr ⟨h1, h2, ⟨v, rfl, h3⟩, hE⟩)
  · subst h2; exact .inl ⟨h1, rfl, hE⟩
  · subst h3; exact .inr (.inl ⟨h1, h2, rfl, hE⟩)
  · exact absurd h2 hne
set_option maxHeartbeats 4000000 in
theorem bytesF (g n c at_ : Nat) (m : Int) (hm1 : -9223372036854775808 ≤ m) (hm2 : m ≤ 9223372036854775807) (A : Option Addr) (xs : List Nat) (w : World) (h : Rdr w g (.slice A n c) at_ 0) (hB : RB w g A n c xs) (hat : at_ ≤ n) (hn : n ≤ 4000000000) :
    Calls Try.prog 76 #[.pointer (some ⟨g, 0, none⟩), .int .i64 m] w (BPostF w g (.slice A n c) at_ (xs.drop at_) m) := by
  have ha := ext_alloc (Ext.rfl' w) (.cells #[.pointer (some ⟨g, 0, none⟩)] 100)
  have hb := ext_alloc (Ext.rfl' (w.alloc (.cells #[.pointer (some ⟨g, 0, none⟩)] 100))) (.cells #[.int .i64 m] 3)
  have hc := ext_alloc (Ext.rfl' ((w.alloc (.cells #[.pointer (some ⟨g, 0, none⟩)] 100)).alloc (.cells #[.int .i64 m] 3))) (.cells #[.pointer (some ⟨g, 0, none⟩)] 100)
  have HC := Lib.hid (reading_71 g at_ (.slice A n c) (.pointer (some ⟨w.heap.size + 1, 0, none⟩)) (.pointer (some ⟨w.heap.size, 0, none⟩)) (BPhiF w.heap.size at_ (xs.drop at_) m) ((w.alloc (.cells #[.pointer (some ⟨g, 0, none⟩)] 100)).alloc (.cells #[.int .i64 m] 3)) ((h.ext ha).ext hb)
    (bytesF1 w.heap.size ((w.alloc (.cells #[.pointer (some ⟨g, 0, none⟩)] 100)).alloc (.cells #[.int .i64 m] 3)).heap.size (w.heap.size + 1) w.heap.size g n c at_ m A xs _ (by rw [World.cell?_alloc_new]; rfl) (by simp only [World.size_alloc]; omega) (kc hc (kc hb (by rw [World.cell?_alloc_new]; rfl))) (kc hc (by
      have := World.cell?_alloc_new (w.alloc (.cells #[.pointer (some ⟨g, 0, none⟩)] 100)) #[.int .i64 m] 3 0
      rw [World.size_alloc] at this
      rw [this]; rfl)) hm1 hm2 (((h.ext ha).ext hb).ext hc) (((hB.eff (gb_ext ha _)).eff (gb_ext hb _)).eff (gb_ext hc _)) hat hn))
  clear h hB ha hb hc hm1 hm2
  generalize xs.drop at_ = rest at *
  go_enter Try.func76, Try.ntmps76
  go_wp2_with fail
  refine (HC.out).mono ?_
  intro e w3 hq
  have hp := bpostF_of (rp_alloc _ (rp_alloc _ hq))
  clear hq
  have HP := Lib.hid hp
  rcases hp with ⟨h1, rfl, hE⟩ | ⟨h1, h2, rfl, hE⟩ | ⟨h1, h2, ⟨v, rfl, h3⟩, hE⟩
  · clear h1 hE
    go_wp2_with fail
    go_ret
    exact HP.out
  · clear h1 h2 hE
    go_wp2_with fail
    go_ret
    exact HP.out
  · clear h1 h2 h3 hE
    go_wp2_with fail
    go_ret
    exact HP.out
/-- What Of comes to: a copy of its own. -/
def OPostF (w : World) (n : Nat) (xs : List Nat) (e : Ending) (w' : World) : Prop :=
  ∃ (g : Nat) (A' : Option Addr) (c' : Nat), e = .returned (.pointer (some ⟨g, 0, none⟩)) ∧ w.heap.size ≤ g ∧ Rdr w' g (.slice A' n c') 0 0 ∧ RB w' g A' n c' xs ∧ Ext w w' ∧ (0 < n → ∀ a, A' = some a → w.heap.size ≤ a.block)
set_option maxHeartbeats 1000000 in
theorem ofF (A : Option Addr) (n c : Nat) (xs : List Nat) (w : World) (hB : Bs w A n xs) (hnil : A = none → n = 0 ∧ c = 0) (hn : n ≤ 4000000000) :
    Calls Try.prog 37 #[.slice A n c] w (OPostF w n xs) := by
  have HC := Lib.hid (clone A n c xs w hB hnil hn)
  clear hB hnil
  go_enter Try.func37, Try.ntmps37
  go_wp2_with fail
  refine (HC.out).mono ?_
  rintro e w1 ⟨A', c', rfl, h1, h2, h3, h4, hB, hE⟩
  have HB := Lib.hid hB; have HE := Lib.hid hE; have H3 := Lib.hid h3; have H4 := Lib.hid h4; clear hB hE h3 h4
  go_wp2_with fail
  go_ret
  refine ⟨w1.heap.size, A', c', rfl, HE.out.size, Blk.new _ _ _, ⟨HB.out.ext (ext_alloc (Ext.rfl' _) _), h1, h2, H3.out, fun hp a ha => ?_⟩, ext_alloc HE.out _, H4.out⟩
  obtain ⟨b, o, e, hl, _⟩ := HB.out.2.2 hp
  obtain rfl := Option.some.inj (ha.symm.trans e)
  exact Nat.ne_of_lt hl
set_option maxHeartbeats 4000000 in
theorem bytes_err (g at_ : Nat) (s : Value) (m e0 : Int) (w : World) (h : Rdr w g s at_ e0) (he : (e0 == 0) = false) :
    Calls Try.prog 76 #[.pointer (some ⟨g, 0, none⟩), .int .i64 m] w fun e w' => e = .returned (.slice none 0 0) ∧ Ext w w' := by
  have ha := ext_alloc (Ext.rfl' w) (.cells #[.pointer (some ⟨g, 0, none⟩)] 100)
  have hb := ext_alloc (Ext.rfl' (w.alloc (.cells #[.pointer (some ⟨g, 0, none⟩)] 100))) (.cells #[.int .i64 m] 3)
  have HC := Lib.hid (fun F => reading_err_71 g at_ s F e0 _ ((h.ext ha).ext hb) he)
  have HA := Lib.hid (ext_trans ha hb); clear ha hb h he
  go_enter Try.func76, Try.ntmps76
  go_wp2_with fail
  refine (HC.out _).mono ?_
  rintro e w3 ⟨rfl, hE3⟩
  have HE3 := Lib.hid hE3; clear hE3
  go_wp2_with fail
  go_ret
  exact ⟨rfl, ext_trans HA.out HE3.out⟩
set_option maxHeartbeats 4000000 in
theorem fixed_err (g at_ : Nat) (s : Value) (e0 : Int) (w : World) (h : Rdr w g s at_ e0) (he : (e0 == 0) = false) :
    Calls Try.prog 39 #[.pointer (some ⟨g, 0, none⟩)] w fun e w' => e = .returned (.int .u32 0) ∧ Ext w w' := by
  have ha := ext_alloc (Ext.rfl' w) (.cells #[.pointer (some ⟨g, 0, none⟩)] 100)
  have HC := Lib.hid (fun F => reading_err_69 g at_ s F e0 _ (h.ext ha) he)
  clear h he
  have HA := Lib.hid ha; clear ha
  go_enter Try.func39, Try.ntmps39
  go_wp2_with fail
  refine (HC.out _).mono ?_
  rintro e w3 ⟨rfl, hE3⟩
  have HE3 := Lib.hid hE3; clear hE3
  go_wp2_with fail
  go_ret
  exact ⟨rfl, ext_trans HA.out HE3.out⟩
/-- What reads as bytes is no reader. -/
theorem bs_rdr {w : World} {g at_ n : Nat} {s : Value} {e : Int} {A : Option Addr} {xs : List Nat} (h : Rdr w g s at_ e) (hs : ∀ k x, s ≠ .int k x) (hB : Bs w A n xs) (hp : 0 < n) : ∀ a, A = some a → a.block ≠ g := by
  intro a ha
  obtain ⟨b, o, e1, hl, hc⟩ := hB.2.2 hp
  obtain rfl := Option.some.inj (ha.symm.trans e1)
  show b ≠ g
  rintro rfl
  have h1 := hc 0 hp
  have h2 := Blk.cell h o
  rw [Nat.add_zero, h2] at h1
  rcases o with _ | _ | _ | o
  · simp at h1; exact hs _ _ h1
  · simp at h1
  · simp at h1
  · simp at h1
end Go.Proofs.Ytlldmpcamdginaa.Wire
namespace Go.Proofs.Ytlldmpcamdginaa.Wire
open Go.ChangeShapes Go.WideShapes Go.ChangeAt Go.RowKit
set_option linter.unusedVariables false

/-- What reading a text tells. -/
inductive TR where
  | bad (err : Int)
  | ok (ys : List Nat) (k : Nat)
def tr (rest : List Nat) (most : Int) : TR :=
  match vr 0 0 rest with
  | .short => .bad 3
  | .form => .bad 4
  | .ok z k => if most < 0 ∨ most < (z : Int) then .bad 4 else if rest.length - k < z then .bad 3 else .ok ((rest.drop k).take z) (k + z)
def TPhi (at_ : Nat) (R : TR) (v : Value) (a' : Nat) (err : Int) (w' : World) : Prop :=
  match R with
  | .bad f => err = f
  | .ok ys k => v = .string (strOf ys) ∧ a' = at_ + k ∧ err = 0
theorem bad_of {at_ : Nat} {f : Int} {v : Value} {a' : Nat} {w' : World} {R : TR} (h : R = .bad f) : TPhi at_ R v a' f w' := by subst h; rfl
theorem ok_of {at_ : Nat} {ys : List Nat} {k : Nat} {v : Value} {a' : Nat} {w' : World} {R : TR} (h : R = .ok ys k) (hv : v = .string (strOf ys)) (ha : a' = at_ + k) : TPhi at_ R v a' 0 w' := by subst h; exact ⟨hv, ha, rfl⟩
set_option maxHeartbeats 4000000 in
set_option maxRecDepth 100000 in
theorem text1 (pb rb mb g n c at_ : Nat) (most : Int) (A : Option Addr) (xs : List Nat) (w : World) (hp : w.cell? ⟨pb, 0, none⟩ = some (.pointer (some ⟨g, 0, none⟩))) (hr : w.cell? ⟨rb, 0, none⟩ = some (.pointer (some ⟨g, 0, none⟩))) (hmo : w.cell? ⟨mb, 0, none⟩ = some (.int .i64 most))
    (hpg : pb ≠ g) (hrg : rb ≠ g) (hmg : mb ≠ g) (hm1 : -9223372036854775808 ≤ most) (hm2 : most ≤ 9223372036854775807)
    (h : Rdr w g (.slice A n c) at_ 0) (hB : RB w g A n c xs) (hat : at_ ≤ n) (hn : n ≤ 4000000000) :
    Calls Try.prog 72 #[.func (.func 87) #[] #[.pointer (some ⟨pb, 0, none⟩)], .pointer (some ⟨rb, 0, none⟩), .pointer (some ⟨mb, 0, none⟩)] w (CP w g (.slice A n c) (TPhi at_ (tr (xs.drop at_) most))) := by
  have HC := Lib.hid (varint_70 pb g n c at_ A xs w hp h hB.1 hat hn)
  have HP := Lib.hid hp; have HR := Lib.hid hr; have HMO := Lib.hid hmo; have H := Lib.hid h; have HB := Lib.hid hB; clear hp hmo h hB
  have hxl : (xs.drop at_).length = n - at_ := by rw [List.length_drop, HB.out.1.1]
  have hsm : ∀ c ∈ xs.drop at_, c < 256 := fun c hc => mem_small HB.out.1.2.1 c (List.mem_of_mem_drop hc)
  generalize hV : vr 0 0 (xs.drop at_) = V at *
  have HV := Lib.hid hV; clear hV
  have HXL := Lib.hid hxl; have HSM := Lib.hid hsm; clear hxl hsm
  go_enter Try.func72, Try.ntmps72
  go_wp2_with fail
  refine (HC.out).mono ?_
  rintro e w3 ⟨z, j, err, rfl, hz, hE3, hm⟩
  have p3 := hE3.2.cell HP.out (by simpa using hpg)
  have r3 := hE3.2.cell HR.out (by simpa using hrg)
  have m3 := hE3.2.cell HMO.out (by simpa using hmg)
  obtain ⟨d0, d1, d2, f1, f2⟩ := hE3.1.cells
  have HE3 := Lib.hid hE3; clear hE3
  cases V with
  | short =>
    obtain rfl : err = 3 := hm
    clear hz
    go_wp2_with fail
    go_ret
    exact ⟨_, _, 3, rfl, HE3.out, bad_of (by unfold tr; rw [HV.out])⟩
  | form =>
    obtain rfl : err = 4 := hm
    clear hz
    go_wp2_with fail
    go_ret
    exact ⟨_, _, 4, rfl, HE3.out, bad_of (by unfold tr; rw [HV.out])⟩
  | ok v k =>
    obtain ⟨rfl, rfl, rfl⟩ := hm
    have hk := (vr_ok HSM.out HV.out).2.2.2
    rw [HXL.out] at hk
    by_cases hneg : most < 0
    · clear hz hm2
      go_wp2_with fail
      refine (fail0_70 _ pb g _ (at_ + j) 4 p3 HE3.out.1).mono ?_
      rintro e w4 ⟨rfl, hE4⟩
      have HE4 := Lib.hid hE4; clear hE4
      go_wp2_with fail
      go_ret
      exact ⟨_, _, 4, rfl, HE3.out.trans HE4.out, bad_of (by unfold tr; rw [HV.out]; simp only [if_pos (Or.inl hneg)])⟩
    · obtain ⟨mo, rfl⟩ : ∃ mo : Nat, most = (mo : Int) := ⟨most.toNat, by omega⟩
      have hmo2 : (mo : Int) ≤ 9223372036854775807 := hm2
      by_cases hbig : mo < z
      · have hbig2 : (mo : Int) < (z : Int) := by omega
        have HW : Hid (IntKind.u64.wrap (mo : Int) = (mo : Int)) := Lib.hid (by rw [IntKind.wrap_u64]; omega)
        have HBG : Hid ((mo : Int) < 0 ∨ (mo : Int) < (z : Int)) := Lib.hid (.inr hbig2)
        clear hz
        go_wp2_with fail
        refine (fail0_70 _ pb g _ (at_ + j) 4 p3 HE3.out.1).mono ?_
        rintro e w4 ⟨rfl, hE4⟩
        have HE4 := Lib.hid hE4; clear hE4
        go_wp2_with fail
        go_ret
        exact ⟨_, _, 4, rfl, HE3.out.trans HE4.out, bad_of (by unfold tr; rw [HV.out]; simp only [if_pos HBG.out])⟩
      · have hbig2 : ¬ (mo : Int) < (z : Int) := by omega
        have HNB : Hid (¬ ((mo : Int) < 0 ∨ (mo : Int) < (z : Int))) := Lib.hid (by omega)
        have HB3 := Lib.hid (HB.out.eff HE3.out.2)
        clear hz
        by_cases hsh : n - (at_ + j) < z
        · have HPC := Lib.hid (piece_short_70 pb g n c (at_ + j) z A xs w3 p3 HE3.out.1 (by omega) hn hsh)
          have HSH : Hid ((xs.drop at_).length - j < z) := Lib.hid (by rw [HXL.out]; omega)
          go_wp2_with fail
          refine (HPC.out).mono ?_
          rintro e w4 ⟨rfl, hE4⟩
          have HE4 := Lib.hid hE4; clear hE4
          have hcv := Bs.conv (P := Try.prog) (Bs.none w4 none) 29 5 9 Try.underlying29 Try.underlying5 Try.underlying9 0
          go_wp2_with fail
          go_ret
          exact ⟨_, _, 3, rfl, HE3.out.trans HE4.out, bad_of (by unfold tr; rw [HV.out]; simp only [if_neg HNB.out, if_pos HSH.out])⟩
        · have HPC := Lib.hid (piece_ok g n c (at_ + j) z A (.func (.func 87) #[] #[.pointer (some ⟨pb, 0, none⟩)]) xs w3 HE3.out.1 HB3.out (by omega) hn)
          have HSH : Hid (¬ (xs.drop at_).length - j < z) := Lib.hid (by rw [HXL.out]; omega)
          have HDD : Hid ((xs.drop (at_ + j)).take z = ((xs.drop at_).drop j).take z) := Lib.hid (by rw [List.drop_drop])
          go_wp2_with fail
          refine (HPC.out).mono ?_
          rintro e w4 ⟨A', c', rfl, hc1, hc2, hc3, hB4, hE4⟩
          have hcv := hB4.conv (P := Try.prog) 29 5 9 Try.underlying29 Try.underlying5 Try.underlying9 c'
          have HE4 := Lib.hid hE4; clear hE4 hB4 hc3
          generalize hS : strOf ((xs.drop (at_ + j)).take z) = S at *
          have HS := Lib.hid hS; clear hS
          go_wp2_with fail
          go_ret
          exact ⟨_, _, 0, rfl, HE3.out.trans HE4.out, ok_of (ys := ((xs.drop at_).drop j).take z) (k := j + z) (by unfold tr; rw [HV.out]; simp only [if_neg HNB.out, if_neg HSH.out]) (by rw [← HDD.out, HS.out]; rfl) (by omega)⟩
/-- What Text comes to. -/
def TPost (w : World) (g : Nat) (s : Value) (at_ : Nat) (R : TR) (e : Ending) (w' : World) : Prop :=
  match R with
  | .bad f => e = .returned (.string ⟨#[]⟩) ∧ Eff w w' g s at_ f
  | .ok ys k => e = .returned (.string (strOf ys)) ∧ Eff w w' g s (at_ + k) 0
theorem tr_bad {rest : List Nat} {most : Int} {f : Int} (h : tr rest most = .bad f) : f ≠ 0 := by
  unfold tr at h
  split at h
  · cases h; decide
  · cases h; decide
  · split at h
    · cases h; decide
    · split at h
      · cases h; decide
      · cases h
theorem tpost_of {w w' : World} {g : Nat} {s : Value} {at_ : Nat} {R : TR} (hR : ∀ f, R = .bad f → f ≠ 0) {e : Ending} (h : RP w g s (.string ⟨#[]⟩) at_ (TPhi at_ R) e w') : TPost w g s at_ R e w' := by
  rcases h with ⟨v, a', rfl, hE, hm⟩ | ⟨err, hne, rfl, hE, v0, a0, w0, hm⟩
  · cases R with
    | bad f => exact absurd hm.symm (hR f rfl)
    | ok ys k => obtain ⟨rfl, rfl, _⟩ := hm; exact ⟨rfl, hE⟩
  · cases R with
    | bad f => obtain rfl : err = f := hm; exact ⟨rfl, hE⟩
    | ok ys k => exact absurd hm.2.2 hne
set_option maxHeartbeats 4000000 in
theorem text (g n c at_ : Nat) (most : Int) (hm1 : -9223372036854775808 ≤ most) (hm2 : most ≤ 9223372036854775807) (A : Option Addr) (xs : List Nat) (w : World) (h : Rdr w g (.slice A n c) at_ 0) (hB : RB w g A n c xs) (hat : at_ ≤ n) (hn : n ≤ 4000000000) :
    Calls Try.prog 40 #[.pointer (some ⟨g, 0, none⟩), .int .i64 most] w (TPost w g (.slice A n c) at_ (tr (xs.drop at_) most)) := by
  have hgl : g < w.heap.size := Blk.lt h
  have ha := ext_alloc (Ext.rfl' w) (.cells #[.pointer (some ⟨g, 0, none⟩)] 100)
  have hb := ext_alloc (Ext.rfl' (w.alloc (.cells #[.pointer (some ⟨g, 0, none⟩)] 100))) (.cells #[.int .i64 most] 3)
  have hc := ext_alloc (Ext.rfl' ((w.alloc (.cells #[.pointer (some ⟨g, 0, none⟩)] 100)).alloc (.cells #[.int .i64 most] 3))) (.cells #[.pointer (some ⟨g, 0, none⟩)] 100)
  have HC := Lib.hid (reading_70 g at_ (.slice A n c) (.pointer (some ⟨w.heap.size, 0, none⟩)) (.pointer (some ⟨w.heap.size + 1, 0, none⟩)) (TPhi at_ (tr (xs.drop at_) most)) ((w.alloc (.cells #[.pointer (some ⟨g, 0, none⟩)] 100)).alloc (.cells #[.int .i64 most] 3)) ((h.ext ha).ext hb)
    (text1 ((w.alloc (.cells #[.pointer (some ⟨g, 0, none⟩)] 100)).alloc (.cells #[.int .i64 most] 3)).heap.size w.heap.size (w.heap.size + 1) g n c at_ most A xs _ (by rw [World.cell?_alloc_new]; rfl) (kc hc (kc hb (by rw [World.cell?_alloc_new]; rfl))) (kc hc (by
      have := World.cell?_alloc_new (w.alloc (.cells #[.pointer (some ⟨g, 0, none⟩)] 100)) #[.int .i64 most] 3 0
      rw [World.size_alloc] at this
      rw [this]; rfl)) (by simp; omega) (by omega) (by omega) hm1 hm2 (((h.ext ha).ext hb).ext hc) (((hB.eff (gb_ext ha _)).eff (gb_ext hb _)).eff (gb_ext hc _)) hat hn))
  have HBD := Lib.hid (fun f (hf : tr (xs.drop at_) most = .bad f) => tr_bad hf)
  clear h hB ha hb hc hm1 hm2
  generalize tr (xs.drop at_) most = R at *
  go_enter Try.func40, Try.ntmps40
  go_wp2_with fail
  refine (HC.out).mono ?_
  intro e w3 hq
  have hp := tpost_of HBD.out (rp_alloc _ (rp_alloc _ hq))
  clear hq
  have HP := Lib.hid hp
  cases R with
  | bad f =>
    obtain ⟨rfl, hE⟩ := hp
    clear hE
    go_wp2_with fail
    go_ret
    exact HP.out
  | ok ys k =>
    obtain ⟨rfl, hE⟩ := hp
    clear hE
    generalize hS : strOf ys = S at *
    go_wp2_with fail
    go_ret
    subst hS
    exact HP.out
end Go.Proofs.Ytlldmpcamdginaa.Wire
namespace Go.Proofs.Ytlldmpcamdginaa
open Go.ChangeShapes Go.WideShapes Go.ChangeAt Go.RowKit
set_option linter.unusedVariables false
/-- Normally left alone. -/
def Plainly (K : Act → World → Prop) : Exit → Act → World → Prop
  | .normal, a, w => K a w
  | _, _, _ => False
theorem plainly_in (K : Act → World → Prop) : ¬ LetsOut (Plainly K) := fun ⟨_, _, h⟩ => h
def noDefer (ops : Array Oper) : Bool := ops.all fun o => match o.op with | .defer _ => false | _ => true
theorem noDefer_at {ops : Array Oper} (h : noDefer ops = true) {i : Nat} {o : Oper} (ho : ops[i]? = some o) : ∀ c, o.op ≠ .defer c := fun c e => by
  have h1 := Array.all_eq_true.1 h i (Array.getElem?_eq_some_iff.1 ho).1
  rw [(Array.getElem?_eq_some_iff.1 ho).2, e] at h1
  cases h1
section
variable {n : Nat} {P : Program} {l : Nat} {ops : Array Oper} {K : Act → World → Prop}
theorem rowsIn_of {n : Nat} {row : String} {args : Array Value} {w : World} {R : Value → World → Prop} (h : Rows P row args w R) : RowsIn (Fence.wide.inRound l) n P row args w R :=
  fun c cs _ => let ⟨v, w', r, s⟩ := h c cs; ⟨v, w', r, stepsIn_wide.2 s⟩
theorem opIn_of {o : Oper} {a : Act} {w : World} {K' : Act → World → Prop} (hd : ∀ c, o.op ≠ .defer c) (h : o.wp P a w K' (Plainly K)) : o.wpIn (Fence.wide.inRound l) n P a w K' (Plainly K) := by
  unfold Oper.wp at h
  unfold Oper.wpIn
  refine ⟨fun f _ => trivial, ?_⟩
  rw [Oper.semAt_plain _ _ _ hd]
  generalize (execOp a.eval o).run P w = r at *
  cases r with
  | ok x w' =>
    cases x <;> simp only [Oper.upon, Oper.uponIn] at h ⊢ <;>
      first
        | exact h
        | exact ⟨fun e => (by cases e), CallsIn.inRound l (callsIn_wide.2 (Calls.mono h (fun e w'' he => by cases e <;> exact he)))⟩
        | exact ⟨fun e => (by cases e), rowsIn_of h⟩
  | halt x w' => cases x <;> simp only [Oper.upon, Oper.uponIn] at h ⊢ <;> exact h
theorem wpOpIn_of (hnd : noDefer ops = true) {i : Nat} {K' K2 : Act → World → Prop} {a : Act} {w : World} (h : wpOp P ops (Plainly K) i K' a w) (hk : ∀ a w, K' a w → K2 a w) : wpOpIn (Fence.wide.inRound l) n P ops (Plainly K) i K2 a w := by
  have h := wpOp_mono hk h
  unfold wpOp at h
  unfold wpOpIn
  cases ho : ops[i]? with
  | none => simpa [ho] using h
  | some o =>
    simp only [ho] at h ⊢
    split
    · rename_i hw
      simp only [hw, if_true] at h
      rcases h with h | ⟨_, h⟩
      · exact opIn_of (noDefer_at hnd ho) h
      · exact (plainly_in K h).elim
    · rename_i hw
      simp only [hw] at h
      exact ⟨fun f _ => trivial, h⟩
theorem wpAnyIn_of (hnd : noDefer ops = true) {md : Region.Mode} : ∀ (fuel : Nat) (listed : Array Bool) (a : Act) (w : World), wpAny P md ops (Plainly K) fuel listed a w → wpAnyIn (Fence.wide.inRound l) n P md ops (Plainly K) fuel listed a w
  | 0, _, _, _, h => h
  | fuel + 1, _, _, _, h => ⟨h.1, fun i hi => wpOpIn_of hnd (h.2 i hi) (fun a' w' h' => wpAnyIn_of hnd fuel _ a' w' h')⟩
theorem wpListIn_of (hnd : noDefer ops = true) : ∀ (rest : List Oper) (a : Act) (w : World), (∀ o ∈ rest, ∀ c, o.op ≠ .defer c) → wpList P ops (Plainly K) rest a w → wpListIn (Fence.wide.inRound l) n P ops (Plainly K) rest a w
  | [], _, _, _, h => h
  | o :: rest, a, w, hr, h => by
    unfold wpList at h
    unfold wpListIn
    split
    · rename_i hw
      simp only [hw, if_true] at h
      rcases h with h | ⟨_, h⟩
      · exact Oper.wpIn_mono (fun a' w' h' => wpListIn_of hnd rest a' w' (fun o ho => hr o (List.mem_cons_of_mem _ ho)) h') (opIn_of (hr o List.mem_cons_self) h)
      · exact (plainly_in K h).elim
    · rename_i hw
      simp only [hw] at h
      exact ⟨fun f _ => trivial, wpListIn_of hnd rest _ _ (fun o ho => hr o (List.mem_cons_of_mem _ ho)) h⟩
theorem plainly_mono {F : Fence} {c : Code} {a : Act} {w : World} {Q' : Exit → Act → World → Prop} (h : c.wpIn F n P (Plainly K) a w) : c.wpIn F n P (Exit.then K Q') a w :=
  wpIn_mono h fun e a w hq => by cases e <;> first | exact hq | exact hq.elim
/-- A region that draws its order, in a round: each operation as everywhere. -/
theorem region_round {id : Nat} {a : Act} {w : World} {Q' : Exit → Act → World → Prop} {S : World → Prop} {os : List Oper} (hm : P.follows .mixedOrders = true) (hnd : noDefer os.toArray = true)
    (h : wpAnyH P .any os.toArray (Plainly K) S os.toArray.size (Array.replicate os.toArray.size false) a w.drew) : (Code.region id os.toArray true).wpIn (Fence.wide.inRound l) n P (Exit.then K Q') a w :=
  plainly_mono (wpIn_region_any hm (wpAnyIn_of hnd _ _ _ _ (wpAny_of_held _ _ _ _ h)))
/-- One that does not. -/
theorem region_list_round {id : Nat} {a : Act} {w : World} {Q' : Exit → Act → World → Prop} {os : List Oper} (hnd : noDefer os.toArray = true)
    (h : wpList P os.toArray (Plainly K) os a w) : (Code.region id os.toArray false).wpIn (Fence.wide.inRound l) n P (Exit.then K Q') a w :=
  plainly_mono (wpIn_region_lit (wpListIn_of hnd _ _ _ (fun o ho => by obtain ⟨i, hi⟩ := List.getElem?_of_mem ho; exact noDefer_at hnd (i := i) (by simpa using hi)) h))
/-- An append, as one operation of a region. -/
theorem wanted_append {w : World} {o : Oper} {a : Act} {K' : Act → World → Prop} {Q : Exit → Act → World → Prop} {y : Nat → Option Bool} {X : Prop} (hgd : o.guard = none) (s x : Operand) (t tx : TypeId)
    (ho : o.op = .call { callee := .builtin .append, args := #[s, x], argTypes := #[t, tx] }) (vs vx : Value) (hs : a.eval s = vs) (hx : a.eval x = vx) {v' : Value} {w' : World}
    (hr : (Builtin.append_ #[t, tx] o.type #[vs, vx]).run P w = .ok v' w') (h : K' (a.put o.dst v') w') : if Region.wanted o y = true then Oper.wp P o a w K' Q else X := by
  rw [if_pos (by simp [Region.wanted, hgd])]
  unfold Oper.wp execOp
  simp only [ho, resolve, invoke, builtin, Sem.run_bind, Sem.run_pure, Result.andThen_ok, List.map_toArray, List.map_cons, List.map_nil, hs, hx, hr]
  exact h
end
end Go.Proofs.Ytlldmpcamdginaa
namespace Go.Proofs.Ytlldmpcamdginaa.Com
open Go.ChangeShapes Go.WideShapes Go.ChangeAt Go.RowKit
open Go.Proofs.Ytlldmpcamdginaa.Wire
set_option linter.unusedVariables false

theorem eff_app {w w3 w5 : World} {g i : Nat} {s : Value} {e : Int} {t : TypeId} {size n : Nat} {v : Value} {xs : List Value} (hE : Eff w w3 g s i e) (hO : w3.ownsRow w.heap.size t size v n xs) (hg : g < w.heap.size) (hgr : w3.grownBy w5 v.ownBlock) : Eff w w5 g s i e := by
  have hne : ∀ k, k < w.heap.size → some k ≠ v.ownBlock := fun k hk e => by have := own_ge hO k e.symm; omega
  refine ⟨(hgr.block g (Nat.lt_of_lt_of_le hg hE.2.size) (hne g hg)).trans hE.1, ⟨hgr.os.trans hE.2.os, hgr.tape.trans hE.2.tape, hgr.output.trans hE.2.output, Nat.le_trans hE.2.size hgr.size, fun k hk hkg => ?_⟩⟩
  exact (hgr.block k (Nat.lt_of_lt_of_le hk hE.2.size) (hne k hk)).trans (hE.2.block k hk hkg)
theorem own_low {w : World} {base base' : Nat} {e : TypeId} {size n : Nat} {v : Value} {xs : List Value} (h : w.ownsRow base e size v n xs) (hb : base' ≤ base) : w.ownsRow base' e size v n xs := by
  refine ⟨h.1, ?_⟩
  rcases h.2 with h | ⟨g, cap, cur, h1, h2, h3⟩
  · exact .inl h
  · exact .inr ⟨g, cap, cur, h1, Nat.le_trans hb h2, h3⟩
theorem extract_drop (l : List Nat) (a b : Nat) : l.extract a b = (l.drop a).take (b - a) := by simp [List.extract]
theorem str_ext (X : ByteArray) (j i : Nat) : X.extract j i = strOf (((natsOf X).drop j).take (i - j)) := by
  have h1 := strOf_nats (X.extract j i)
  rw [← h1]
  congr 1
  unfold natsOf
  rw [ByteArray.data_extract, Array.toList_extract, List.extract]
  simp [List.map_take, List.map_drop]
theorem natsOf_get (s : ByteArray) (k : Nat) (h : k < s.size) : (natsOf s).getD k 0 = s[k].toNat := by
  unfold natsOf
  rw [List.getD_eq_getElem?_getD, List.getElem?_map, List.getElem?_eq_getElem (by rw [Array.length_toList]; exact h)]
  rfl
theorem conv8 {w : World} {A : Option Addr} {n : Nat} {xs : List Nat} (h : Bs w A n xs) (c : Nat) : (convert 29 9 (.slice A n c)).run Try.prog w = .ok (.string (strOf xs)) w :=
  h.conv (P := Try.prog) 29 5 9 Try.underlying29 Try.underlying5 Try.underlying9 c
theorem nats_ext (s : ByteArray) (k : Nat) : natsOf (s.extract k s.size) = (natsOf s).drop k := by
  rw [str_ext, nats_strOf]
  · rw [List.take_of_length_le]; rw [List.length_drop, natsOf_len]; exact Nat.le_refl _
  · exact small_mem (fun c hc => mem_small (natsOf_small s) c (List.mem_of_mem_drop (List.mem_of_mem_take hc)))
end Go.Proofs.Ytlldmpcamdginaa.Com
namespace Go.Proofs.Ytlldmpcamdginaa.Com
open Go.ChangeShapes Go.WideShapes Go.ChangeAt Go.RowKit
set_option linter.unusedVariables false

theorem bytesRow_at (T : ByteArray) (cap j : Nat) (h : j < T.size) : (bytesRow T cap)[j]? = some (.int .u8 ((natsOf T).getD j 0 : Nat)) := by
  have h' : j < T.data.size := h
  unfold bytesRow natsOf
  rw [Array.getElem?_append_left (by simpa using h'), Array.getElem?_map, Array.getElem?_eq_getElem h', List.getD_eq_getElem?_getD, List.getElem?_map, List.getElem?_eq_getElem (by simpa using h')]
  simp
theorem conv_text (w : World) (T : ByteArray) (hT : T.size ≤ 100000000000) : ∃ c W, (convert 9 29 (.string T)).run Try.prog w = .ok (.slice (some ⟨w.heap.size, 0, none⟩) T.size c) W ∧ T.size ≤ c ∧ c ≤ 9223372036854775807 ∧ Bs W (some ⟨w.heap.size, 0, none⟩) T.size (natsOf T) ∧ Ext w W := by
  refine ⟨_, _, run_bytes_of_string (P := Try.prog) w 9 29 5 T Try.underlying9 Try.underlying29 Try.underlying5, grownCap_ge w T.size 0 _, ?_, ⟨natsOf_len T, natsOf_small T, fun _ => ⟨w.heap.size, 0, rfl, by simp, fun j hj => ?_⟩⟩, ext_alloc (ext_drew (Ext.rfl' w)) _⟩
  · have := grownCap_le_maxLen w T.size 0 5 (by unfold maxLen; omega)
    unfold maxLen at this; omega
  · rw [Nat.zero_add]
    have hg : (w.drew.alloc (.cells (bytesRow T (grownCap w T.size 0 5)) 5 ((bytesRow T (grownCap w T.size 0 5)).size, (bytesRow T (grownCap w T.size 0 5)).size + 1))).heap[w.heap.size]? = some (.cells (bytesRow T (grownCap w T.size 0 5)) 5 ((bytesRow T (grownCap w T.size 0 5)).size, (bytesRow T (grownCap w T.size 0 5)).size + 1)) := heap_alloc_new w.drew _
    rw [cell_of_row _ _ _ _ _ _ hg, bytesRow_at T _ j hj]
end Go.Proofs.Ytlldmpcamdginaa.Com
namespace Go.Proofs.Ytlldmpcamdginaa.Rec
open Go.ChangeShapes Go.WideShapes Go.ChangeAt Go.RowKit Go.Deep
set_option linter.unusedVariables false

theorem recs_of {H : Type} {enc : TypeId × Value → H} {P : Program} {w : World} {base : Nat} {spare : Nat → Bool} {held : Bool} {fuel : Nat} {a : Option Addr} {len cap : Nat} {x : DataW H × List MemPlace} {t e : TypeId} {k : Nat} {α : Type} {f : α → List Value} {good : α → Prop}
    (hu : P.underlying t = some (.slice e)) (hk : P.cellsOf e = k) (hk0 : 0 < k) (hf : ∀ y, (f y).length = k) (hel : ∀ fuel cs x, DataW.trod enc P w base spare held fuel e cs = some x → cs.length = k → ∃ y, cs = f y ∧ good y)
    (h : DataW.trod enc P w base spare held fuel t [.slice a len cap] = some x) : ∃ ls : List α, RowR w a len k f ls ∧ (∀ y ∈ ls, good y) ∧ cap ≤ maxLen ∧ len ≤ cap := by
  rcases open_slice hu h with ⟨hcs, _⟩ | ⟨ad, l, c, m, n, D, Pl, hcs, hb, hl, hm, hmm, hx, hi⟩
  · obtain ⟨rfl, rfl, rfl⟩ := Value.slice.inj (List.cons.inj hcs).1
    exact ⟨[], RowR.nil _ _ _ _, by simp, by unfold maxLen; omega, Nat.le_refl _⟩
  · obtain ⟨rfl, rfl, rfl⟩ := Value.slice.inj (List.cons.inj hcs).1
    have hlm : len ≤ m := by rw [hmm]; split <;> omega
    rw [hk] at hi
    have key : ∀ i, i < len → ∃ y : α, good y ∧ ∀ j (hj : j < k), w.cell? ((ad.add (i * k)).add j) = (f y)[j]? := by
      intro i hil
      obtain ⟨cs', hc, ht'⟩ := hi i (by omega)
      obtain ⟨_, hcl, hat⟩ := World.cells?_some hc
      obtain ⟨y, hy, hg⟩ := hel _ _ _ ht' hcl
      subst hy
      refine ⟨y, hg, fun j hj => ?_⟩
      rw [hat j hj, List.getElem?_eq_getElem (by rw [hf]; exact hj)]
    obtain ⟨b, o, spot⟩ := ad
    let g : Fin len → α := fun i => Classical.choose (key i.1 i.2)
    have hg : ∀ i : Fin len, good (g i) ∧ ∀ j (hj : j < k), w.cell? (((⟨b, o, spot⟩ : Addr).add (i.1 * k)).add j) = (f (g i))[j]? := fun i => Classical.choose_spec (key i.1 i.2)
    refine ⟨List.ofFn g, ⟨by simp, fun h0 => ?_⟩, fun y hy => ?_, hm, hl⟩
    · have hc00 := (hg ⟨0, h0⟩).2 0 hk0
      rw [List.getElem?_eq_getElem (by rw [hf]; exact hk0)] at hc00
      have hspot : spot = none := by
        have := hc00
        simpa [Addr.add] using World.cell?_spot this
      subst hspot
      have hadd : ∀ b o j, (⟨b, o, none⟩ : Addr).add j = ⟨b, o + j, none⟩ := fun b o j => by unfold Addr.add; split <;> simp_all
      refine ⟨b, o, rfl, ?_, fun j hj i hi => ?_⟩
      · rw [hadd, hadd] at hc00
        exact World.block_lt_of_cell? w _ hc00
      · have hj' : j < len := by simpa using hj
        have := (hg ⟨j, hj'⟩).2 i hi
        rw [hadd, hadd] at this
        rw [List.getElem_ofFn]
        exact this
    · obtain ⟨i, rfl⟩ := List.mem_ofFn.1 hy
      exact (hg i).1
theorem nat_u8 {n : Int} (h : 0 ≤ n ∧ n ≤ 255) : ∃ m : Nat, n = (m : Int) ∧ m < 256 := ⟨n.toNat, by omega, by omega⟩
theorem nat_u16 {n : Int} (h : 0 ≤ n ∧ n ≤ 65535) : ∃ m : Nat, n = (m : Int) ∧ m < 65536 := ⟨n.toNat, by omega, by omega⟩
theorem nat_u32 {n : Int} (h : 0 ≤ n ∧ n ≤ 4294967295) : ∃ m : Nat, n = (m : Int) ∧ m < 4294967296 := ⟨n.toNat, by omega, by omega⟩
end Go.Proofs.Ytlldmpcamdginaa.Rec
