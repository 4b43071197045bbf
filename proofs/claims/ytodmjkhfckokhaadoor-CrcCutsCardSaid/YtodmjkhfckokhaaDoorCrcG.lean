/- The walk of the law on cuts: the first loop. -/
import Derived.Test.YtodmjkhfckokhaaDoorCrcE
import Derived.Test.YtodmjkhfckokhaaDoorCrcF
import Derived.WalkSpells
import Derived.Test.YtodmjkhfckokhaaDoorByt
import Derived.LoopTactic
import Derived.RegionTactic
import Derived.BigRegion
import Derived.StillTailTactics
namespace Go.Proofs.YtodmjkhfckokhaaDoor.Crc
open Go.ChangeShapes Go.WideShapes Go.ChangeAt Go.RowKit
set_option linter.unusedVariables false

theorem info8 : (Tryd.prog.info? 5).map (fun i => (i.zero, i.size, i.bytes)) = some (some (.int .u8 0), 1, 1) := by kernel_rfl

/-- A slice reads as these numbers of sixteen bits. -/
def Rd16 (w : World) (A : Option Addr) (n : Nat) (xs : List Nat) : Prop :=
  xs.length = n ∧ (∀ j, xs.getD j 0 < 65536) ∧ (0 < n → ∃ b o, A = some ⟨b, o, none⟩ ∧ b < w.heap.size ∧ ∀ j, j < n → w.cell? ⟨b, o + j, none⟩ = some (.int .u16 (xs.getD j 0 : Nat)))
theorem rd_take {w : World} {A : Option Addr} {n m : Nat} {xs : List Nat} (h : Rd w A n xs) (hm : m ≤ n) : Rd w A m (xs.take m) := by
  have g : ∀ j, j < m → (xs.take m).getD j 0 = xs.getD j 0 := fun j hj => by simp [List.getD_eq_getElem?_getD, hj]
  refine ⟨by rw [List.length_take, h.1]; omega, fun j => ?_, fun hn => ?_⟩
  · by_cases hj : j < m
    · rw [g j hj]; exact h.2.1 j
    · rw [List.getD_eq_getElem?_getD, List.getElem?_eq_none (by rw [List.length_take]; omega)]; simp
  · obtain ⟨b, o, e, hl, hc⟩ := h.2.2 (by omega)
    exact ⟨b, o, e, hl, fun j hj => by rw [hc j (by omega), g j hj]⟩
theorem rd_drop {w : World} {b o n m : Nat} {xs : List Nat} (h : Rd w (some ⟨b, o, none⟩) n xs) (hm : m ≤ n) : Rd w (some ⟨b, o + m, none⟩) (n - m) (xs.drop m) := by
  refine ⟨by rw [List.length_drop, h.1], fun j => ?_, fun hn => ?_⟩
  · rw [List.getD_eq_getElem?_getD, List.getElem?_drop, ← List.getD_eq_getElem?_getD]; exact h.2.1 _
  · obtain ⟨b', o', e, hl, hcell⟩ := h.2.2 (by omega)
    simp only [Option.some.injEq, Addr.mk.injEq, and_true] at e
    obtain ⟨rfl, rfl⟩ := e
    refine ⟨b, o + m, rfl, hl, fun j hj => ?_⟩
    rw [Nat.add_assoc, hcell (m + j) (by omega)]
    simp [List.getD_eq_getElem?_getD, List.getElem?_drop]
theorem rd_none (w : World) (A : Option Addr) {xs : List Nat} (h : xs.length = 0) : Rd w A 0 xs := by
  have : xs = [] := List.eq_nil_of_length_eq_zero h
  subst this
  exact ⟨rfl, fun j => by simp, fun h => absurd h (by omega)⟩
theorem take_join (xs : List Nat) (p m : Nat) : xs.take p ++ (xs.drop p).take m = xs.take (p + m) := by
  rw [List.take_add]
theorem ext_at {xs zs : List Nat} (hl : zs.length = xs.length) (h : ∀ j, zs.getD j 0 = xs.getD j 0) : zs = xs := by
  apply List.ext_getElem? 
  intro j
  rcases Nat.lt_or_ge j xs.length with hj | hj
  · have := h j
    rw [List.getD_eq_getElem?_getD, List.getD_eq_getElem?_getD, List.getElem?_eq_getElem hj, List.getElem?_eq_getElem (by omega)] at this
    rw [List.getElem?_eq_getElem hj, List.getElem?_eq_getElem (by omega)]
    exact congrArg some this
  · rw [List.getElem?_eq_none (by omega), List.getElem?_eq_none (by omega)]
/-- What is changed within four in a row has another checksum. -/
theorem window (s : BitVec 32) (xs zs : List Nat) (p : Nat) (hl : zs.length = xs.length) (hx : ∀ j, xs.getD j 0 < 256) (hz : ∀ j, zs.getD j 0 < 256) (h : ∀ j, j < p ∨ p + 4 ≤ j → zs.getD j 0 = xs.getD j 0) : moreW s zs = moreW s xs ↔ zs = xs := by
  constructor
  · intro he
    have cut : ∀ ys : List Nat, ys = ys.take p ++ (ys.drop p).take 4 ++ ys.drop (p + 4) := fun ys => by
      rw [List.append_assoc, ← List.drop_drop, List.take_append_drop, List.take_append_drop]
    have e1 : zs.take p = xs.take p := ext_at (by rw [List.length_take, List.length_take, hl]) (fun j => by
      by_cases hj : j < p
      · have := h j (.inl hj)
        simp only [List.getD_eq_getElem?_getD, List.getElem?_take, hj, if_true] at this ⊢
        exact this
      · simp only [List.getD_eq_getElem?_getD, List.getElem?_take, hj, if_false])
    have e2 : zs.drop (p + 4) = xs.drop (p + 4) := ext_at (by rw [List.length_drop, List.length_drop, hl]) (fun j => by
      have := h (p + 4 + j) (.inr (by omega))
      simpa only [List.getD_eq_getElem?_getD, List.getElem?_drop] using this)
    have mem : ∀ ys : List Nat, (∀ j, ys.getD j 0 < 256) → ∀ c ∈ (ys.drop p).take 4, c < 256 := fun ys hy c hc => mem_small hy c (List.mem_of_mem_drop (List.mem_of_mem_take hc))
    rw [cut zs, cut xs, e1, e2] at he
    have := burst s (xs.take p) ((zs.drop p).take 4) ((xs.drop p).take 4) (xs.drop (p + 4)) (by rw [List.length_take, List.length_take, List.length_drop, List.length_drop, hl]) (mem zs hz) (mem xs hx) (by rw [List.length_take]; omega) he
    rw [cut zs, cut xs, e1, e2, this]
  · rintro rfl; rfl
theorem xor_small (a b : Int) : ∃ y : Nat, y < 256 ∧ bits .xor .u8 a b = (y : Int) := by
  have h : bits .xor .u8 a b = IntKind.u8.wrap ((BitVec.ofInt 8 a ^^^ BitVec.ofInt 8 b).toNat : Int) := rfl
  have := (BitVec.ofInt 8 a ^^^ BitVec.ofInt 8 b).isLt
  refine ⟨(BitVec.ofInt 8 a ^^^ BitVec.ofInt 8 b).toNat, by omega, ?_⟩
  rw [h, IntKind.wrap_u8]
  omega
/-- Behind i changes. -/
def WRel (w : World) (xs : List Nat) (p : Nat) (v iv : Value) (wr : World) : Prop :=
  ∃ (i : Nat) (zs : List Nat), i ≤ 4 ∧ iv = .int .i64 (i : Int) ∧ zs.length = xs.length ∧ (∀ j, zs.getD j 0 < 256) ∧ (∀ j, j < p ∨ p + 4 ≤ j → zs.getD j 0 = xs.getD j 0) ∧ wr.ownsRow w.heap.size 5 1 v xs.length (c8 zs) ∧ Ext w wr
/-- Behind k cuts: p bytes were summed; the others are left. -/
def CRel (w : World) (xs : List Nat) (n2 : Nat) (sv lv iv : Value) : Prop :=
  ∃ (k p c : Nat) (A : Option Addr), k ≤ n2 ∧ p ≤ xs.length ∧ sv = .int .u32 ((moreW 0#32 (xs.take p)).toNat : Int) ∧ lv = .slice A (xs.length - p) c ∧ xs.length - p ≤ c ∧ c ≤ 9223372036854775807 ∧ Rd w A (xs.length - p) (xs.drop p) ∧ iv = .int .i64 (k : Int)
set_option maxHeartbeats 4000000 in
set_option maxRecDepth 100000 in
theorem cuts (a0 a1 : Option Addr) (n0 c0 n1 c1 : Nat) (xs ys : List Nat) (at_ ch : Nat) (w : World) (hT : Tab w) (hr : Rd w a0 n0 xs) (hr2 : Rd16 w a1 n1 ys) (hn : n0 ≤ 3000) (hn2 : n1 ≤ 40) (hc : n0 ≤ c0) (hc2 : c0 ≤ 9223372036854775807) (ha0 : at_ < 65536) (hch : ch < 4294967296) :
    Calls Tryd.prog 4 #[.slice a0 n0 c0, .slice a1 n1 c1, .int .u16 (at_ : Int), .int .u32 (ch : Int)] w fun e w' => e = .returned (.bool true) ∧ Ext w w' := by
  have HT := Lib.hid hT; have HR := Lib.hid hr; have HR2 := Lib.hid hr2; clear hT hr hr2
  have hl : xs.length = n0 := HR.out.1
  subst hl
  go_enter Tryd.func4, Tryd.ntmps4
  go_wp2
  go_loop [9, 10, 11, 12] (fun sv lv iv _ => CRel w xs n1 sv lv iv) (fun _ _ iv _ => n1 - (intOf iv).toNat)
  case atStart => exact ⟨0, 0, c0, a0, by omega, by omega, by rw [List.take_zero, more_nil_eq]; rfl, rfl, by omega, by omega, HR.out, rfl⟩
  case round =>
    obtain ⟨k, p, c, A, hk, hp, rfl, rfl, hc3, hc4, hrd, rfl⟩ := hrel
    have HRD := Lib.hid hrd; clear hrd
    by_cases hlt : k < n1
    · obtain ⟨b2, o2, rfl, _, hy⟩ := HR2.out.2.2 (by omega)
      have y0 := hy k hlt
      have y1 := HR2.out.2.1 k
      clear hy
      have k0 : (0 : Int) ≤ (k : Int) := by omega
      have k1 : (k : Int) < (n1 : Int) := by omega
      generalize ys.getD k 0 = yk at *
      generalize hs : moreW 0#32 (xs.take p) = s at *
      have HS := Lib.hid hs; clear hs
      have s1 := s.isLt
      have hL3 : xs.length - p ≤ 3000 := by omega
      obtain ⟨m, hm⟩ : ∃ m : Nat, m = yk % (xs.length - p + 1) := ⟨_, rfl⟩
      have hmL : m ≤ xs.length - p := by rw [hm]; exact Nat.le_of_lt_succ (Nat.mod_lt _ (by omega))
      have hmi : (yk : Int) % (((xs.length - p : Nat) : Int) + 1) = (m : Int) := by rw [hm, Int.natCast_emod]; rfl
      have HTK := Lib.hid (rd_take HRD.out hmL)
      have HMS : Hid (moreW s ((xs.drop p).take m) = moreW 0#32 (xs.take (p + m))) := Lib.hid (by rw [← HS.out, more_append, take_join xs p m])
      have HLN : Hid (xs.length - p - m = xs.length - (p + m)) := Lib.hid (by omega)
      have HDD : Hid ((xs.drop p).drop m = xs.drop (p + m)) := Lib.hid (by rw [List.drop_drop])
      have HPM : p + m ≤ xs.length := by omega
      clear hm
      generalize hLL : xs.length - p = L at *
      have HLL := Lib.hid hLL; clear hLL
      have hL0 : (0 : Int) ≤ (L : Int) := by omega
      rcases Nat.eq_zero_or_pos L with hz | hz
      · have hm0 : m = 0 := by omega
        subst hm0
        subst hz
        have HXE : Hid ((xs.drop (p + 0)).length = 0) := Lib.hid (by rw [List.length_drop]; have := HLL.out; omega)
        have HSE : Hid (moreW 0#32 (xs.take (p + 0)) = s) := Lib.hid HS.out
        go_wp2_with fail
        refine (more s _ 0 c _ w HT.out HTK.out (by omega)).mono ?_
        rintro e w1 ⟨rfl, rfl⟩
        rw [HMS.out, HSE.out]
        go_wp2_with fail
        go_round
        case rel => exact ⟨k + 1, p, _, _, by omega, hp, by rw [HS.out], by rw [HLL.out], by rw [HLL.out]; omega, by omega, by rw [HLL.out]; exact rd_none w _ HXE.out, by go_num⟩
        case measure => simp [intOf]; omega
      · obtain ⟨b, o, rfl, _, _⟩ := HRD.out.2.2 hz
        by_cases hml : m < L
        · have hcm : ¬ c = m := by omega
          have HDR := Lib.hid (rd_drop HRD.out hmL)
          go_wp2_with fail
          refine (more s _ m c _ w HT.out HTK.out (by omega)).mono ?_
          rintro e w1 ⟨rfl, rfl⟩
          rw [HMS.out]
          generalize hs2 : moreW 0#32 (xs.take (p + m)) = s2 at *
          have HS2 := Lib.hid hs2; clear hs2
          go_wp2_with fail
          go_round
          case rel => exact ⟨k + 1, p + m, c - m, _, by omega, HPM, by rw [HS2.out], by rw [← HLN.out], by rw [← HLN.out]; omega, by omega, by rw [← HDD.out, ← HLN.out]; exact HDR.out, by go_num⟩
          case measure => simp [intOf]; omega
        · have hmE : m = L := by omega
          subst hmE
          have HXE : Hid ((xs.drop (p + m)).length = 0) := Lib.hid (by rw [List.length_drop]; have := HLL.out; omega)
          have HLE : Hid (xs.length - (p + m) = 0) := Lib.hid (by have := HLL.out; omega)
          by_cases hcm : c = m
          · subst hcm
            go_wp2_with fail
            refine (more s _ c c _ w HT.out HTK.out (by omega)).mono ?_
            rintro e w1 ⟨rfl, rfl⟩
            rw [HMS.out]
            generalize hs2 : moreW 0#32 (xs.take (p + c)) = s2 at *
            have HS2 := Lib.hid hs2; clear hs2
            go_wp2_with fail
            go_round
            case rel => exact ⟨k + 1, p + c, _, _, by omega, HPM, by rw [HS2.out], by rw [HLE.out], by rw [HLE.out]; omega, by omega, by rw [HLE.out]; exact rd_none w _ HXE.out, by go_num⟩
            case measure => simp [intOf]; omega
          · go_wp2_with fail
            refine (more s _ m c _ w HT.out HTK.out (by omega)).mono ?_
            rintro e w1 ⟨rfl, rfl⟩
            rw [HMS.out]
            generalize hs2 : moreW 0#32 (xs.take (p + m)) = s2 at *
            have HS2 := Lib.hid hs2; clear hs2
            go_wp2_with fail
            go_round
            case rel => exact ⟨k + 1, p + m, _, _, by omega, HPM, by rw [HS2.out], by rw [HLE.out], by rw [HLE.out]; omega, by omega, by rw [HLE.out]; exact rd_none w _ HXE.out, by go_num⟩
            case measure => simp [intOf]; omega
    · have HJ : Hid (moreW (moreW 0#32 (xs.take p)) (xs.drop p) = moreW 0#32 xs) := Lib.hid (by rw [more_append, List.take_append_drop])
      have hL3 : xs.length - p ≤ 3000 := by omega
      generalize hs : moreW 0#32 (xs.take p) = s at *
      have HS := Lib.hid hs; clear hs
      have s1 := s.isLt
      generalize hLL : xs.length - p = L at *
      have HLL := Lib.hid hLL; clear hLL
      go_wp2_with fail
      refine (more s A L c _ w HT.out HRD.out (by omega)).mono ?_
      rintro e w1 ⟨rfl, rfl⟩
      rw [HJ.out]
      go_wp2_with fail
      refine (sum a0 _ c0 xs w HT.out HR.out (by omega)).mono ?_
      rintro e w1 ⟨rfl, rfl⟩
      have HXS := Lib.hid HR.out.2.1
      generalize hy : moreW 0#32 xs = y at *
      have HY := Lib.hid hy; clear hy
      have y1 := y.isLt
      obtain ⟨i0, hi0, hz0, hz1, hz2⟩ := info_parts info8
      have HSRC := Lib.hid (Bs.src (P := Tryd.prog) (tx := 22) (e' := 5) (show Bs w a0 xs.length xs from HR.out) Tryd.underlying22 c0)
      have Q1 : Hid (0 + xs.length ≤ maxLen) := Lib.hid (by unfold maxLen; omega)
      have Q2 : Hid ((0 + xs.length) * 1 ≤ 140737488355328) := Lib.hid (by omega)
      go_wp2_with (first | (at_builtin; refine wpList_app_own rfl (.const (.slice none 0 0)) (.tmp 55) 22 22 rfl 5 i0 (.int .u8 0) 1 1 Tryd.underlying22 hi0 hz0 hz1 hz2 rfl w.heap.size (.slice none 0 0) (.slice a0 xs.length c0) 0 [] rfl rfl (World.ownsRow_nil _ _ _ _) xs.length (c8 xs) HSRC.out Q1.out Q2.out (Nat.le_refl _) ?_; intro v1 w1 hown1 hg1))
      have hownA : w1.ownsRow w.heap.size 5 1 v1 xs.length (c8 xs) := by have := hown1; rwa [Nat.zero_add, List.nil_append] at this
      have ex1 : Ext w w1 := ext_grown (Ext.rfl' _) hg1 (fun k hk => by simp [Value.ownBlock] at hk)
      clear hown1 hg1
      obtain ⟨A1, cap1, hv1, hcap1, hcap2, hA1⟩ := own_shape hownA
      rw [hv1] at hownA
      rw [hv1]
      have HEX := Lib.hid ex1; have HOWA := Lib.hid hownA; have HA1 := Lib.hid hA1; clear ex1 hownA hA1 hv1
      go_loopw [14] (fun iv wr => WRel w xs (at_ % xs.length) (.slice A1 xs.length cap1) iv wr) (fun iv _ => 4 - (intOf iv).toNat)
      case atStart => exact ⟨0, xs, by omega, rfl, rfl, HXS.out, fun _ _ => rfl, HOWA.out, HEX.out⟩
      case round =>
        obtain ⟨i, zs, hi, rfl, hzl, hzb, hzo, hown, hex⟩ := hrel
        have HZL := Lib.hid hzl; have HZB := Lib.hid hzb; have HZO := Lib.hid hzo; have HOW := Lib.hid hown; have HE := Lib.hid hex
        clear hzl hzb hzo hown hex
        by_cases hgo : i < 4 ∧ 0 < xs.length
        · obtain ⟨hi4, hn0⟩ := hgo
          obtain ⟨g, rfl, hg⟩ := HA1.out hn0
          have hn1 : (0 : Int) < (xs.length : Int) := by omega
          have hi5 : (i : Int) < 4 := by omega
          have hpl : at_ % xs.length < xs.length := Nat.mod_lt _ hn0
          have hpm : (at_ : Int) % (xs.length : Int) = ((at_ % xs.length : Nat) : Int) := (Int.natCast_emod _ _).symm
          generalize at_ % xs.length = p2 at *
          by_cases hkl : p2 + i < xs.length
          · have hki : (p2 : Int) + (i : Int) < (xs.length : Int) := by omega
            have hkn : ((p2 : Int) + (i : Int)).toNat = p2 + i := by omega
            have c0' : wr.cell? ⟨g, p2 + i, none⟩ = some (.int .u8 (zs.getD (p2 + i) 0 : Nat)) := by
              rw [HOW.out.cellAt _ (by omega)]; exact c8_at (by have := HZL.out; omega)
            have f0 := HOW.out.frozenAt (p2 + i)
            generalize zs.getD (p2 + i) 0 = zk at *
            obtain ⟨yb, hyb, hye⟩ := xor_small (zk : Int) ((ch : Int) / 2 ^ (8 * i) % 256)
            have HYE := Lib.hid hye; clear hye
            go_wp2_with fail
            go_region
            rw [HYE.out]
            go_wp2_with fail
            go_roundw
            case rel =>
              have hst := (HOW.out.stored (p2 + i) (.int .u8 (yb : Int))).1
              refine ⟨i + 1, zs.set (p2 + i) yb, by omega, by go_num, by rw [List.length_set]; exact HZL.out, fun j => ?_, fun j hj => ?_, ?_, ext_drew (ext_set HE.out (by exact hg) _)⟩
              · rw [List.getD_eq_getElem?_getD, List.getElem?_set]
                split
                · split <;> simp <;> omega
                · rw [← List.getD_eq_getElem?_getD]; exact HZB.out j
              · rw [List.getD_eq_getElem?_getD, List.getElem?_set, if_neg (by omega), ← List.getD_eq_getElem?_getD]; exact HZO.out j hj
              · have e : c8 (zs.set (p2 + i) yb) = (c8 zs).set (p2 + i) (.int .u8 (yb : Int)) := by unfold c8; rw [List.map_set]
                rw [e]; exact hst.drew
            case measure => simp [intOf]; omega
          · have hki : ¬ (p2 : Int) + (i : Int) < (xs.length : Int) := by omega
            go_wp2_with fail
            go_roundw
            case rel => exact ⟨i + 1, zs, by omega, by go_num, HZL.out, HZB.out, HZO.out, HOW.out, HE.out⟩
            case measure => simp [intOf]; omega
        · have HS1 : Hid (Bs wr.drew A1 xs.length zs) := Lib.hid ((Bs.own HOW.out HZB.out).ext (ext_drew (Ext.rfl' _)))
          have HS2 : Hid (Bs wr.drew a0 xs.length xs) := Lib.hid ((show Bs w a0 xs.length xs from HR.out).ext (ext_drew HE.out))
          have HT2 := Lib.hid (HT.out.ext (ext_drew HE.out))
          have HW := Lib.hid (window 0#32 xs zs (at_ % xs.length) HZL.out HXS.out HZB.out HZO.out)
          have hc1 := HS1.out.conv (P := Tryd.prog) 22 5 9 Tryd.underlying22 Tryd.underlying5 Tryd.underlying9 cap1
          have hc2' := HS2.out.conv (P := Tryd.prog) 22 5 9 Tryd.underlying22 Tryd.underlying5 Tryd.underlying9 c0
          have HM1 := Lib.hid ((sum A1 xs.length cap1 zs wr.drew HT2.out HS1.out (by omega)).mono (fun e w' h => (⟨h.1, h.2.symm⟩ : e = .returned _ ∧ w' = wr.drew)))
          have HM2 := Lib.hid ((sum a0 xs.length c0 xs wr.drew HT2.out HS2.out (by omega)).mono (fun e w' h => (⟨h.1, h.2.symm⟩ : e = .returned _ ∧ w' = wr.drew)))
          rw [HY.out] at HM2
          by_cases heq : zs = xs
          · rw [HW.out.2 heq, HY.out] at HM1
            rw [heq] at hc1
            clear heq
            generalize strOf xs = S at *
            have hn1 : i < 4 → ¬ (0 : Int) < (xs.length : Int) := by omega
            by_cases hi4 : i < 4
            · have hn2 := hn1 hi4
              clear hn1 hgo
              go_wp2_with fail
              refine wp_region_still_tail 12 (by kernel_rfl) (by kernel_rfl) ?_
              simp only [List.take_succ_cons, List.take_zero, List.drop_succ_cons, List.drop_zero]
              still_step
              still_call HM1.out
              still_step
              still_call HM2.out
              still_step
              still_step
              still_step
              still_step
              still_step
              still_step
              still_step
              still_step
              refine wpStill_nil ?_
              go_wp2_with fail
              refine (wakes _ HT2.out).mono ?_
              rintro e w3 ⟨rfl, b3⟩
              go_wp2_with fail
              go_ret
              exact ⟨rfl, ext_trans (ext_drew HE.out) b3⟩
            · clear hn1 hgo
              go_wp2_with fail
              refine wp_region_still_tail 12 (by kernel_rfl) (by kernel_rfl) ?_
              simp only [List.take_succ_cons, List.take_zero, List.drop_succ_cons, List.drop_zero]
              still_step
              still_call HM1.out
              still_step
              still_call HM2.out
              still_step
              still_step
              still_step
              still_step
              still_step
              still_step
              still_step
              still_step
              refine wpStill_nil ?_
              go_wp2_with fail
              refine (wakes _ HT2.out).mono ?_
              rintro e w3 ⟨rfl, b3⟩
              go_wp2_with fail
              go_ret
              exact ⟨rfl, ext_trans (ext_drew HE.out) b3⟩
          · have hne : moreW 0#32 zs ≠ y := fun e => heq (HW.out.1 (e.trans HY.out.symm))
            have hse : strOf zs ≠ strOf xs := fun e => heq (strOf_inj HZB.out HXS.out e)
            clear heq
            generalize hy2 : moreW 0#32 zs = y2 at *
            have HY2 := Lib.hid hy2; clear hy2
            have y2l := y2.isLt
            have hne2 : ((y2.toNat : Int) == (y.toNat : Int)) = false := beq_eq_false_iff_ne.2 (fun e => hne (BitVec.eq_of_toNat_eq (by omega)))
            have hse2 : ((strOf zs).toList == (strOf xs).toList) = false := beq_eq_false_iff_ne.2 (str_ne hse)
            clear hne hse
            generalize strOf xs = S at *
            generalize strOf zs = S2 at *
            have hn1 : i < 4 → ¬ (0 : Int) < (xs.length : Int) := by omega
            by_cases hi4 : i < 4
            · have hn2 := hn1 hi4
              clear hn1 hgo
              go_wp2_with fail
              refine wp_region_still_tail 12 (by kernel_rfl) (by kernel_rfl) ?_
              simp only [List.take_succ_cons, List.take_zero, List.drop_succ_cons, List.drop_zero]
              still_step
              still_call HM1.out
              still_step
              still_call HM2.out
              still_step
              still_step
              still_step
              still_step
              still_step
              still_step
              still_step
              still_step
              refine wpStill_nil ?_
              go_wp2_with fail
              refine (wakes _ HT2.out).mono ?_
              rintro e w3 ⟨rfl, b3⟩
              go_wp2_with fail
              go_ret
              exact ⟨rfl, ext_trans (ext_drew HE.out) b3⟩
            · clear hn1 hgo
              go_wp2_with fail
              refine wp_region_still_tail 12 (by kernel_rfl) (by kernel_rfl) ?_
              simp only [List.take_succ_cons, List.take_zero, List.drop_succ_cons, List.drop_zero]
              still_step
              still_call HM1.out
              still_step
              still_call HM2.out
              still_step
              still_step
              still_step
              still_step
              still_step
              still_step
              still_step
              still_step
              refine wpStill_nil ?_
              go_wp2_with fail
              refine (wakes _ HT2.out).mono ?_
              rintro e w3 ⟨rfl, b3⟩
              go_wp2_with fail
              go_ret
              exact ⟨rfl, ext_trans (ext_drew HE.out) b3⟩
end Go.Proofs.YtodmjkhfckokhaaDoor.Crc
