
import Derived.Test.YtidnboeihkeljaaGreatDoorF01
import Derived.Laws.CopyOwn
import Derived.RegionTactic
import Derived.BigRegion
import Derived.WalkLawsBesides
import Derived.LoopTactic
set_option maxHeartbeats 16000000
set_option maxRecDepth 100000
set_option linter.all false
open Go.ChangeShapes Go.WideShapes Go.ChangeAt Go.RowKit
namespace Go.Proofs.YtidnboeihkeljaaGreatDoor.Delta
open Wire
theorem wpList_copy_all {w : World} {ops : Array Oper} {rest : List Oper} {o : Oper} {a : Act} {Q : Exit → Act → World → Prop} (hgd : o.guard = none) (d s : Operand)
  (ho : o.op = .call { callee := .builtin .copy, args := #[d, s], argTypes := #[48, 48] }) (base g n : Nat) (A : Option Addr) (c : Nat) (zs ys : List Nat)
  (hd : a.eval d = .slice (some ⟨g, 0, none⟩) n n) (hs : a.eval s = .slice A n c) (hown : w.ownsRow base 5 1 (.slice (some ⟨g, 0, none⟩) n n) n (c8 zs)) (hB : Bs w A n ys)
  (h : ∀ w', w'.ownsRow base 5 1 (.slice (some ⟨g, 0, none⟩) n n) n (c8 ys) → w.grownBy w' (some g) → wpList Tryz.prog ops Q rest (a.put o.dst (goInt n)) w') : wpList Tryz.prog ops Q (o :: rest) a w := by
 have hsz : (Tryz.prog.info? 5).map (·.size) = some 1 := by kernel_rfl
 have hl : (c8 ys).length = n := by rw [c8_len]; exact hB.1
 rcases Nat.eq_zero_or_pos n with h0 | hp
 ·subst h0
  have hy : ys = [] := List.eq_nil_of_length_eq_zero hB.1
  have hz : zs = [] := List.eq_nil_of_length_eq_zero (by have := hown.1; rwa [c8_len, Nat.zero_mul] at this)
  subst hy hz
  refine wpList_copy_nothing hgd d s _ _ ho 5 Tryz.underlying48 hsz _ _ 0 0 0 c hd hs rfl ?_
  exact h w hown (World.grownBy.refl _ _)
 ·obtain ⟨b, ob, rfl, _, hc⟩ := hB.2.2 hp
  rcases hown.2 with ⟨hq, _⟩ | ⟨g', cap, cur, hq, hb, hg, hnc, hcm, hcs, _⟩
  ·simp at hq
  ·simp only [Value.slice.injEq, Option.some.injEq, Addr.mk.injEq, and_true, true_and] at hq
   obtain ⟨rfl, rfl⟩ := hq
   have hcl : cur.size = n := by rw [hcs, Nat.mul_one]
   have hfin : (cur.toList.take 0 ++ (c8 ys ++ cur.toList.drop (0 + (c8 ys).length))).toArray = (c8 ys).toArray := by
    rw [hl, Nat.zero_add, List.drop_of_length_le (by rw [Array.length_toList, hcl]; exact Nat.le_refl _)]; simp
   refine wpList_copy_own hgd d s _ _ ho 5 Tryz.underlying48 hsz g 0 n n ⟨b, ob, none⟩ n c hd hs cur 5 hg (c8 ys) (by rw [hl]; exact (Nat.min_self n).symm) (fun j v hv => ?_) (by rw [hl, hcl]; omega) (c8_one ys) ?_
   ·obtain ⟨hj, rfl⟩ := c8_get hv
    have hadd : (⟨b, ob, none⟩ : Addr).add j = ⟨b, ob + j, none⟩ := by unfold Addr.add; split <;> simp_all
    rw [hadd]
    exact hc j (by rw [hB.1] at hj; exact hj)
   ·rw [hfin, hl]
    refine h _ ⟨by rw [hl, Nat.mul_one], .inr ⟨g, n, _, rfl, hb, setRow_heap w g cur _ _ _ hg, Nat.le_refl _, hcm, by simp [hl], ?_⟩⟩ ⟨rfl, rfl, rfl, by simp [World.setRow], fun k _ hk => setRow_other w g k _ (fun e => hk (by rw [e]))⟩
    rw [Nat.mul_one]
    exact List.take_of_length_le (by simp [hl])
def mixK (k : Nat) (xs ys : List Nat) : List Nat := (List.range ys.length).map fun i => if i < k then ys.getD i 0 ^^^ xs.getD i 0 else ys.getD i 0
def mix (xs ys : List Nat) : List Nat := mixK xs.length xs ys
theorem mixK_len (k : Nat) (xs ys : List Nat) : (mixK k xs ys).length = ys.length := by simp [mixK]
theorem mixK_at (k : Nat) (xs ys : List Nat) (j : Nat) (hj : j < ys.length) : (mixK k xs ys).getD j 0 = if j < k then ys.getD j 0 ^^^ xs.getD j 0 else ys.getD j 0 := by
 unfold mixK
 rw [List.getD_eq_getElem?_getD, List.getElem?_map, List.getElem?_range hj]; rfl
theorem mixK_zero (xs ys : List Nat) : mixK 0 xs ys = ys := by
 apply List.ext_getElem?
 intro j
 rcases Nat.lt_or_ge j ys.length with h | h
 ·have h1 := mixK_at 0 xs ys j h
  rw [if_neg (by omega), List.getD_eq_getElem?_getD, List.getD_eq_getElem?_getD, List.getElem?_eq_getElem h, List.getElem?_eq_getElem (by rw [mixK_len]; exact h)] at h1
  rw [List.getElem?_eq_getElem h, List.getElem?_eq_getElem (by rw [mixK_len]; exact h)]
  exact congrArg some h1
 ·rw [List.getElem?_eq_none h, List.getElem?_eq_none (by rw [mixK_len]; exact h)]
theorem mixK_succ (k : Nat) (xs ys : List Nat) (hk : k < ys.length) : mixK (k + 1) xs ys = (mixK k xs ys).set k (ys.getD k 0 ^^^ xs.getD k 0) := by
 apply List.ext_getElem?
 intro j
 rcases Nat.lt_or_ge j ys.length with h | h
 ·have h1 := mixK_at (k + 1) xs ys j h
  have h2 := mixK_at k xs ys j h
  rw [List.getD_eq_getElem?_getD, List.getElem?_eq_getElem (by rw [mixK_len]; exact h)] at h1 h2
  simp only [Option.getD_some] at h1 h2
  rw [List.getElem?_eq_getElem (by rw [mixK_len]; exact h), h1, List.getElem?_set]
  by_cases hkj : k = j
  ·subst hkj
   rw [if_pos (show k < k + 1 by omega), if_pos rfl, if_pos (show k < (mixK k xs ys).length by rw [mixK_len]; exact h)]
  ·rw [if_neg hkj, List.getElem?_eq_getElem (by rw [mixK_len]; exact h), h2]
   by_cases hj : j < k
   ·rw [if_pos hj, if_pos (by omega)]
   ·rw [if_neg hj, if_neg (by omega)]
 ·rw [List.getElem?_eq_none (by rw [mixK_len]; exact h), List.getElem?_eq_none (by rw [List.length_set, mixK_len]; exact h)]
theorem mixK_small (k : Nat) {xs ys : List Nat} (hx : ∀ j, xs.getD j 0 < 256) (hy : ∀ j, ys.getD j 0 < 256) : ∀ j, (mixK k xs ys).getD j 0 < 256 := fun j => by
 rcases Nat.lt_or_ge j ys.length with h | h
 ·rw [mixK_at k xs ys j h]
  split
  ·exact Nat.xor_lt_two_pow (n := 8) (hy j) (hx j)
  ·exact hy j
 ·rw [List.getD_eq_getElem?_getD, List.getElem?_eq_none (by rw [mixK_len]; exact h)]; simp
theorem xor8 (a b : Nat) (ha : a < 256) (hb : b < 256) : bits .xor .u8 (a : Int) (b : Int) = ((a ^^^ b : Nat) : Int) := by
 have h : bits .xor .u8 (a : Int) (b : Int) = IntKind.u8.wrap ((BitVec.ofInt 8 (a : Int) ^^^ BitVec.ofInt 8 (b : Int)).toNat : Int) := rfl
 have hl := Nat.xor_lt_two_pow (n := 8) ha hb
 rw [h, BitVec.ofInt_natCast, BitVec.ofInt_natCast, BitVec.toNat_xor, BitVec.toNat_ofNat, BitVec.toNat_ofNat, Nat.mod_eq_of_lt ha, Nat.mod_eq_of_lt hb, IntKind.wrap_u8]
 omega
theorem mix_min (xs ys : List Nat) (m : Nat) (h : m = xs.length ∨ (m = ys.length ∧ ys.length ≤ xs.length)) : mixK m xs ys = mix xs ys := by
 rcases h with rfl | ⟨rfl, hl⟩
 ·rfl
 ·unfold mix mixK
  refine List.map_congr_left fun i hi => ?_
  have := List.mem_range.1 hi
  rw [if_pos this, if_pos (by omega)]
def XRel (w : World) (xs ys : List Nat) (m : Nat) (v iv : Value) (wr : World) : Prop :=
 ∃ k : Nat, k ≤ m ∧ iv = .int .i64 (k : Int) ∧ wr.ownsRow w.heap.size 5 1 v ys.length (c8 (mixK k xs ys)) ∧ Ext w wr
def XPost (w : World) (zs : List Nat) (e : Ending) (w' : World) : Prop :=
 ∃ g, e = .returned (.slice (some ⟨g, 0, none⟩) zs.length zs.length) ∧ w.heap.size ≤ g ∧ Wire.Own w w' (.slice (some ⟨g, 0, none⟩) zs.length zs.length) zs ∧ Ext w w'
theorem xor (A B : Option Addr) (n c n2 c2 : Nat) (xs ys : List Nat) (w : World) (hA : Bs w A n xs) (hB : Bs w B n2 ys) (hn : n ≤ 4000000000) (hn2 : n2 ≤ 4000000000) :
  Calls Tryz.prog 65 #[.slice A n c, .slice B n2 c2] w (XPost w (mix xs ys)) := by
 obtain ⟨i0, hi0, hz0, hz1, hz2⟩ := info_parts info8
 have hxl : xs.length = n := hA.1
 have hyl : ys.length = n2 := hB.1
 subst hxl hyl
 have HA := Lib.hid hA; have HB := Lib.hid hB; clear hA hB
 have HQ0 : Hid (i0.bytes * ys.length ≤ 281474976710656) := Lib.hid (by rw [hz2]; omega)
 have HQ1 : Hid (ys.length ≤ maxLen) := Lib.hid (by unfold maxLen; omega)
 have HI := Lib.hid (And.intro hi0 (And.intro hz0 hz1)); clear hi0 hz0 hz1 hz2
 have HZ : Hid ((madeCells (Value.int .u8 0).cells (ys.length * 1)).toList = c8 (List.replicate ys.length 0)) := Lib.hid (by
  rw [Nat.mul_one]
  have := toList_madeCells_one (.int .u8 0) ys.length
  rw [show (Value.int .u8 0).cells = #[.int .u8 0] from rfl, this]
  simp [c8])
 by_cases hmin : xs.length ≤ ys.length
 ·go_enter Tryz.func65, Tryz.ntmps65
  go_wp2_with (first | (at_make; refine wpList_make_full w rfl (.tmp 8) (.tmp 8) 48 rfl w.heap.size 5 i0 (.int .u8 0) 1 Tryz.underlying48 HI.out.1 HI.out.2.1 HI.out.2.2 .i64 .i64 (ys.length : Int) (ys.length : Int) ys.length rfl rfl rfl rfl HQ0.out HQ1.out (Nat.le_refl _) ?_; intro w1 hown1 hg1; rw [HZ.out] at hown1) | (with_reducible refine wpList_copy_all rfl (.tmp 10) (.tmp 11) rfl w.heap.size w.heap.size ys.length B c2 (List.replicate ys.length 0) ys rfl rfl hown1 (HB.out.ext (ext_grown (Ext.rfl' w) hg1 (fun k hk => by cases hk))) ?_; intro w2 hown2 hg2))
  have HO1 := Lib.hid (show w2.ownsRow w.heap.size 5 1 (.slice (some ⟨w.heap.size, 0, none⟩) ys.length ys.length) ys.length (c8 (mixK 0 xs ys)) by rw [mixK_zero]; exact hown2)
  have E2 := Lib.hid (ext_grown (ext_grown (Ext.rfl' w) hg1 (fun k hk => by cases hk)) hg2 (fun k hk => by obtain rfl := Option.some.inj hk; exact Nat.le_refl _))
  have HMX := Lib.hid (mix_min xs ys xs.length (.inl rfl))
  have HSX := Lib.hid HA.out.2.1
  have HSY := Lib.hid HB.out.2.1
  clear hown1 hg1 hown2 hg2
  go_loopw [18] (fun iv wr => XRel w xs ys xs.length (.slice (some ⟨w.heap.size, 0, none⟩) ys.length ys.length) iv wr) (fun iv _ => xs.length - (intOf iv).toNat)
  case atStart => exact ⟨0, Nat.zero_le _, rfl, HO1.out, E2.out⟩
  case round =>
   obtain ⟨k, hk, rfl, hown, hex⟩ := hrel
   have HOW := Lib.hid hown; have HE := Lib.hid hex; clear hown hex
   by_cases hlt : k < xs.length
   ·obtain ⟨b, ob, rfl, _, hcell⟩ := (HA.out.ext HE.out).2.2 (by omega)
    have a0 := hcell k (by omega)
    have y0 : wr.cell? ⟨w.heap.size, k, none⟩ = some (.int .u8 (ys.getD k 0 : Nat)) := by
     rw [HOW.out.cellAt _ (by omega), c8_at (by rw [mixK_len]; omega), mixK_at k xs ys k (by omega), if_neg (by omega)]
    have f0 := HOW.out.frozenAt k
    clear hcell
    have HXR := Lib.hid (xor8 (ys.getD k 0) (xs.getD k 0) (HSY.out k) (HSX.out k))
    have HMS := Lib.hid (mixK_succ k xs ys (by omega))
    have k0 : (0 : Int) ≤ (k : Int) := by omega
    have k1 : (k : Int) < (xs.length : Int) := by omega
    have k2 : (k : Int) < (ys.length : Int) := by omega
    have k3 : (k : Int) < (xs.length : Int) := by omega
    generalize xs.getD k 0 = xk at *
    generalize ys.getD k 0 = yk at *
    go_wp2_with fail
    go_region
    rw [HXR.out]
    go_wp2_with fail
    go_roundw
    case rel =>
     have hst := (HOW.out.stored k (.int .u8 ((yk ^^^ xk : Nat) : Int))).1
     refine ⟨k + 1, by omega, by go_num, ?_, ext_drew (ext_set HE.out (Nat.le_refl _) _)⟩
     have e : c8 (mixK (k + 1) xs ys) = (c8 (mixK k xs ys)).set k (.int .u8 ((yk ^^^ xk : Nat) : Int)) := by rw [HMS.out]; unfold c8; rw [List.map_set]
     rw [e]; exact hst.drew
    case measure => simp [intOf]; omega
   ·have hkm : k = xs.length := by omega
    have k3 : ¬ (k : Int) < (xs.length : Int) := by omega
    have HF : Hid (Wire.Own w wr (.slice (some ⟨w.heap.size, 0, none⟩) (mix xs ys).length (mix xs ys).length) (mix xs ys)) := Lib.hid (by
     have hl : (mix xs ys).length = ys.length := mixK_len _ _ _
     have := HOW.out
     rw [hkm, HMX.out] at this
     unfold Wire.Own
     rw [hl]; exact this)
    have HL : Hid ((mix xs ys).length = ys.length) := Lib.hid (mixK_len _ _ _)
    clear hkm
    go_wp2_with fail
    go_ret
    exact ⟨w.heap.size, by rw [HL.out]; rfl, Nat.le_refl _, HF.out, HE.out⟩
 ·go_enter Tryz.func65, Tryz.ntmps65
  go_wp2_with (first | (at_make; refine wpList_make_full w rfl (.tmp 8) (.tmp 8) 48 rfl w.heap.size 5 i0 (.int .u8 0) 1 Tryz.underlying48 HI.out.1 HI.out.2.1 HI.out.2.2 .i64 .i64 (ys.length : Int) (ys.length : Int) ys.length rfl rfl rfl rfl HQ0.out HQ1.out (Nat.le_refl _) ?_; intro w1 hown1 hg1; rw [HZ.out] at hown1) | (with_reducible refine wpList_copy_all rfl (.tmp 10) (.tmp 11) rfl w.heap.size w.heap.size ys.length B c2 (List.replicate ys.length 0) ys rfl rfl hown1 (HB.out.ext (ext_grown (Ext.rfl' w) hg1 (fun k hk => by cases hk))) ?_; intro w2 hown2 hg2))
  have HO1 := Lib.hid (show w2.ownsRow w.heap.size 5 1 (.slice (some ⟨w.heap.size, 0, none⟩) ys.length ys.length) ys.length (c8 (mixK 0 xs ys)) by rw [mixK_zero]; exact hown2)
  have E2 := Lib.hid (ext_grown (ext_grown (Ext.rfl' w) hg1 (fun k hk => by cases hk)) hg2 (fun k hk => by obtain rfl := Option.some.inj hk; exact Nat.le_refl _))
  have HMX := Lib.hid (mix_min xs ys ys.length (.inr ⟨rfl, by omega⟩))
  have HSX := Lib.hid HA.out.2.1
  have HSY := Lib.hid HB.out.2.1
  clear hown1 hg1 hown2 hg2
  go_loopw [18] (fun iv wr => XRel w xs ys ys.length (.slice (some ⟨w.heap.size, 0, none⟩) ys.length ys.length) iv wr) (fun iv _ => ys.length - (intOf iv).toNat)
  case atStart => exact ⟨0, Nat.zero_le _, rfl, HO1.out, E2.out⟩
  case round =>
   obtain ⟨k, hk, rfl, hown, hex⟩ := hrel
   have HOW := Lib.hid hown; have HE := Lib.hid hex; clear hown hex
   by_cases hlt : k < ys.length
   ·obtain ⟨b, ob, rfl, _, hcell⟩ := (HA.out.ext HE.out).2.2 (by omega)
    have a0 := hcell k (by omega)
    have y0 : wr.cell? ⟨w.heap.size, k, none⟩ = some (.int .u8 (ys.getD k 0 : Nat)) := by
     rw [HOW.out.cellAt _ (by omega), c8_at (by rw [mixK_len]; omega), mixK_at k xs ys k (by omega), if_neg (by omega)]
    have f0 := HOW.out.frozenAt k
    clear hcell
    have HXR := Lib.hid (xor8 (ys.getD k 0) (xs.getD k 0) (HSY.out k) (HSX.out k))
    have HMS := Lib.hid (mixK_succ k xs ys (by omega))
    have k0 : (0 : Int) ≤ (k : Int) := by omega
    have k1 : (k : Int) < (xs.length : Int) := by omega
    have k2 : (k : Int) < (ys.length : Int) := by omega
    have k3 : (k : Int) < (ys.length : Int) := by omega
    generalize xs.getD k 0 = xk at *
    generalize ys.getD k 0 = yk at *
    go_wp2_with fail
    go_region
    rw [HXR.out]
    go_wp2_with fail
    go_roundw
    case rel =>
     have hst := (HOW.out.stored k (.int .u8 ((yk ^^^ xk : Nat) : Int))).1
     refine ⟨k + 1, by omega, by go_num, ?_, ext_drew (ext_set HE.out (Nat.le_refl _) _)⟩
     have e : c8 (mixK (k + 1) xs ys) = (c8 (mixK k xs ys)).set k (.int .u8 ((yk ^^^ xk : Nat) : Int)) := by rw [HMS.out]; unfold c8; rw [List.map_set]
     rw [e]; exact hst.drew
    case measure => simp [intOf]; omega
   ·have hkm : k = ys.length := by omega
    have k3 : ¬ (k : Int) < (ys.length : Int) := by omega
    have HF : Hid (Wire.Own w wr (.slice (some ⟨w.heap.size, 0, none⟩) (mix xs ys).length (mix xs ys).length) (mix xs ys)) := Lib.hid (by
     have hl : (mix xs ys).length = ys.length := mixK_len _ _ _
     have := HOW.out
     rw [hkm, HMX.out] at this
     unfold Wire.Own
     rw [hl]; exact this)
    have HL : Hid ((mix xs ys).length = ys.length) := Lib.hid (mixK_len _ _ _)
    clear hkm
    go_wp2_with fail
    go_ret
    exact ⟨w.heap.size, by rw [HL.out]; rfl, Nat.le_refl _, HF.out, HE.out⟩
end Go.Proofs.YtidnboeihkeljaaGreatDoor.Delta
namespace Go.Proofs.YtidnboeihkeljaaGreatDoor.Delta
open Wire
def zr : List Nat → Nat
 | [] => 0
 | c :: cs => if c = 0 then zr cs + 1 else 0
theorem zr_le (l : List Nat) : zr l ≤ l.length := by
 induction l with
 | nil => simp [zr]
 | cons c cs ih =>
  rw [zr, List.length_cons]
  split <;> omega
theorem zr_at {xs : List Nat} {k : Nat} (h : k < xs.length) : zr (xs.drop k) = if xs.getD k 0 = 0 then zr (xs.drop (k + 1)) + 1 else 0 := by
 rw [List.drop_eq_getElem_cons h, zr, List.getD_eq_getElem?_getD, List.getElem?_eq_getElem h]; rfl
def ZRel (xs : List Nat) (from_ : Nat) (tv : Value) : Prop := ∃ k : Nat, from_ ≤ k ∧ k ≤ xs.length ∧ tv = .int .i64 (k : Int) ∧ k + zr (xs.drop k) = from_ + zr (xs.drop from_)
theorem zeros (xb n c from_ : Nat) (A : Option Addr) (xs : List Nat) (w : World) (hx : w.cell? ⟨xb, 0, none⟩ = some (.slice A n c)) (hB : Bs w A n xs) (hf : from_ ≤ n) (hn : n ≤ 4000000000) :
  Calls Tryz.prog 129 #[.int .i64 (from_ : Int), .pointer (some ⟨xb, 0, none⟩)] w fun e w' => e = .returned (.int .i64 (zr (xs.drop from_) : Nat)) ∧ w = w' := by
 have hxl : xs.length = n := hB.1
 subst hxl
 have HB := Lib.hid hB; clear hB
 have HZL := Lib.hid (zr_le (xs.drop from_))
 go_enter Tryz.func129, Tryz.ntmps129
 go_wp2_with fail
 go_loop [4] (fun tv => ZRel xs from_ tv) (fun tv => xs.length - (intOf tv).toNat)
 case atStart => exact ⟨from_, Nat.le_refl _, hf, rfl, rfl⟩
 case round =>
  obtain ⟨k, hk1, hk2, rfl, hz⟩ := hrel
  have HZ := Lib.hid hz; clear hz
  have k0 : (0 : Int) ≤ (k : Int) := by omega
  by_cases hlt : k < xs.length
  ·have k1 : (k : Int) < (xs.length : Int) := by omega
   obtain ⟨b, o, rfl, _, hcell⟩ := HB.out.2.2 (by omega)
   have a0 := hcell k hlt
   clear hcell
   have HA := Lib.hid (zr_at hlt)
   by_cases h0 : xs.getD k 0 = 0
   ·have HA2 : Hid (zr (xs.drop k) = zr (xs.drop (k + 1)) + 1) := Lib.hid (by rw [HA.out, if_pos h0])
    rw [h0] at a0
    clear h0
    go_wp2_with fail
    go_round
    case rel => exact ⟨k + 1, by omega, by omega, by go_num, by have := HZ.out; have := HA2.out; omega⟩
    case measure => simp [intOf]; omega
   ·have HA2 : Hid (zr (xs.drop k) = 0) := Lib.hid (by rw [HA.out, if_neg h0])
    have hb : (((xs.getD k 0 : Nat) : Int) == 0) = false := beq_eq_false_iff_ne.2 (by omega)
    have HR : Hid (IntKind.i64.wrap ((k : Int) - (from_ : Int)) = ((zr (xs.drop from_) : Nat) : Int)) := Lib.hid (by rw [IntWalk.i64_in _ (by omega)]; have := HZ.out; have := HA2.out; omega)
    have HR2 : Hid ((k : Int) - (from_ : Int) = ((zr (xs.drop from_) : Nat) : Int)) := Lib.hid (by have := HZ.out; have := HA2.out; omega)
    clear h0
    generalize xs.getD k 0 = xk at *
    go_wp2_with fail
    go_ret
    exact ⟨ret_int HR2.out, rfl⟩
  ·have k1 : ¬ (k : Int) < (xs.length : Int) := by omega
   have HR2 : Hid ((k : Int) - (from_ : Int) = ((zr (xs.drop from_) : Nat) : Int)) := Lib.hid (by
    have := HZ.out
    rw [List.drop_of_length_le (show xs.length ≤ k by omega), zr] at this
    omega)
   go_wp2_with fail
   go_ret
   exact ⟨ret_int HR2.out, rfl⟩
end Go.Proofs.YtidnboeihkeljaaGreatDoor.Delta
namespace Go.Proofs.YtidnboeihkeljaaGreatDoor.Delta
open Wire
def lit : List Nat → Nat
 | [] => 0
 | c :: cs => if 4 ≤ zr (c :: cs) ∨ zr (c :: cs) = (c :: cs).length then 0 else lit cs + 1
theorem lit_le (l : List Nat) : lit l ≤ l.length := by
 induction l with
 | nil => simp [lit]
 | cons c cs ih =>
  rw [lit, List.length_cons]
  split <;> omega
theorem lit_stop {l : List Nat} (h : 4 ≤ zr l ∨ zr l = l.length) : lit l = 0 := by
 cases l with
 | nil => rfl
 | cons c cs => rw [lit, if_pos h]
theorem zr_drop (l : List Nat) : ∀ n, n ≤ zr l → zr (l.drop n) = zr l - n := by
 induction l with
 | nil => intro n h; simp [zr]
 | cons c cs ih =>
  intro n h
  cases n with
  | zero => simp
  | succ n =>
   rw [zr] at h
   by_cases hc : c = 0
   ·rw [if_pos hc] at h
    rw [List.drop_succ_cons, ih n (by omega), zr, if_pos hc]
    omega
   ·rw [if_neg hc] at h; omega
theorem zr_full {l : List Nat} (h : zr l < l.length) : l.drop (zr l) ≠ [] ∧ zr (l.drop (zr l)) = 0 := by
 refine ⟨fun e => ?_, by rw [zr_drop l _ (Nat.le_refl _)]; omega⟩
 have := congrArg List.length e
 rw [List.length_drop] at this
 simp at this
 omega
theorem lit_jump (l : List Nat) : ∀ n, zr l = n → n < 4 → n < l.length → lit l = n + 1 + lit (l.drop (n + 1)) := by
 induction l with
 | nil => intro n _ _ h; simp at h
 | cons c cs ih =>
  intro n hz h4 hl
  have hstop : ¬ (4 ≤ zr (c :: cs) ∨ zr (c :: cs) = (c :: cs).length) := by omega
  rw [lit, if_neg hstop]
  cases n with
  | zero => rw [List.drop_succ_cons, List.drop_zero]; omega
  | succ n =>
   rw [zr] at hz
   by_cases hc : c = 0
   ·rw [if_pos hc] at hz
    rw [ih n (by omega) (by omega) (by rw [List.length_cons] at hl; omega), List.drop_succ_cons]
    omega
   ·rw [if_neg hc] at hz; omega
theorem lit_pos {l : List Nat} (h : zr l = 0) (hl : l ≠ []) : 0 < lit l := by
 have hp : 0 < l.length := List.length_pos_iff.2 hl
 rw [lit_jump l 0 h (by omega) hp]
 omega
def enc (l : List Nat) : List Nat :=
 if h : zr l < l.length then
  vb (zr l) ++ vb (lit (l.drop (zr l))) ++ (l.drop (zr l)).take (lit (l.drop (zr l))) ++ enc (l.drop (zr l + lit (l.drop (zr l))))
 else []
termination_by l.length
decreasing_by
 have h1 := zr_full h
 have h2 := lit_pos h1.2 h1.1
 rw [List.length_drop]
 omega
theorem enc_stop {l : List Nat} (h : ¬ zr l < l.length) : enc l = [] := by rw [enc, dif_neg h]
theorem enc_more {l : List Nat} (h : zr l < l.length) : enc l = vb (zr l) ++ vb (lit (l.drop (zr l))) ++ (l.drop (zr l)).take (lit (l.drop (zr l))) ++ enc (l.drop (zr l + lit (l.drop (zr l)))) := by rw [enc, dif_pos h]
def diff (xs ys : List Nat) : List Nat := vb ys.length ++ enc (mix xs ys)
theorem take_small {l : List Nat} (h : ∀ c ∈ l, c < 256) (n : Nat) : ∀ c ∈ l.take n, c < 256 := fun c hc => h c (List.mem_of_mem_take hc)
theorem enc_small (k : Nat) : ∀ l : List Nat, l.length ≤ k → (∀ c ∈ l, c < 256) → ∀ c ∈ enc l, c < 256 := by
 induction k with
 | zero =>
  intro l hl _ c hc
  rw [enc_stop (by omega)] at hc; simp at hc
 | succ k ih =>
  intro l hl hb c hc
  by_cases h : zr l < l.length
  ·have h1 := zr_full h
   have h2 := lit_pos h1.2 h1.1
   rw [enc_more h] at hc
   simp only [List.mem_append] at hc
   rcases hc with ((hc | hc) | hc) | hc
   ·exact vb_mem _ c hc
   ·exact vb_mem _ c hc
   ·exact take_small (fun d hd => hb d (List.mem_of_mem_drop hd)) _ c hc
   ·exact ih _ (by rw [List.length_drop]; omega) (fun d hd => hb d (List.mem_of_mem_drop hd)) c hc
  ·rw [enc_stop h] at hc; simp at hc
end Go.Proofs.YtidnboeihkeljaaGreatDoor.Delta
namespace Go.Proofs.YtidnboeihkeljaaGreatDoor.Delta
open Wire
theorem lit_end (l : List Nat) : 4 ≤ zr (l.drop (lit l)) ∨ zr (l.drop (lit l)) = (l.drop (lit l)).length := by
 induction l with
 | nil => right; simp [zr]
 | cons c cs ih =>
  by_cases h : 4 ≤ zr (c :: cs) ∨ zr (c :: cs) = (c :: cs).length
  ·rw [lit_stop h, List.drop_zero]; exact h
  ·rw [lit, if_neg h, List.drop_succ_cons]; exact ih
theorem vb_two {n : Nat} (h : n < 16384) : (vb n).length ≤ 2 := vb_len 1 n (by omega)
theorem vb_one {n : Nat} (h : n < 128) : (vb n).length = 1 := by rw [vb_small h]; rfl
theorem enc_len (k : Nat) : ∀ l : List Nat, l.length ≤ k → l.length < 16384 → (enc l).length ≤ l.length + 3 ∧ (4 ≤ zr l ∨ zr l = l.length → (enc l).length ≤ l.length) := by
 induction k with
 | zero =>
  intro l hl _
  rw [enc_stop (by omega)]
  simp
 | succ k ih =>
  intro l hl hb
  by_cases h : zr l < l.length
  ·have h1 := zr_full h
   have h2 := lit_pos h1.2 h1.1
   have h3 := lit_le (l.drop (zr l))
   have h4 := lit_end (l.drop (zr l))
   rw [List.drop_drop] at h4
   have h5 := (ih (l.drop (zr l + lit (l.drop (zr l)))) (by rw [List.length_drop]; omega) (by rw [List.length_drop]; omega)).2 h4
   rw [List.length_drop] at h3 h5
   rw [enc_more h]
   simp only [List.length_append, List.length_take, List.length_drop]
   have v1 := vb_two (n := zr l) (by omega)
   have v2 := vb_two (n := lit (l.drop (zr l))) (by omega)
   have v0 : zr l < 4 → (vb (zr l)).length = 1 := fun hz => vb_one (by omega)
   have hmin : min (lit (l.drop (zr l))) (l.length - zr l) = lit (l.drop (zr l)) := Nat.min_eq_left h3
   rw [hmin]
   refine ⟨?_, fun hz => ?_⟩
   ·by_cases hz : zr l < 4
    ·have := v0 hz; omega
    ·omega
   ·omega
  ·rw [enc_stop h]
   simp
theorem mix_len (xs ys : List Nat) : (mix xs ys).length = ys.length := mixK_len _ _ _
theorem diff_len (xs ys : List Nat) (h : ys.length ≤ 3000) : (diff xs ys).length ≤ ys.length + 2 * (ys.length / 5) + 12 := by
 unfold diff
 have h1 := (enc_len _ (mix xs ys) (Nat.le_refl _) (by rw [mix_len]; omega)).1
 have h2 := vb_two (n := ys.length) (by omega)
 rw [mix_len] at h1
 rw [List.length_append]
 omega
theorem list_ext_getD {xs ys : List Nat} (hl : xs.length = ys.length) (h : ∀ j, j < ys.length → xs.getD j 0 = ys.getD j 0) : xs = ys := by
 apply List.ext_getElem?
 intro j
 rcases Nat.lt_or_ge j ys.length with hj | hj
 ·have := h j hj
  rw [List.getD_eq_getElem?_getD, List.getD_eq_getElem?_getD, List.getElem?_eq_getElem hj, List.getElem?_eq_getElem (by omega)] at this
  rw [List.getElem?_eq_getElem hj, List.getElem?_eq_getElem (by omega)]
  exact congrArg some this
 ·rw [List.getElem?_eq_none (by omega), List.getElem?_eq_none hj]
theorem mix_at (xs ys : List Nat) (j : Nat) (hj : j < ys.length) : (mix xs ys).getD j 0 = if j < xs.length then ys.getD j 0 ^^^ xs.getD j 0 else ys.getD j 0 := mixK_at _ xs ys j hj
theorem mix_mix (xs ys : List Nat) : mix xs (mix xs ys) = ys :=
 list_ext_getD (by rw [mix_len, mix_len]) (fun j hj => by
  rw [mix_at _ _ j (by rw [mix_len]; exact hj), mix_at _ _ j hj]
  by_cases h : j < xs.length
  ·rw [if_pos h, if_pos h, Nat.xor_assoc, Nat.xor_self, Nat.xor_zero]
  ·rw [if_neg h, if_neg h])
theorem mix_small {xs ys : List Nat} (hx : ∀ j, xs.getD j 0 < 256) (hy : ∀ j, ys.getD j 0 < 256) : ∀ j, (mix xs ys).getD j 0 < 256 := mixK_small _ hx hy
theorem diff_small {xs ys : List Nat} (hx : ∀ j, xs.getD j 0 < 256) (hy : ∀ j, ys.getD j 0 < 256) : ∀ j, (diff xs ys).getD j 0 < 256 :=
 small_app (vb_byte _) (small_mem (enc_small _ _ (Nat.le_refl _) (mem_small (mix_small hx hy))))
end Go.Proofs.YtidnboeihkeljaaGreatDoor.Delta
namespace Go.Proofs.YtidnboeihkeljaaGreatDoor.Delta
open Wire

theorem zr_take (l : List Nat) : l.take (zr l) = List.replicate (zr l) 0 := by
 induction l with
 | nil => rfl
 | cons c cs ih =>
  rw [zr]
  by_cases h : c = 0
  ·rw [if_pos h, List.take_succ_cons, List.replicate_succ, ih, h]
  ·rw [if_neg h]; rfl
def lay (x : List Nat) (i : Nat) (ys : List Nat) : List Nat := x.take i ++ ys ++ x.drop (i + ys.length)
def pcs (at_ : Nat) (l : List Nat) : List (Nat × List Nat) :=
 if h : zr l < l.length then
  (at_ + zr l, (l.drop (zr l)).take (lit (l.drop (zr l)))) :: pcs (at_ + (zr l + lit (l.drop (zr l)))) (l.drop (zr l + lit (l.drop (zr l))))
 else []
termination_by l.length
decreasing_by
 have h1 := zr_full h
 have h2 := lit_pos h1.2 h1.1
 rw [List.length_drop]
 omega
theorem pcs_stop {at_ : Nat} {l : List Nat} (h : ¬ zr l < l.length) : pcs at_ l = [] := by rw [pcs, dif_neg h]
theorem pcs_more {at_ : Nat} {l : List Nat} (h : zr l < l.length) : pcs at_ l = (at_ + zr l, (l.drop (zr l)).take (lit (l.drop (zr l)))) :: pcs (at_ + (zr l + lit (l.drop (zr l)))) (l.drop (zr l + lit (l.drop (zr l)))) := by rw [pcs, dif_pos h]
theorem rep_add (a b : Nat) : List.replicate (a + b) (0 : Nat) = List.replicate a 0 ++ List.replicate b 0 := List.replicate_append_replicate.symm
theorem lay_zeros (pre L : List Nat) (z n : Nat) : lay (pre ++ List.replicate (z + (L.length + n)) 0) (pre.length + z) L = pre ++ (List.replicate z 0 ++ L) ++ List.replicate n 0 := by
 unfold lay
 rw [rep_add, rep_add]
 have e1 : (pre ++ (List.replicate z 0 ++ (List.replicate L.length 0 ++ List.replicate n 0))).take (pre.length + z) = pre ++ List.replicate z 0 := by
  rw [← List.append_assoc, List.take_left' (by simp)]
 have e2 : (pre ++ (List.replicate z 0 ++ (List.replicate L.length 0 ++ List.replicate n 0))).drop (pre.length + z + L.length) = List.replicate n 0 := by
  rw [← List.append_assoc, ← List.append_assoc, List.drop_left' (by simp; omega)]
 rw [e1, e2]
 simp only [List.append_assoc]
theorem fill (k : Nat) : ∀ (l pre : List Nat), l.length ≤ k → (pcs pre.length l).foldl (fun x p => lay x p.1 p.2) (pre ++ List.replicate l.length 0) = pre ++ l := by
 induction k with
 | zero =>
  intro l pre hl
  obtain rfl : l = [] := List.eq_nil_of_length_eq_zero (by omega)
  rw [pcs_stop (by simp)]; rfl
 | succ k ih =>
  intro l pre hl
  by_cases h : zr l < l.length
  ·have h1 := zr_full h
   have h2 := lit_pos h1.2 h1.1
   have h3 := lit_le (l.drop (zr l))
   have hL : ((l.drop (zr l)).take (lit (l.drop (zr l)))).length = lit (l.drop (zr l)) := by rw [List.length_take]; omega
   have hsplit : l = List.replicate (zr l) 0 ++ (l.drop (zr l)).take (lit (l.drop (zr l))) ++ l.drop (zr l + lit (l.drop (zr l))) := by
    rw [← zr_take, List.append_assoc, ← List.drop_drop, List.take_append_drop, List.take_append_drop]
   have hrest : (l.drop (zr l + lit (l.drop (zr l)))).length = l.length - (zr l + lit (l.drop (zr l))) := List.length_drop
   rw [List.length_drop] at h3
   have hlen : l.length = zr l + (((l.drop (zr l)).take (lit (l.drop (zr l)))).length + (l.drop (zr l + lit (l.drop (zr l)))).length) := by rw [hL, hrest]; omega
   rw [pcs_more h, List.foldl_cons]
   have hstep := lay_zeros pre ((l.drop (zr l)).take (lit (l.drop (zr l)))) (zr l) (l.drop (zr l + lit (l.drop (zr l)))).length
   rw [← hlen] at hstep
   rw [hstep]
   have := ih (l.drop (zr l + lit (l.drop (zr l)))) (pre ++ (List.replicate (zr l) 0 ++ (l.drop (zr l)).take (lit (l.drop (zr l))))) (by rw [hrest]; omega)
   have hpl : (pre ++ (List.replicate (zr l) 0 ++ (l.drop (zr l)).take (lit (l.drop (zr l))))).length = pre.length + (zr l + lit (l.drop (zr l))) := by
    rw [List.length_append, List.length_append, List.length_replicate, hL]
   rw [hpl] at this
   rw [this]
   conv => rhs; rw [hsplit]
   simp only [List.append_assoc]
  ·have hz : zr l = l.length := by have := zr_le l; omega
   rw [pcs_stop h]
   show pre ++ List.replicate l.length 0 = pre ++ l
   have := zr_take l
   rw [hz, List.take_length] at this
   rw [← this]
end Go.Proofs.YtidnboeihkeljaaGreatDoor.Delta
