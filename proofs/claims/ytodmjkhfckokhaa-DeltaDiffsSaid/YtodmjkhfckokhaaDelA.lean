/- Contracts of package delta: bytes changed by others. -/
import Derived.Test.YtodmjkhfckokhaaWireB
import Derived.Laws.CopyOwn
import Derived.RegionTactic
import Derived.BigRegion
import Derived.WalkLawsBesides
namespace Go.Proofs.Ytodmjkhfckokhaa.Delta
open Go.ChangeShapes Go.WideShapes Go.ChangeAt Go.RowKit
open Go.Proofs.Ytodmjkhfckokhaa.Wire
set_option linter.unusedVariables false

/-- All of a row of the call's own is copied over. -/
theorem wpList_copy_all {w : World} {ops : Array Oper} {rest : List Oper} {o : Oper} {a : Act} {Q : Exit → Act → World → Prop} (hgd : o.guard = none) (d s : Operand)
    (ho : o.op = .call { callee := .builtin .copy, args := #[d, s], argTypes := #[22, 22] }) (base g n : Nat) (A : Option Addr) (c : Nat) (zs ys : List Nat)
    (hd : a.eval d = .slice (some ⟨g, 0, none⟩) n n) (hs : a.eval s = .slice A n c) (hown : w.ownsRow base 5 1 (.slice (some ⟨g, 0, none⟩) n n) n (c8 zs)) (hB : Bs w A n ys)
    (h : ∀ w', w'.ownsRow base 5 1 (.slice (some ⟨g, 0, none⟩) n n) n (c8 ys) → w.grownBy w' (some g) → wpList Try.prog ops Q rest (a.put o.dst (goInt n)) w') : wpList Try.prog ops Q (o :: rest) a w := by
  have hsz : (Try.prog.info? 5).map (·.size) = some 1 := by kernel_rfl
  have hl : (c8 ys).length = n := by rw [c8_len]; exact hB.1
  rcases Nat.eq_zero_or_pos n with h0 | hp
  · subst h0
    have hy : ys = [] := List.eq_nil_of_length_eq_zero hB.1
    have hz : zs = [] := List.eq_nil_of_length_eq_zero (by have := hown.1; rwa [c8_len, Nat.zero_mul] at this)
    subst hy hz
    refine wpList_copy_nothing hgd d s _ _ ho 5 Try.underlying22 hsz _ _ 0 0 0 c hd hs rfl ?_
    exact h w hown (World.grownBy.refl _ _)
  · obtain ⟨b, ob, rfl, _, hc⟩ := hB.2.2 hp
    rcases hown.2 with ⟨hq, _⟩ | ⟨g', cap, cur, hq, hb, hg, hnc, hcm, hcs, _⟩
    · simp at hq
    · simp only [Value.slice.injEq, Option.some.injEq, Addr.mk.injEq, and_true, true_and] at hq
      obtain ⟨rfl, rfl⟩ := hq
      have hcl : cur.size = n := by rw [hcs, Nat.mul_one]
      have hfin : (cur.toList.take 0 ++ (c8 ys ++ cur.toList.drop (0 + (c8 ys).length))).toArray = (c8 ys).toArray := by
        rw [hl, Nat.zero_add, List.drop_of_length_le (by rw [Array.length_toList, hcl]; exact Nat.le_refl _)]; simp
      refine wpList_copy_own hgd d s _ _ ho 5 Try.underlying22 hsz g 0 n n ⟨b, ob, none⟩ n c hd hs cur 5 hg (c8 ys) (by rw [hl]; exact (Nat.min_self n).symm) (fun j v hv => ?_) (by rw [hl, hcl]; omega) (c8_one ys) ?_
      · obtain ⟨hj, rfl⟩ := c8_get hv
        have hadd : (⟨b, ob, none⟩ : Addr).add j = ⟨b, ob + j, none⟩ := by unfold Addr.add; split <;> simp_all
        rw [hadd]
        exact hc j (by rw [hB.1] at hj; exact hj)
      · rw [hfin, hl]
        refine h _ ⟨by rw [hl, Nat.mul_one], .inr ⟨g, n, _, rfl, hb, setRow_heap w g cur _ _ _ hg, Nat.le_refl _, hcm, by simp [hl], ?_⟩⟩ ⟨rfl, rfl, rfl, by simp [World.setRow], fun k _ hk => setRow_other w g k _ (fun e => hk (by rw [e]))⟩
        rw [Nat.mul_one]
        exact List.take_of_length_le (by simp [hl])
/-- b, the first k bytes changed by a's. -/
def mixK (k : Nat) (xs ys : List Nat) : List Nat := (List.range ys.length).map fun i => if i < k then ys.getD i 0 ^^^ xs.getD i 0 else ys.getD i 0
def mix (xs ys : List Nat) : List Nat := mixK xs.length xs ys
theorem mixK_len (k : Nat) (xs ys : List Nat) : (mixK k xs ys).length = ys.length := by simp [mixK]
theorem mixK_at (k : Nat) (xs ys : List Nat) (j : Nat) (hj : j < ys.length) : (mixK k xs ys).getD j 0 = if j < k then ys.getD j 0 ^^^ xs.getD j 0 else ys.getD j 0 := by
  unfold mixK
  rw [List.getD_eq_getElem?_getD, List.getElem?_map, List.getElem?_range hj]; rfl
theorem mixK_zero (xs ys : List Nat) : mixK 0 xs ys = ys := by
  apply List.ext_getElem?
  intro j
  rcases Nat.lt_or_ge j ys.length with h | h
  · have h1 := mixK_at 0 xs ys j h
    rw [if_neg (by omega), List.getD_eq_getElem?_getD, List.getD_eq_getElem?_getD, List.getElem?_eq_getElem h, List.getElem?_eq_getElem (by rw [mixK_len]; exact h)] at h1
    rw [List.getElem?_eq_getElem h, List.getElem?_eq_getElem (by rw [mixK_len]; exact h)]
    exact congrArg some h1
  · rw [List.getElem?_eq_none h, List.getElem?_eq_none (by rw [mixK_len]; exact h)]
theorem mixK_succ (k : Nat) (xs ys : List Nat) (hk : k < ys.length) : mixK (k + 1) xs ys = (mixK k xs ys).set k (ys.getD k 0 ^^^ xs.getD k 0) := by
  apply List.ext_getElem?
  intro j
  rcases Nat.lt_or_ge j ys.length with h | h
  · have h1 := mixK_at (k + 1) xs ys j h
    have h2 := mixK_at k xs ys j h
    rw [List.getD_eq_getElem?_getD, List.getElem?_eq_getElem (by rw [mixK_len]; exact h)] at h1 h2
    simp only [Option.getD_some] at h1 h2
    rw [List.getElem?_eq_getElem (by rw [mixK_len]; exact h), h1, List.getElem?_set]
    by_cases hkj : k = j
    · subst hkj
      rw [if_pos (show k < k + 1 by omega), if_pos rfl, if_pos (show k < (mixK k xs ys).length by rw [mixK_len]; exact h)]
    · rw [if_neg hkj, List.getElem?_eq_getElem (by rw [mixK_len]; exact h), h2]
      by_cases hj : j < k
      · rw [if_pos hj, if_pos (by omega)]
      · rw [if_neg hj, if_neg (by omega)]
  · rw [List.getElem?_eq_none (by rw [mixK_len]; exact h), List.getElem?_eq_none (by rw [List.length_set, mixK_len]; exact h)]
theorem mixK_small (k : Nat) {xs ys : List Nat} (hx : ∀ j, xs.getD j 0 < 256) (hy : ∀ j, ys.getD j 0 < 256) : ∀ j, (mixK k xs ys).getD j 0 < 256 := fun j => by
  rcases Nat.lt_or_ge j ys.length with h | h
  · rw [mixK_at k xs ys j h]
    split
    · exact Nat.xor_lt_two_pow (n := 8) (hy j) (hx j)
    · exact hy j
  · rw [List.getD_eq_getElem?_getD, List.getElem?_eq_none (by rw [mixK_len]; exact h)]; simp
theorem xor8 (a b : Nat) (ha : a < 256) (hb : b < 256) : bits .xor .u8 (a : Int) (b : Int) = ((a ^^^ b : Nat) : Int) := by
  have h : bits .xor .u8 (a : Int) (b : Int) = IntKind.u8.wrap ((BitVec.ofInt 8 (a : Int) ^^^ BitVec.ofInt 8 (b : Int)).toNat : Int) := rfl
  have hl := Nat.xor_lt_two_pow (n := 8) ha hb
  rw [h, BitVec.ofInt_natCast, BitVec.ofInt_natCast, BitVec.toNat_xor, BitVec.toNat_ofNat, BitVec.toNat_ofNat, Nat.mod_eq_of_lt ha, Nat.mod_eq_of_lt hb, IntKind.wrap_u8]
  omega
theorem mix_min (xs ys : List Nat) (m : Nat) (h : m = xs.length ∨ (m = ys.length ∧ ys.length ≤ xs.length)) : mixK m xs ys = mix xs ys := by
  rcases h with rfl | ⟨rfl, hl⟩
  · rfl
  · unfold mix mixK
    refine List.map_congr_left fun i hi => ?_
    have := List.mem_range.1 hi
    rw [if_pos this, if_pos (by omega)]
def XRel (w : World) (xs ys : List Nat) (m : Nat) (v iv : Value) (wr : World) : Prop :=
  ∃ k : Nat, k ≤ m ∧ iv = .int .i64 (k : Int) ∧ wr.ownsRow w.heap.size 5 1 v ys.length (c8 (mixK k xs ys)) ∧ Ext w wr
/-- What xor comes to. -/
def XPost (w : World) (zs : List Nat) (e : Ending) (w' : World) : Prop :=
  ∃ g, e = .returned (.slice (some ⟨g, 0, none⟩) zs.length zs.length) ∧ w.heap.size ≤ g ∧ Own w w' (.slice (some ⟨g, 0, none⟩) zs.length zs.length) zs ∧ Ext w w'
set_option maxHeartbeats 4000000 in
set_option maxRecDepth 100000 in
theorem xor (A B : Option Addr) (n c n2 c2 : Nat) (xs ys : List Nat) (w : World) (hA : Bs w A n xs) (hB : Bs w B n2 ys) (hn : n ≤ 4000000000) (hn2 : n2 ≤ 4000000000) :
    Calls Try.prog 53 #[.slice A n c, .slice B n2 c2] w (XPost w (mix xs ys)) := by
  obtain ⟨i0, hi0, hz0, hz1, hz2⟩ := info_parts info8
  have hxl : xs.length = n := hA.1
  have hyl : ys.length = n2 := hB.1
  subst hxl hyl
  have HA := Lib.hid hA; have HB := Lib.hid hB; clear hA hB
  have HQ0 : Hid (i0.bytes * ys.length ≤ 281474976710656) := Lib.hid (by rw [hz2]; omega)
  have HQ1 : Hid (ys.length ≤ maxLen) := Lib.hid (by unfold maxLen; omega)
  have HI := Lib.hid (And.intro hi0 (And.intro hz0 hz1)); clear hi0 hz0 hz1 hz2
  have HZ : Hid ((madeCells (Value.int .u8 0).cells (ys.length * 1)).toList = c8 (List.replicate ys.length 0)) := Lib.hid (by
    rw [Nat.mul_one]
    have := toList_madeCells_one (.int .u8 0) ys.length
    rw [show (Value.int .u8 0).cells = #[.int .u8 0] from rfl, this]
    simp [c8])
  by_cases hmin : xs.length ≤ ys.length
  · go_enter Try.func53, Try.ntmps53
    go_wp2_with (first | (at_make; refine wpList_make_full w rfl (.tmp 8) (.tmp 8) 22 rfl w.heap.size 5 i0 (.int .u8 0) 1 Try.underlying22 HI.out.1 HI.out.2.1 HI.out.2.2 .i64 .i64 (ys.length : Int) (ys.length : Int) ys.length rfl rfl rfl rfl HQ0.out HQ1.out (Nat.le_refl _) ?_; intro w1 hown1 hg1; rw [HZ.out] at hown1) | (with_reducible refine wpList_copy_all rfl (.tmp 10) (.tmp 11) rfl w.heap.size w.heap.size ys.length B c2 (List.replicate ys.length 0) ys rfl rfl hown1 (HB.out.ext (ext_grown (Ext.rfl' w) hg1 (fun k hk => by cases hk))) ?_; intro w2 hown2 hg2))
    have HO1 := Lib.hid (show w2.ownsRow w.heap.size 5 1 (.slice (some ⟨w.heap.size, 0, none⟩) ys.length ys.length) ys.length (c8 (mixK 0 xs ys)) by rw [mixK_zero]; exact hown2)
    have E2 := Lib.hid (ext_grown (ext_grown (Ext.rfl' w) hg1 (fun k hk => by cases hk)) hg2 (fun k hk => by obtain rfl := Option.some.inj hk; exact Nat.le_refl _))
    have HMX := Lib.hid (mix_min xs ys xs.length (.inl rfl))
    have HSX := Lib.hid HA.out.2.1
    have HSY := Lib.hid HB.out.2.1
    clear hown1 hg1 hown2 hg2
    go_loopw [18] (fun iv wr => XRel w xs ys xs.length (.slice (some ⟨w.heap.size, 0, none⟩) ys.length ys.length) iv wr) (fun iv _ => xs.length - (intOf iv).toNat)
    case atStart => exact ⟨0, Nat.zero_le _, rfl, HO1.out, E2.out⟩
    case round =>
      obtain ⟨k, hk, rfl, hown, hex⟩ := hrel
      have HOW := Lib.hid hown; have HE := Lib.hid hex; clear hown hex
      by_cases hlt : k < xs.length
      · obtain ⟨b, ob, rfl, _, hcell⟩ := (HA.out.ext HE.out).2.2 (by omega)
        have a0 := hcell k (by omega)
        have y0 : wr.cell? ⟨w.heap.size, k, none⟩ = some (.int .u8 (ys.getD k 0 : Nat)) := by
          rw [HOW.out.cellAt _ (by omega), c8_at (by rw [mixK_len]; omega), mixK_at k xs ys k (by omega), if_neg (by omega)]
        have f0 := HOW.out.frozenAt k
        clear hcell
        have HXR := Lib.hid (xor8 (ys.getD k 0) (xs.getD k 0) (HSY.out k) (HSX.out k))
        have HMS := Lib.hid (mixK_succ k xs ys (by omega))
        have k0 : (0 : Int) ≤ (k : Int) := by omega
        have k1 : (k : Int) < (xs.length : Int) := by omega
        have k2 : (k : Int) < (ys.length : Int) := by omega
        have k3 : (k : Int) < (xs.length : Int) := by omega
        generalize xs.getD k 0 = xk at *
        generalize ys.getD k 0 = yk at *
        go_wp2_with fail
        go_region
        rw [HXR.out]
        go_wp2_with fail
        go_roundw
        case rel =>
          have hst := (HOW.out.stored k (.int .u8 ((yk ^^^ xk : Nat) : Int))).1
          refine ⟨k + 1, by omega, by go_num, ?_, ext_drew (ext_set HE.out (Nat.le_refl _) _)⟩
          have e : c8 (mixK (k + 1) xs ys) = (c8 (mixK k xs ys)).set k (.int .u8 ((yk ^^^ xk : Nat) : Int)) := by rw [HMS.out]; unfold c8; rw [List.map_set]
          rw [e]; exact hst.drew
        case measure => simp [intOf]; omega
      · have hkm : k = xs.length := by omega
        have k3 : ¬ (k : Int) < (xs.length : Int) := by omega
        have HF : Hid (Own w wr (.slice (some ⟨w.heap.size, 0, none⟩) (mix xs ys).length (mix xs ys).length) (mix xs ys)) := Lib.hid (by
          have hl : (mix xs ys).length = ys.length := mixK_len _ _ _
          have := HOW.out
          rw [hkm, HMX.out] at this
          unfold Own
          rw [hl]; exact this)
        have HL : Hid ((mix xs ys).length = ys.length) := Lib.hid (mixK_len _ _ _)
        clear hkm
        go_wp2_with fail
        go_ret
        exact ⟨w.heap.size, by rw [HL.out]; rfl, Nat.le_refl _, HF.out, HE.out⟩
  · go_enter Try.func53, Try.ntmps53
    go_wp2_with (first | (at_make; refine wpList_make_full w rfl (.tmp 8) (.tmp 8) 22 rfl w.heap.size 5 i0 (.int .u8 0) 1 Try.underlying22 HI.out.1 HI.out.2.1 HI.out.2.2 .i64 .i64 (ys.length : Int) (ys.length : Int) ys.length rfl rfl rfl rfl HQ0.out HQ1.out (Nat.le_refl _) ?_; intro w1 hown1 hg1; rw [HZ.out] at hown1) | (with_reducible refine wpList_copy_all rfl (.tmp 10) (.tmp 11) rfl w.heap.size w.heap.size ys.length B c2 (List.replicate ys.length 0) ys rfl rfl hown1 (HB.out.ext (ext_grown (Ext.rfl' w) hg1 (fun k hk => by cases hk))) ?_; intro w2 hown2 hg2))
    have HO1 := Lib.hid (show w2.ownsRow w.heap.size 5 1 (.slice (some ⟨w.heap.size, 0, none⟩) ys.length ys.length) ys.length (c8 (mixK 0 xs ys)) by rw [mixK_zero]; exact hown2)
    have E2 := Lib.hid (ext_grown (ext_grown (Ext.rfl' w) hg1 (fun k hk => by cases hk)) hg2 (fun k hk => by obtain rfl := Option.some.inj hk; exact Nat.le_refl _))
    have HMX := Lib.hid (mix_min xs ys ys.length (.inr ⟨rfl, by omega⟩))
    have HSX := Lib.hid HA.out.2.1
    have HSY := Lib.hid HB.out.2.1
    clear hown1 hg1 hown2 hg2
    go_loopw [18] (fun iv wr => XRel w xs ys ys.length (.slice (some ⟨w.heap.size, 0, none⟩) ys.length ys.length) iv wr) (fun iv _ => ys.length - (intOf iv).toNat)
    case atStart => exact ⟨0, Nat.zero_le _, rfl, HO1.out, E2.out⟩
    case round =>
      obtain ⟨k, hk, rfl, hown, hex⟩ := hrel
      have HOW := Lib.hid hown; have HE := Lib.hid hex; clear hown hex
      by_cases hlt : k < ys.length
      · obtain ⟨b, ob, rfl, _, hcell⟩ := (HA.out.ext HE.out).2.2 (by omega)
        have a0 := hcell k (by omega)
        have y0 : wr.cell? ⟨w.heap.size, k, none⟩ = some (.int .u8 (ys.getD k 0 : Nat)) := by
          rw [HOW.out.cellAt _ (by omega), c8_at (by rw [mixK_len]; omega), mixK_at k xs ys k (by omega), if_neg (by omega)]
        have f0 := HOW.out.frozenAt k
        clear hcell
        have HXR := Lib.hid (xor8 (ys.getD k 0) (xs.getD k 0) (HSY.out k) (HSX.out k))
        have HMS := Lib.hid (mixK_succ k xs ys (by omega))
        have k0 : (0 : Int) ≤ (k : Int) := by omega
        have k1 : (k : Int) < (xs.length : Int) := by omega
        have k2 : (k : Int) < (ys.length : Int) := by omega
        have k3 : (k : Int) < (ys.length : Int) := by omega
        generalize xs.getD k 0 = xk at *
        generalize ys.getD k 0 = yk at *
        go_wp2_with fail
        go_region
        rw [HXR.out]
        go_wp2_with fail
        go_roundw
        case rel =>
          have hst := (HOW.out.stored k (.int .u8 ((yk ^^^ xk : Nat) : Int))).1
          refine ⟨k + 1, by omega, by go_num, ?_, ext_drew (ext_set HE.out (Nat.le_refl _) _)⟩
          have e : c8 (mixK (k + 1) xs ys) = (c8 (mixK k xs ys)).set k (.int .u8 ((yk ^^^ xk : Nat) : Int)) := by rw [HMS.out]; unfold c8; rw [List.map_set]
          rw [e]; exact hst.drew
        case measure => simp [intOf]; omega
      · have hkm : k = ys.length := by omega
        have k3 : ¬ (k : Int) < (ys.length : Int) := by omega
        have HF : Hid (Own w wr (.slice (some ⟨w.heap.size, 0, none⟩) (mix xs ys).length (mix xs ys).length) (mix xs ys)) := Lib.hid (by
          have hl : (mix xs ys).length = ys.length := mixK_len _ _ _
          have := HOW.out
          rw [hkm, HMX.out] at this
          unfold Own
          rw [hl]; exact this)
        have HL : Hid ((mix xs ys).length = ys.length) := Lib.hid (mixK_len _ _ _)
        clear hkm
        go_wp2_with fail
        go_ret
        exact ⟨w.heap.size, by rw [HL.out]; rfl, Nat.le_refl _, HF.out, HE.out⟩
end Go.Proofs.Ytodmjkhfckokhaa.Delta
