/- Contracts of package wire: what puts. -/
import Derived.Test.YtodmjkhfckokhaaRows
import Derived.Test.YtodmjkhfckokhaaWireM
import Derived.LoopTactic
import Derived.IntWalk
namespace Go.Proofs.Ytodmjkhfckokhaa.Wire
open Go.ChangeShapes Go.WideShapes Go.ChangeAt Go.RowKit
set_option linter.unusedVariables false

theorem info8 : (Try.prog.info? 5).map (fun i => (i.zero, i.size, i.bytes)) = some (some (.int .u8 0), 1, 1) := by kernel_rfl
/-- A row of bytes that was made since W. -/
def Own (W w : World) (v : Value) (zs : List Nat) : Prop := w.ownsRow W.heap.size 5 1 v zs.length (c8 zs)
/-- One that may be appended to without a change of what was. -/
def Acc (W w : World) (v : Value) (zs : List Nat) : Prop := (∃ A, v = .slice A zs.length zs.length ∧ Bs w A zs.length zs) ∨ Own W w v zs
theorem own_ext {w w' : World} {base : Nat} {e : TypeId} {size n : Nat} {v : Value} {xs : List Value} (h : w.ownsRow base e size v n xs) (hb : Ext w w') : w'.ownsRow base e size v n xs :=
  h.kept (row := none) ⟨hb.os, hb.tape, hb.output, hb.size, fun k hk _ => hb.block k hk⟩ (by cases hv : v.ownBlock <;> simp)
theorem Own.ext {W w w' : World} {v : Value} {zs : List Nat} (h : Own W w v zs) (hb : Ext w w') : Own W w' v zs := own_ext h hb
theorem Acc.ext {W w w' : World} {v : Value} {zs : List Nat} (h : Acc W w v zs) (hb : Ext w w') : Acc W w' v zs := by
  rcases h with ⟨A, e, h⟩ | h
  · exact .inl ⟨A, e, h.ext hb⟩
  · exact .inr (h.ext hb)
/-- Something is appended. -/
theorem wpList_acc {W w : World} {ops : Array Oper} {rest : List Oper} {o : Oper} {a : Act} {Q : Exit → Act → World → Prop} (hgd : o.guard = none) (s x : Operand) (tx : TypeId)
    (ho : o.op = .call { callee := .builtin .append, args := #[s, x], argTypes := #[22, tx] }) (v vx : Value) (zs ys : List Nat) (hs : a.eval s = v) (hx : a.eval x = vx) (hA : Acc W w v zs) (hE : Ext W w)
    (hsrc : Src Try.prog 1 tx vx ys.length (c8 ys) w) (hy : 0 < ys.length) (hb : zs.length + ys.length ≤ 140737488355328)
    (h : ∀ v' w', Own W w' v' (zs ++ ys) → Ext W w' → wpList Try.prog ops Q rest (a.put o.dst v') w') : wpList Try.prog ops Q (o :: rest) a w := by
  obtain ⟨i0, hi0, hz0, hz1, hz2⟩ := info_parts info8
  have h1 : zs.length + ys.length ≤ maxLen := by unfold maxLen; omega
  rcases hA with ⟨A, rfl, hB⟩ | hO
  · refine wpList_app_grow hgd s x 22 tx ho 5 i0 (.int .u8 0) 1 1 Try.underlying22 hi0 hz0 hz1 hz2 rfl W.heap.size A zs.length zs.length vx (c8 zs) hs hx (by rw [c8_len, Nat.mul_one]) (hB.first _) ys.length (c8 ys) hsrc (by omega) h1 (by omega) hE.size ?_
    intro v' w' h2 h3
    exact h v' w' (by unfold Own; rw [List.length_append, c8_app]; exact h2) (ext_trans hE h3)
  · refine wpList_app_own hgd s x 22 tx ho 5 i0 (.int .u8 0) 1 1 Try.underlying22 hi0 hz0 hz1 hz2 rfl W.heap.size v vx zs.length (c8 zs) hs hx hO ys.length (c8 ys) hsrc h1 (by omega) hE.size ?_
    intro v' w' h2 h3
    exact h v' w' (by unfold Own; rw [List.length_append, c8_app]; exact h2) (ext_grown hE h3 (own_ge hO))
/-- Something, or nothing, is appended to a row that was made since W. -/
theorem wpList_own {W w : World} {ops : Array Oper} {rest : List Oper} {o : Oper} {a : Act} {Q : Exit → Act → World → Prop} (hgd : o.guard = none) (s x : Operand) (tx : TypeId)
    (ho : o.op = .call { callee := .builtin .append, args := #[s, x], argTypes := #[22, tx] }) (v vx : Value) (zs ys : List Nat) (hs : a.eval s = v) (hx : a.eval x = vx) (hO : Own W w v zs) (hE : Ext W w)
    (hsrc : Src Try.prog 1 tx vx ys.length (c8 ys) w) (hb : zs.length + ys.length ≤ 140737488355328)
    (h : ∀ v' w', Own W w' v' (zs ++ ys) → Ext W w' → wpList Try.prog ops Q rest (a.put o.dst v') w') : wpList Try.prog ops Q (o :: rest) a w := by
  obtain ⟨i0, hi0, hz0, hz1, hz2⟩ := info_parts info8
  have h1 : zs.length + ys.length ≤ maxLen := by unfold maxLen; omega
  refine wpList_app_own hgd s x 22 tx ho 5 i0 (.int .u8 0) 1 1 Try.underlying22 hi0 hz0 hz1 hz2 rfl W.heap.size v vx zs.length (c8 zs) hs hx hO ys.length (c8 ys) hsrc h1 (by omega) hE.size ?_
  intro v' w' h2 h3
  exact h v' w' (by unfold Own; rw [List.length_append, c8_app]; exact h2) (ext_grown hE h3 (own_ge hO))
/-- What a put answers. -/
def Puts (w : World) (zs : List Nat) (e : Ending) (w' : World) : Prop :=
  ∃ g c, e = .returned (.slice (some ⟨g, 0, none⟩) zs.length c) ∧ zs.length ≤ c ∧ c ≤ maxLen ∧ w.heap.size ≤ g ∧ Own w w' (.slice (some ⟨g, 0, none⟩) zs.length c) zs ∧ Ext w w'
theorem puts_of {w w' : World} {zs : List Nat} {v : Value} (h : Own w w' v zs) (hE : Ext w w') (hp : 0 < zs.length) : Puts w zs (.returned v) w' := by
  obtain ⟨A, c, rfl, h1, h2, h3⟩ := own_shape h
  obtain ⟨g, rfl, h4⟩ := h3 hp
  exact ⟨g, c, rfl, h1, h2, h4, h, hE⟩
theorem apart_any (A : Option Addr) (n c : Nat) (w : World) (hnil : A = none → n = 0 ∧ c = 0) (hn : n ≤ c) (hc : c ≤ 9223372036854775807) : Calls Try.prog 39 #[.slice A n c] w fun e w' => e = .returned (.slice A n n) ∧ w = w' := by
  rcases A with _ | a
  · obtain ⟨rfl, rfl⟩ := hnil rfl
    clear hnil
    go_enter Try.func39, Try.ntmps39
    go_wp2
    go_ret
    exact ⟨rfl, rfl⟩
  · clear hnil
    go_enter Try.func39, Try.ntmps39
    go_wp2
    go_ret
    exact ⟨rfl, rfl⟩
theorem or_eq : ∀ x : Nat, x < 256 → bits BinOp.or IntKind.u8 (x : Int) 128 = ((x % 128 + 128 : Nat) : Int) := by decide +kernel
def PRel (W : World) (xs : List Nat) (n0 : Nat) (bv nv : Value) (wr : World) : Prop :=
  ∃ (ys : List Nat) (m : Nat), ys ++ vb m = vb n0 ∧ m ≤ n0 ∧ nv = .int .u64 (m : Int) ∧ Acc W wr bv (xs ++ ys) ∧ Ext W wr
theorem src_one (w : World) (y : Nat) : Src Try.prog 1 22 (.slice (some ⟨w.heap.size, 0, none⟩) 1 1) [y].length (c8 [y]) (w.alloc (.cells #[.int .u8 (y : Int)] 5)) :=
  Src.ofSlice _ Try.underlying22 _ 1 1 _ (by simp [c8]) (fun j u hu => by
    obtain ⟨hj, rfl⟩ := c8_get hu
    have : j = 0 := by simpa using hj
    subst this
    have hadd : (⟨w.heap.size, 0, none⟩ : Addr).add 0 = ⟨w.heap.size, 0, none⟩ := rfl
    rw [hadd]; simp) (c8_one _)
set_option maxHeartbeats 2000000 in
set_option maxRecDepth 100000 in
theorem put (A : Option Addr) (n c : Nat) (xs : List Nat) (n0 : Nat) (h0 : n0 < 18446744073709551616) (w : World) (hB : Bs w A n xs) (hnil : A = none → n = 0 ∧ c = 0) (hn : n ≤ c) (hc : c ≤ 9223372036854775807) (hn4 : n ≤ 4000000000) :
    Calls Try.prog 12 #[.slice A n c, .int .u64 (n0 : Int)] w (Puts w (xs ++ vb n0)) := by
  have h10 := vb_ten h0
  have HP := Lib.hid (vb_pos n0)
  have HAC : Hid (Acc w w (.slice A n n) (xs ++ [])) := Lib.hid (by rw [List.append_nil]; exact .inl ⟨A, by rw [hB.1], by rw [hB.1]; exact hB⟩)
  have hxl : xs.length ≤ 4000000000 := by rw [hB.1]; exact hn4
  have HCT := Lib.hid (apart_any A n c w hnil hn hc)
  clear h0 hB hnil hn hc hn4
  go_enter Try.func12, Try.ntmps12
  go_wp2_with fail
  refine (HCT.out).mono ?_
  rintro e w1 ⟨rfl, rfl⟩
  go_wp2_with fail
  go_loopw [0, 1] (fun bv nv wr => PRel w xs n0 bv nv wr) (fun _ nv _ => (intOf nv).toNat)
  case atStart => exact ⟨[], n0, rfl, Nat.le_refl _, rfl, HAC.out, Ext.rfl' _⟩
  case round =>
    obtain ⟨ys, m, hj, hm, rfl, hacc, ex⟩ := hrel
    have hlen : ys.length ≤ 9 := by
      have := congrArg List.length hj
      rw [List.length_append] at this
      have := vb_pos m
      omega
    have HJ := Lib.hid hj; clear hj
    have HAC := Lib.hid hacc; clear hacc
    have HE := Lib.hid ex; clear ex
    have HL : Hid ((xs ++ ys).length + 1 ≤ 140737488355328) := Lib.hid (by rw [List.length_append]; omega)
    by_cases hlt : m < 128
    · have HAC2 := Lib.hid (HAC.out.ext (ext_alloc (Ext.rfl' _) (.cells #[.int .u8 (m : Int)] 5)))
      have HE2 := Lib.hid (ext_alloc HE.out (.cells #[.int .u8 (m : Int)] 5))
      have HF : Hid (xs ++ ys ++ [m] = xs ++ vb n0) := Lib.hid (by rw [List.append_assoc, ← HJ.out, vb_small hlt])
      go_wp2_with (first | (at_builtin; refine wpList_acc (W := w) rfl (.tmp 17) (.tmp 20) 22 rfl u0 (.slice (some ⟨wr.heap.size, 0, none⟩) 1 1) (xs ++ ys) [m] rfl rfl HAC2.out HE2.out (src_one wr m) (Nat.zero_lt_one) HL.out ?_; intro v1 w1 hown1 hE1))
      rw [HF.out] at hown1
      go_ret
      exact puts_of hown1 hE1 (by rw [List.length_append]; have := HP.out; omega)
    · obtain ⟨yb, hyb⟩ : ∃ y, y = m % 128 + 128 := ⟨_, rfl⟩
      have e1 : bits BinOp.or IntKind.u8 ((m : Int) % 256) 128 = (yb : Int) := by
        have := or_eq (m % 256) (by omega)
        rw [show m % 256 % 128 = m % 128 from by omega, ← hyb] at this
        rw [← this]; rfl
      have HY := Lib.hid hyb; clear hyb
      have HAC2 := Lib.hid (HAC.out.ext (ext_alloc (Ext.rfl' _) (.cells #[.int .u8 (yb : Int)] 5)))
      have HE2 := Lib.hid (ext_alloc HE.out (.cells #[.int .u8 (yb : Int)] 5))
      have HF : Hid ((ys ++ [yb]) ++ vb (m / 128) = vb n0) := Lib.hid (by rw [List.append_assoc, ← HJ.out, vb_more hlt, HY.out]; rfl)
      go_wp2_with (first | (at_builtin; refine wpList_acc (W := w) rfl (.tmp 9) (.tmp 13) 22 rfl u0 (.slice (some ⟨wr.heap.size, 0, none⟩) 1 1) (xs ++ ys) [yb] rfl rfl HAC2.out HE2.out (src_one wr yb) (Nat.zero_lt_one) HL.out ?_; intro v1 w1 hown1 hE1))
      go_roundw
      case rel => exact ⟨ys ++ [yb], m / 128, HF.out, by omega, by go_num, .inr (by rw [← List.append_assoc]; exact hown1), hE1⟩
      case measure => simp [intOf]; omega
theorem slice_nil (w : World) (zs : List Nat) : Bs w none 0 [] := Bs.none w none
/-- Behind a put: what it has put reads so. -/
theorem Own.bs {W w : World} {A : Option Addr} {c : Nat} {zs : List Nat} (h : Own W w (.slice A zs.length c) zs) (hz : ∀ j, zs.getD j 0 < 256) : Bs w A zs.length zs := Bs.own h hz
theorem xor64 (a b : Nat) : bits .xor .u64 (a : Int) (b : Int) = ((BitVec.ofNat 64 a ^^^ BitVec.ofNat 64 b).toNat : Int) := by
  show IntKind.u64.wrap ((BitVec.ofInt 64 (a : Int) ^^^ BitVec.ofInt 64 (b : Int)).toNat : Int) = _
  rw [BitVec.ofInt_natCast, BitVec.ofInt_natCast]
  have := (BitVec.ofNat 64 a ^^^ BitVec.ofNat 64 b).isLt
  rw [IntKind.wrap_u64]
  omega
theorem zz_eq (m : Int) (h1 : -9223372036854775808 ≤ m) (h2 : m ≤ 9223372036854775807) :
    bits BinOp.xor IntKind.u64 (IntKind.u64.wrap (IntKind.u64.wrap m * 2)) (IntKind.u64.wrap (m / 9223372036854775808)) = (zz m : Int) := by
  have e : zz m = (if 0 ≤ m then 2 * m else -2 * m - 1).toNat := rfl
  simp only [IntKind.wrap_u64]
  by_cases h : 0 ≤ m
  · rw [if_pos h] at e
    have a1 : m % 18446744073709551616 * 2 % 18446744073709551616 = ((2 * m).toNat : Int) := by omega
    have a2 : m / 9223372036854775808 % 18446744073709551616 = ((0 : Nat) : Int) := by omega
    rw [a1, a2, xor64, e]
    rw [show BitVec.ofNat 64 0 = 0#64 from rfl, BitVec.xor_zero, BitVec.toNat_ofNat]
    omega
  · rw [if_neg h] at e
    have a1 : m % 18446744073709551616 * 2 % 18446744073709551616 = ((2 * m + 18446744073709551616).toNat : Int) := by omega
    have a2 : m / 9223372036854775808 % 18446744073709551616 = ((18446744073709551615 : Nat) : Int) := by omega
    rw [a1, a2, xor64, e]
    rw [show BitVec.ofNat 64 18446744073709551615 = BitVec.allOnes 64 from by decide, BitVec.xor_allOnes, BitVec.toNat_not, BitVec.toNat_ofNat]
    omega
set_option maxHeartbeats 1000000 in
theorem putSigned (A : Option Addr) (n c : Nat) (xs : List Nat) (m : Int) (h1 : -9223372036854775808 ≤ m) (h2 : m ≤ 9223372036854775807) (w : World) (hB : Bs w A n xs) (hnil : A = none → n = 0 ∧ c = 0) (hn : n ≤ c) (hc : c ≤ 9223372036854775807) (hn4 : n ≤ 4000000000) :
    Calls Try.prog 13 #[.slice A n c, .int .i64 m] w (Puts w (xs ++ vb (zz m))) := by
  have H := Lib.hid (put A n c xs (zz m) (zz_lt h1 h2) w hB hnil hn hc hn4)
  have HZ := Lib.hid (zz_eq m h1 h2)
  clear hB hnil hn hc hn4
  generalize zz m = z at *
  generalize xs ++ vb z = zs at *
  go_enter Try.func13, Try.ntmps13
  go_wp2_with fail
  rw [HZ.out]
  refine (H.out).mono ?_
  rintro e w1 ⟨g, c1, rfl, hc1, hc2, hg, ho, hE⟩
  have HP : Hid (Puts w zs (.returned (.slice (some ⟨g, 0, none⟩) zs.length c1)) w1) := Lib.hid ⟨g, c1, rfl, hc1, hc2, hg, ho, hE⟩
  clear ho hE hc1 hc2 hg
  go_wp2_with fail
  go_ret
  exact HP.out
set_option maxHeartbeats 1000000 in
theorem putText (A : Option Addr) (n c : Nat) (xs : List Nat) (s : ByteArray) (w : World) (hB : Bs w A n xs) (hnil : A = none → n = 0 ∧ c = 0) (hn : n ≤ c) (hc : c ≤ 9223372036854775807) (hn4 : n ≤ 4000000000) (hs : s.size ≤ 1000000000) :
    Calls Try.prog 15 #[.slice A n c, .string s] w (Puts w (xs ++ vb s.size ++ natsOf s)) := by
  have H := Lib.hid (put A n c xs s.size (by omega) w hB hnil hn hc hn4)
  have HX : Hid (xs.length ≤ 4000000000) := Lib.hid (by rw [hB.1]; exact hn4)
  have HV := Lib.hid (vb_ten (n := s.size) (by omega))
  have HP := Lib.hid (vb_pos s.size)
  clear hB hnil hn hc hn4
  go_enter Try.func15, Try.ntmps15
  go_wp2_with fail
  refine (H.out).mono ?_
  rintro e w1 ⟨g, c1, rfl, hc1, hc2, hg, ho, hE⟩
  have HOW := Lib.hid ho; have HE := Lib.hid hE; clear ho hE
  have HLN : Hid ((xs ++ vb s.size).length + s.size ≤ 140737488355328) := Lib.hid (by rw [List.length_append]; have := HX.out; have := HV.out; omega)
  generalize hzs : xs ++ vb s.size = zs at *
  have HZS := Lib.hid hzs; clear hzs
  have HS : Hid (Src Try.prog 1 9 (.string s) (natsOf s).length (c8 (natsOf s)) w1) := Lib.hid (by rw [natsOf_len, ← byteCells_eq]; exact Src.ofString w1 Try.underlying9 s)
  have HQ : Hid (zs.length + (natsOf s).length ≤ 140737488355328) := Lib.hid (by rw [natsOf_len]; exact HLN.out)
  go_wp2_with (first | (at_builtin; refine wpList_own (W := w) rfl (.tmp 9) (.tmp 10) 9 rfl (.slice (some ⟨g, 0, none⟩) zs.length c1) (.string s) zs (natsOf s) rfl rfl HOW.out HE.out HS.out HQ.out ?_; intro v2 w2 hown2 hE2))
  go_ret
  exact puts_of hown2 hE2 (by rw [← HZS.out, List.length_append, List.length_append]; have := HP.out; omega)
theorem src_row (w : World) (ys : List Nat) (n c : Nat) (hn : n = ys.length) : Src Try.prog 1 22 (.slice (some ⟨w.heap.size, 0, none⟩) n c) ys.length (c8 ys) (w.alloc (.cells (c8 ys).toArray 5)) := by
  subst hn
  exact Src.ofSlice _ Try.underlying22 _ _ c _ (by rw [c8_len, Nat.mul_one]) (fun j u hu => by
    have hadd : (⟨w.heap.size, 0, none⟩ : Addr).add j = ⟨w.heap.size, j, none⟩ := by unfold Addr.add; split <;> simp_all
    rw [hadd]; simpa using hu) (c8_one _)
theorem src_fx (w : World) (m : Nat) : Src Try.prog 1 22 (.slice (some ⟨w.heap.size, 0, none⟩) 4 4) (fx m).length (c8 (fx m)) (w.alloc (.cells #[.int .u8 ((m : Int) / 16777216), .int .u8 ((m : Int) / 65536 % 256), .int .u8 ((m : Int) / 256 % 256), .int .u8 ((m : Int) % 256)] 5)) := by
  have h := src_row w (fx m) 4 4 rfl
  have e : (c8 (fx m)).toArray = #[.int .u8 ((m : Int) / 16777216), .int .u8 ((m : Int) / 65536 % 256), .int .u8 ((m : Int) / 256 % 256), .int .u8 ((m : Int) % 256)] := by simp [c8, fx]
  rwa [e] at h
set_option maxHeartbeats 1000000 in
theorem putFixed (A : Option Addr) (n c : Nat) (xs : List Nat) (m : Nat) (h0 : m < 4294967296) (w : World) (hB : Bs w A n xs) (hnil : A = none → n = 0 ∧ c = 0) (hn : n ≤ c) (hc : c ≤ 9223372036854775807) (hn4 : n ≤ 4000000000) :
    Calls Try.prog 14 #[.slice A n c, .int .u32 (m : Int)] w (Puts w (xs ++ fx m)) := by
  have HAC : Hid (Acc w w (.slice A n n) xs) := Lib.hid (.inl ⟨A, by rw [hB.1], by rw [hB.1]; exact hB⟩)
  have hxl : xs.length ≤ 4000000000 := by rw [hB.1]; exact hn4
  have HCT := Lib.hid (apart_any A n c w hnil hn hc)
  clear hB hnil hn hc hn4
  go_enter Try.func14, Try.ntmps14
  go_wp2_with fail
  refine (HCT.out).mono ?_
  rintro e w1 ⟨rfl, rfl⟩
  have HSR := Lib.hid (src_fx w m)
  have HAC2 := Lib.hid (HAC.out.ext (ext_alloc (Ext.rfl' w) (.cells #[.int .u8 ((m : Int) / 16777216), .int .u8 ((m : Int) / 65536 % 256), .int .u8 ((m : Int) / 256 % 256), .int .u8 ((m : Int) % 256)] 5)))
  have HE2 := Lib.hid (ext_alloc (Ext.rfl' w) (.cells #[.int .u8 ((m : Int) / 16777216), .int .u8 ((m : Int) / 65536 % 256), .int .u8 ((m : Int) / 256 % 256), .int .u8 ((m : Int) % 256)] 5))
  have HQ : Hid (xs.length + (fx m).length ≤ 140737488355328) := Lib.hid (by show xs.length + 4 ≤ _; omega)
  have H4 : Hid (0 < (fx m).length) := Lib.hid (by show 0 < 4; omega)
  generalize fx m = ys at *
  go_wp2_with (first | (at_builtin; refine wpList_acc (W := w) rfl (.tmp 6) (.tmp 18) 22 rfl (.slice A n n) (.slice (some ⟨w.heap.size, 0, none⟩) 4 4) xs ys rfl rfl HAC2.out HE2.out HSR.out H4.out HQ.out ?_; intro v2 w2 hown2 hE2))
  go_ret
  exact puts_of hown2 hE2 (by rw [List.length_append]; have := H4.out; omega)
end Go.Proofs.Ytodmjkhfckokhaa.Wire
