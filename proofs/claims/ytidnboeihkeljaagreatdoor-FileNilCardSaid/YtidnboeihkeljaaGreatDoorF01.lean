
import Derived.Test.YtidnboeihkeljaaGreatDoorRows
import Derived.Test.YtidnboeihkeljaaGreatDoorF00
import Derived.LoopTactic
import Derived.IntWalk
import Derived.WalkLawsBesides
import Derived.Deep.QuietTactic
import Derived.BigQuiet
import Derived.RegionTactic
import Derived.StillTailTactics
import Derived.WalkMore
import Derived.BigRegion
import Derived.Deep.RegionHeld
import Derived.Deep.RegionHeld3
import Derived.Laws.CopyOwn
import Derived.Lib.BufferWrite
import Derived.LoopIn
import Derived.LoopNIn
import Derived.Maps.AppendAt
import Derived.OrdersHeld
import Derived.OwnWalkIn
import Derived.RangeFuncBound
import Derived.RangeFuncBox
import Derived.RangeFuncCalls
import Derived.RangeFuncLeaves
import Derived.RangeFuncNested
import Derived.Shelf.Abstract
import Derived.Shelf.RegionOpen
import Derived.Sort.CutIn
import Derived.TacticsInMore
set_option maxHeartbeats 16000000
set_option maxRecDepth 100000
set_option linter.all false
open Go.ChangeShapes Go.WideShapes Go.ChangeAt Go.RowKit
namespace Go.Proofs.YtidnboeihkeljaaGreatDoor.Wire

theorem info8 : (Tryz.prog.info? 5).map (fun i => (i.zero, i.size, i.bytes)) = some (some (.int .u8 0), 1, 1) := by kernel_rfl
def Own (W w : World) (v : Value) (zs : List Nat) : Prop := w.ownsRow W.heap.size 5 1 v zs.length (c8 zs)
def Acc (W w : World) (v : Value) (zs : List Nat) : Prop := (∃ A, v = .slice A zs.length zs.length ∧ Bs w A zs.length zs) ∨ Own W w v zs
theorem own_ext {w w' : World} {base : Nat} {e : TypeId} {size n : Nat} {v : Value} {xs : List Value} (h : w.ownsRow base e size v n xs) (hb : Ext w w') : w'.ownsRow base e size v n xs :=
 h.kept (row := none) ⟨hb.os, hb.tape, hb.output, hb.size, fun k hk _ => hb.block k hk⟩ (by cases hv : v.ownBlock <;> simp)
theorem Own.ext {W w w' : World} {v : Value} {zs : List Nat} (h : Own W w v zs) (hb : Ext w w') : Own W w' v zs := own_ext h hb
theorem Acc.ext {W w w' : World} {v : Value} {zs : List Nat} (h : Acc W w v zs) (hb : Ext w w') : Acc W w' v zs := by
 rcases h with ⟨A, e, h⟩ | h
 ·exact .inl ⟨A, e, h.ext hb⟩
 ·exact .inr (h.ext hb)
theorem wpList_acc {W w : World} {ops : Array Oper} {rest : List Oper} {o : Oper} {a : Act} {Q : Exit → Act → World → Prop} (hgd : o.guard = none) (s x : Operand) (tx : TypeId)
  (ho : o.op = .call { callee := .builtin .append, args := #[s, x], argTypes := #[48, tx] }) (v vx : Value) (zs ys : List Nat) (hs : a.eval s = v) (hx : a.eval x = vx) (hA : Acc W w v zs) (hE : Ext W w)
  (hsrc : Src Tryz.prog 1 tx vx ys.length (c8 ys) w) (hy : 0 < ys.length) (hb : zs.length + ys.length ≤ 140737488355328)
  (h : ∀ v' w', Own W w' v' (zs ++ ys) → Ext W w' → wpList Tryz.prog ops Q rest (a.put o.dst v') w') : wpList Tryz.prog ops Q (o :: rest) a w := by
 obtain ⟨i0, hi0, hz0, hz1, hz2⟩ := info_parts info8
 have h1 : zs.length + ys.length ≤ maxLen := by unfold maxLen; omega
 rcases hA with ⟨A, rfl, hB⟩ | hO
 ·refine wpList_app_grow hgd s x 48 tx ho 5 i0 (.int .u8 0) 1 1 Tryz.underlying48 hi0 hz0 hz1 hz2 rfl W.heap.size A zs.length zs.length vx (c8 zs) hs hx (by rw [c8_len, Nat.mul_one]) (hB.first _) ys.length (c8 ys) hsrc (by omega) h1 (by omega) hE.size ?_
  intro v' w' h2 h3
  exact h v' w' (by unfold Own; rw [List.length_append, c8_app]; exact h2) (ext_trans hE h3)
 ·refine wpList_app_own hgd s x 48 tx ho 5 i0 (.int .u8 0) 1 1 Tryz.underlying48 hi0 hz0 hz1 hz2 rfl W.heap.size v vx zs.length (c8 zs) hs hx hO ys.length (c8 ys) hsrc h1 (by omega) hE.size ?_
  intro v' w' h2 h3
  exact h v' w' (by unfold Own; rw [List.length_append, c8_app]; exact h2) (ext_grown hE h3 (own_ge hO))
theorem wpList_own {W w : World} {ops : Array Oper} {rest : List Oper} {o : Oper} {a : Act} {Q : Exit → Act → World → Prop} (hgd : o.guard = none) (s x : Operand) (tx : TypeId)
  (ho : o.op = .call { callee := .builtin .append, args := #[s, x], argTypes := #[48, tx] }) (v vx : Value) (zs ys : List Nat) (hs : a.eval s = v) (hx : a.eval x = vx) (hO : Own W w v zs) (hE : Ext W w)
  (hsrc : Src Tryz.prog 1 tx vx ys.length (c8 ys) w) (hb : zs.length + ys.length ≤ 140737488355328)
  (h : ∀ v' w', Own W w' v' (zs ++ ys) → Ext W w' → wpList Tryz.prog ops Q rest (a.put o.dst v') w') : wpList Tryz.prog ops Q (o :: rest) a w := by
 obtain ⟨i0, hi0, hz0, hz1, hz2⟩ := info_parts info8
 have h1 : zs.length + ys.length ≤ maxLen := by unfold maxLen; omega
 refine wpList_app_own hgd s x 48 tx ho 5 i0 (.int .u8 0) 1 1 Tryz.underlying48 hi0 hz0 hz1 hz2 rfl W.heap.size v vx zs.length (c8 zs) hs hx hO ys.length (c8 ys) hsrc h1 (by omega) hE.size ?_
 intro v' w' h2 h3
 exact h v' w' (by unfold Own; rw [List.length_append, c8_app]; exact h2) (ext_grown hE h3 (own_ge hO))
def Puts (w : World) (zs : List Nat) (e : Ending) (w' : World) : Prop :=
 ∃ g c, e = .returned (.slice (some ⟨g, 0, none⟩) zs.length c) ∧ zs.length ≤ c ∧ c ≤ maxLen ∧ w.heap.size ≤ g ∧ Own w w' (.slice (some ⟨g, 0, none⟩) zs.length c) zs ∧ Ext w w'
theorem puts_of {w w' : World} {zs : List Nat} {v : Value} (h : Own w w' v zs) (hE : Ext w w') (hp : 0 < zs.length) : Puts w zs (.returned v) w' := by
 obtain ⟨A, c, rfl, h1, h2, h3⟩ := own_shape h
 obtain ⟨g, rfl, h4⟩ := h3 hp
 exact ⟨g, c, rfl, h1, h2, h4, h, hE⟩
theorem apart_any (A : Option Addr) (n c : Nat) (w : World) (hnil : A = none → n = 0 ∧ c = 0) (hn : n ≤ c) (hc : c ≤ 9223372036854775807) : Calls Tryz.prog 63 #[.slice A n c] w fun e w' => e = .returned (.slice A n n) ∧ w = w' := by
 rcases A with _ | a
 ·obtain ⟨rfl, rfl⟩ := hnil rfl
  clear hnil
  go_enter Tryz.func63, Tryz.ntmps63
  go_wp2
  go_ret
  exact ⟨rfl, rfl⟩
 ·clear hnil
  go_enter Tryz.func63, Tryz.ntmps63
  go_wp2
  go_ret
  exact ⟨rfl, rfl⟩
theorem or_eq : ∀ x : Nat, x < 256 → bits BinOp.or IntKind.u8 (x : Int) 128 = ((x % 128 + 128 : Nat) : Int) := by decide +kernel
def PRel (W : World) (xs : List Nat) (n0 : Nat) (bv nv : Value) (wr : World) : Prop :=
 ∃ (ys : List Nat) (m : Nat), ys ++ vb m = vb n0 ∧ m ≤ n0 ∧ nv = .int .u64 (m : Int) ∧ Acc W wr bv (xs ++ ys) ∧ Ext W wr
theorem src_one (w : World) (y : Nat) : Src Tryz.prog 1 48 (.slice (some ⟨w.heap.size, 0, none⟩) 1 1) [y].length (c8 [y]) (w.alloc (.cells #[.int .u8 (y : Int)] 5)) :=
 Src.ofSlice _ Tryz.underlying48 _ 1 1 _ (by simp [c8]) (fun j u hu => by
  obtain ⟨hj, rfl⟩ := c8_get hu
  have : j = 0 := by simpa using hj
  subst this
  have hadd : (⟨w.heap.size, 0, none⟩ : Addr).add 0 = ⟨w.heap.size, 0, none⟩ := rfl
  rw [hadd]; simp) (c8_one _)
theorem put (A : Option Addr) (n c : Nat) (xs : List Nat) (n0 : Nat) (h0 : n0 < 18446744073709551616) (w : World) (hB : Bs w A n xs) (hnil : A = none → n = 0 ∧ c = 0) (hn : n ≤ c) (hc : c ≤ 9223372036854775807) (hn4 : n ≤ 4000000000) :
  Calls Tryz.prog 30 #[.slice A n c, .int .u64 (n0 : Int)] w (Puts w (xs ++ vb n0)) := by
 have h10 := vb_ten h0
 have HP := Lib.hid (vb_pos n0)
 have HAC : Hid (Acc w w (.slice A n n) (xs ++ [])) := Lib.hid (by rw [List.append_nil]; exact .inl ⟨A, by rw [hB.1], by rw [hB.1]; exact hB⟩)
 have hxl : xs.length ≤ 4000000000 := by rw [hB.1]; exact hn4
 have HCT := Lib.hid (apart_any A n c w hnil hn hc)
 clear h0 hB hnil hn hc hn4
 go_enter Tryz.func30, Tryz.ntmps30
 go_wp2_with fail
 refine (HCT.out).mono ?_
 rintro e w1 ⟨rfl, rfl⟩
 go_wp2_with fail
 go_loopw [0, 1] (fun bv nv wr => PRel w xs n0 bv nv wr) (fun _ nv _ => (intOf nv).toNat)
 case atStart => exact ⟨[], n0, rfl, Nat.le_refl _, rfl, HAC.out, Ext.rfl' _⟩
 case round =>
  obtain ⟨ys, m, hj, hm, rfl, hacc, ex⟩ := hrel
  have hlen : ys.length ≤ 9 := by
   have := congrArg List.length hj
   rw [List.length_append] at this
   have := vb_pos m
   omega
  have HJ := Lib.hid hj; clear hj
  have HAC := Lib.hid hacc; clear hacc
  have HE := Lib.hid ex; clear ex
  have HL : Hid ((xs ++ ys).length + 1 ≤ 140737488355328) := Lib.hid (by rw [List.length_append]; omega)
  by_cases hlt : m < 128
  ·have HAC2 := Lib.hid (HAC.out.ext (ext_alloc (Ext.rfl' _) (.cells #[.int .u8 (m : Int)] 5)))
   have HE2 := Lib.hid (ext_alloc HE.out (.cells #[.int .u8 (m : Int)] 5))
   have HF : Hid (xs ++ ys ++ [m] = xs ++ vb n0) := Lib.hid (by rw [List.append_assoc, ← HJ.out, vb_small hlt])
   go_wp2_with (first | (at_builtin; refine wpList_acc (W := w) rfl (.tmp 17) (.tmp 20) 48 rfl u0 (.slice (some ⟨wr.heap.size, 0, none⟩) 1 1) (xs ++ ys) [m] rfl rfl HAC2.out HE2.out (src_one wr m) (Nat.zero_lt_one) HL.out ?_; intro v1 w1 hown1 hE1))
   rw [HF.out] at hown1
   go_ret
   exact puts_of hown1 hE1 (by rw [List.length_append]; have := HP.out; omega)
  ·obtain ⟨yb, hyb⟩ : ∃ y, y = m % 128 + 128 := ⟨_, rfl⟩
   have e1 : bits BinOp.or IntKind.u8 ((m : Int) % 256) 128 = (yb : Int) := by
    have := or_eq (m % 256) (by omega)
    rw [show m % 256 % 128 = m % 128 from by omega, ← hyb] at this
    rw [← this]; rfl
   have HY := Lib.hid hyb; clear hyb
   have HAC2 := Lib.hid (HAC.out.ext (ext_alloc (Ext.rfl' _) (.cells #[.int .u8 (yb : Int)] 5)))
   have HE2 := Lib.hid (ext_alloc HE.out (.cells #[.int .u8 (yb : Int)] 5))
   have HF : Hid ((ys ++ [yb]) ++ vb (m / 128) = vb n0) := Lib.hid (by rw [List.append_assoc, ← HJ.out, vb_more hlt, HY.out]; rfl)
   go_wp2_with (first | (at_builtin; refine wpList_acc (W := w) rfl (.tmp 9) (.tmp 13) 48 rfl u0 (.slice (some ⟨wr.heap.size, 0, none⟩) 1 1) (xs ++ ys) [yb] rfl rfl HAC2.out HE2.out (src_one wr yb) (Nat.zero_lt_one) HL.out ?_; intro v1 w1 hown1 hE1))
   go_roundw
   case rel => exact ⟨ys ++ [yb], m / 128, HF.out, by omega, by go_num, .inr (by rw [← List.append_assoc]; exact hown1), hE1⟩
   case measure => simp [intOf]; omega
theorem Own.bs {W w : World} {A : Option Addr} {c : Nat} {zs : List Nat} (h : Own W w (.slice A zs.length c) zs) (hz : ∀ j, zs.getD j 0 < 256) : Bs w A zs.length zs := Bs.own h hz
theorem putText (A : Option Addr) (n c : Nat) (xs : List Nat) (s : ByteArray) (w : World) (hB : Bs w A n xs) (hnil : A = none → n = 0 ∧ c = 0) (hn : n ≤ c) (hc : c ≤ 9223372036854775807) (hn4 : n ≤ 4000000000) (hs : s.size ≤ 1000000000) :
  Calls Tryz.prog 57 #[.slice A n c, .string s] w (Puts w (xs ++ vb s.size ++ natsOf s)) := by
 have H := Lib.hid (put A n c xs s.size (by omega) w hB hnil hn hc hn4)
 have HX : Hid (xs.length ≤ 4000000000) := Lib.hid (by rw [hB.1]; exact hn4)
 have HV := Lib.hid (vb_ten (n := s.size) (by omega))
 have HP := Lib.hid (vb_pos s.size)
 clear hB hnil hn hc hn4
 go_enter Tryz.func57, Tryz.ntmps57
 go_wp2_with fail
 refine (H.out).mono ?_
 rintro e w1 ⟨g, c1, rfl, hc1, hc2, hg, ho, hE⟩
 have HOW := Lib.hid ho; have HE := Lib.hid hE; clear ho hE
 have HLN : Hid ((xs ++ vb s.size).length + s.size ≤ 140737488355328) := Lib.hid (by rw [List.length_append]; have := HX.out; have := HV.out; omega)
 generalize hzs : xs ++ vb s.size = zs at *
 have HZS := Lib.hid hzs; clear hzs
 have HS : Hid (Src Tryz.prog 1 9 (.string s) (natsOf s).length (c8 (natsOf s)) w1) := Lib.hid (by rw [natsOf_len, ← byteCells_eq]; exact Src.ofString w1 Tryz.underlying9 s)
 have HQ : Hid (zs.length + (natsOf s).length ≤ 140737488355328) := Lib.hid (by rw [natsOf_len]; exact HLN.out)
 go_wp2_with (first | (at_builtin; refine wpList_own (W := w) rfl (.tmp 9) (.tmp 10) 9 rfl (.slice (some ⟨g, 0, none⟩) zs.length c1) (.string s) zs (natsOf s) rfl rfl HOW.out HE.out HS.out HQ.out ?_; intro v2 w2 hown2 hE2))
 go_ret
 exact puts_of hown2 hE2 (by rw [← HZS.out, List.length_append, List.length_append]; have := HP.out; omega)
theorem src_row (w : World) (ys : List Nat) (n c : Nat) (hn : n = ys.length) : Src Tryz.prog 1 48 (.slice (some ⟨w.heap.size, 0, none⟩) n c) ys.length (c8 ys) (w.alloc (.cells (c8 ys).toArray 5)) := by
 subst hn
 exact Src.ofSlice _ Tryz.underlying48 _ _ c _ (by rw [c8_len, Nat.mul_one]) (fun j u hu => by
  have hadd : (⟨w.heap.size, 0, none⟩ : Addr).add j = ⟨w.heap.size, j, none⟩ := by unfold Addr.add; split <;> simp_all
  rw [hadd]; simpa using hu) (c8_one _)
theorem src_fx (w : World) (m : Nat) : Src Tryz.prog 1 48 (.slice (some ⟨w.heap.size, 0, none⟩) 4 4) (fx m).length (c8 (fx m)) (w.alloc (.cells #[.int .u8 ((m : Int) / 16777216), .int .u8 ((m : Int) / 65536 % 256), .int .u8 ((m : Int) / 256 % 256), .int .u8 ((m : Int) % 256)] 5)) := by
 have h := src_row w (fx m) 4 4 rfl
 have e : (c8 (fx m)).toArray = #[.int .u8 ((m : Int) / 16777216), .int .u8 ((m : Int) / 65536 % 256), .int .u8 ((m : Int) / 256 % 256), .int .u8 ((m : Int) % 256)] := by simp [c8, fx]
 rwa [e] at h
theorem putFixed (A : Option Addr) (n c : Nat) (xs : List Nat) (m : Nat) (h0 : m < 4294967296) (w : World) (hB : Bs w A n xs) (hnil : A = none → n = 0 ∧ c = 0) (hn : n ≤ c) (hc : c ≤ 9223372036854775807) (hn4 : n ≤ 4000000000) :
  Calls Tryz.prog 56 #[.slice A n c, .int .u32 (m : Int)] w (Puts w (xs ++ fx m)) := by
 have HAC : Hid (Acc w w (.slice A n n) xs) := Lib.hid (.inl ⟨A, by rw [hB.1], by rw [hB.1]; exact hB⟩)
 have hxl : xs.length ≤ 4000000000 := by rw [hB.1]; exact hn4
 have HCT := Lib.hid (apart_any A n c w hnil hn hc)
 clear hB hnil hn hc hn4
 go_enter Tryz.func56, Tryz.ntmps56
 go_wp2_with fail
 refine (HCT.out).mono ?_
 rintro e w1 ⟨rfl, rfl⟩
 have HSR := Lib.hid (src_fx w m)
 have HAC2 := Lib.hid (HAC.out.ext (ext_alloc (Ext.rfl' w) (.cells #[.int .u8 ((m : Int) / 16777216), .int .u8 ((m : Int) / 65536 % 256), .int .u8 ((m : Int) / 256 % 256), .int .u8 ((m : Int) % 256)] 5)))
 have HE2 := Lib.hid (ext_alloc (Ext.rfl' w) (.cells #[.int .u8 ((m : Int) / 16777216), .int .u8 ((m : Int) / 65536 % 256), .int .u8 ((m : Int) / 256 % 256), .int .u8 ((m : Int) % 256)] 5))
 have HQ : Hid (xs.length + (fx m).length ≤ 140737488355328) := Lib.hid (by show xs.length + 4 ≤ _; omega)
 have H4 : Hid (0 < (fx m).length) := Lib.hid (by show 0 < 4; omega)
 generalize fx m = ys at *
 go_wp2_with (first | (at_builtin; refine wpList_acc (W := w) rfl (.tmp 6) (.tmp 18) 48 rfl (.slice A n n) (.slice (some ⟨w.heap.size, 0, none⟩) 4 4) xs ys rfl rfl HAC2.out HE2.out HSR.out H4.out HQ.out ?_; intro v2 w2 hown2 hE2))
 go_ret
 exact puts_of hown2 hE2 (by rw [List.length_append]; have := H4.out; omega)
end Go.Proofs.YtidnboeihkeljaaGreatDoor.Wire
namespace Go.Proofs.YtidnboeihkeljaaGreatDoor.Wire

theorem wp_still {P : Program} {id : Nat} {Q : Exit → Act → World → Prop} {a : Act} {w : World} {l : List Oper} (hm : P.follows .mixedOrders = true) (hB : Region.lexB .any l.toArray = true)
  (h : wpStill P l.toArray w.drew (fun a' => Q .normal a' w.drew) l a) : (Code.region id l.toArray true).wp P Q a w := wp_region_still_lit hm hB h
theorem wp_still_tail {P : Program} {id : Nat} {Q : Exit → Act → World → Prop} {a : Act} {w : World} {l : List Oper} (n : Nat) (hm : P.follows .mixedOrders = true) (hB : Region.lexTailB .any l.toArray n = true)
  (h : wpStill P l.toArray w.drew (fun a' => wpList P l.toArray Q (l.drop n) a' w.drew) (l.take n) a) : (Code.region id l.toArray true).wp P Q a w := wp_region_still_tail n hm hB h
theorem gb_refl (w : World) (row : Option Nat) : w.grownBy w row := ⟨rfl, rfl, rfl, Nat.le_refl _, fun _ _ _ => rfl⟩
theorem gb_trans {a b c : World} {row : Option Nat} (h : a.grownBy b row) (k : b.grownBy c row) : a.grownBy c row :=
 ⟨k.os.trans h.os, k.tape.trans h.tape, k.output.trans h.output, Nat.le_trans h.size k.size, fun i hi hne => (k.block i (Nat.lt_of_lt_of_le hi h.size) hne).trans (h.block i hi hne)⟩
theorem gb_ext {a b : World} (h : Ext a b) (row : Option Nat) : a.grownBy b row := ⟨h.os, h.tape, h.output, h.size, fun k hk _ => h.block k hk⟩
theorem gb_set (w : World) (g i : Nat) (v : Value) : w.grownBy (w.setCell ⟨g, i, none⟩ v) (some g) :=
 ⟨rfl, rfl, rfl, by simp [World.setCell], fun k _ hk => Below.heap_setCell w ⟨g, i, none⟩ v k (fun e => hk (by rw [e]))⟩
def Rdr (w : World) (g : Nat) (s : Value) (at_ : Nat) (e : Int) : Prop := Blk w g 184 #[s, .int .i64 (at_ : Int), .int .i64 e]
def Eff (w w' : World) (g : Nat) (s : Value) (at_ : Nat) (e : Int) : Prop := Rdr w' g s at_ e ∧ w.grownBy w' (some g)
theorem Eff.trans {a b c : World} {g : Nat} {s s' : Value} {i j : Nat} {e f : Int} (h : Eff a b g s i e) (k : Eff b c g s' j f) : Eff a c g s' j f := ⟨k.1, gb_trans h.2 k.2⟩
theorem Rdr.ext {w w' : World} {g : Nat} {s : Value} {i : Nat} {e : Int} (h : Rdr w g s i e) (hb : Ext w w') : Rdr w' g s i e := Blk.ext h hb
theorem Rdr.eff {w w' : World} {g : Nat} {s : Value} {i : Nat} {e : Int} (h : Rdr w g s i e) (hb : Ext w w') : Eff w w' g s i e := ⟨h.ext hb, gb_ext hb _⟩
theorem Eff.ext {a b c : World} {g : Nat} {s : Value} {i : Nat} {e : Int} (h : Eff a b g s i e) (hb : Ext b c) : Eff a c g s i e := h.trans (h.1.eff hb)
theorem Rdr.cells {w : World} {g : Nat} {s : Value} {i : Nat} {e : Int} (h : Rdr w g s i e) : w.cell? ⟨g, 0, none⟩ = some s ∧ w.cell? ⟨g, 1, none⟩ = some (.int .i64 (i : Int)) ∧ w.cell? ⟨g, 2, none⟩ = some (.int .i64 e) ∧ w.frozen? ⟨g, 1, none⟩ = false ∧ w.frozen? ⟨g, 2, none⟩ = false :=
 ⟨Blk.cell h 0, Blk.cell h 1, Blk.cell h 2, Blk.frozen h 1, Blk.frozen h 2⟩
theorem Rdr.setErr {w : World} {g : Nat} {s : Value} {i : Nat} {e : Int} (h : Rdr w g s i e) (f : Int) : Eff w (w.setCell ⟨g, 2, none⟩ (.int .i64 f)) g s i f :=
 ⟨Blk.set_ h 2 _, gb_set w g 2 _⟩
theorem Rdr.setAt {w : World} {g : Nat} {s : Value} {i : Nat} {e : Int} (h : Rdr w g s i e) (j : Nat) : Eff w (w.setCell ⟨g, 1, none⟩ (.int .i64 (j : Int))) g s j e :=
 ⟨Blk.set_ h 1 _, gb_set w g 1 _⟩
theorem and127 : ∀ x : Nat, x < 256 → bits BinOp.and IntKind.u8 (x : Int) 127 = ((x % 128 : Nat) : Int) := by decide +kernel
theorem or64 (a b : Nat) : bits .or .u64 (a : Int) (b : Int) = ((BitVec.ofNat 64 a ||| BitVec.ofNat 64 b).toNat : Int) := by
 show IntKind.u64.wrap ((BitVec.ofInt 64 (a : Int) ||| BitVec.ofInt 64 (b : Int)).toNat : Int) = _
 rw [BitVec.ofInt_natCast, BitVec.ofInt_natCast]
 have := (BitVec.ofNat 64 a ||| BitVec.ofNat 64 b).isLt
 rw [IntKind.wrap_u64]
 omega
theorem pow128 (s : Nat) : 2 ^ (7 * s) = 128 ^ s := by rw [Nat.pow_mul]
theorem pow128_le {s : Nat} (h : s ≤ 8) : 128 ^ s ≤ 72057594037927936 := by
 have : 128 ^ s ≤ 128 ^ 8 := Nat.pow_le_pow_right (by omega) h
 simpa using this
theorem or_val (acc size cb : Nat) (hs : size ≤ 9) (hacc : acc < 128 ^ size) (hcb : cb < 256) :
  ∃ z : Nat, z < 18446744073709551616 ∧ bits BinOp.or IntKind.u64 (acc : Int) (IntKind.u64.wrap (IntKind.u64.wrap (bits BinOp.and IntKind.u8 (cb : Int) 127) * 2 ^ (7 * size))) = (z : Int) ∧
   (size ≤ 8 ∨ cb ≤ 1 → z = acc + (cb % 128) * 128 ^ size) := by
 have e1 : IntKind.u64.wrap (bits BinOp.and IntKind.u8 (cb : Int) 127) = ((cb % 128 : Nat) : Int) := by rw [and127 cb hcb, IntKind.wrap_u64]; omega
 have e2 : (((cb % 128 : Nat) : Int) * 2 ^ (7 * size)) = (((cb % 128) * 128 ^ size : Nat) : Int) := by
  rw [Int.natCast_mul, ← pow128, Int.natCast_pow]; rfl
 have e3 : IntKind.u64.wrap ((((cb % 128) * 128 ^ size : Nat)) : Int) = ((((cb % 128) * 128 ^ size) % 18446744073709551616 : Nat) : Int) := by rw [IntKind.wrap_u64]; omega
 rw [e1, e2, e3, or64]
 have hl : 128 ^ size ≤ 128 ^ 9 := Nat.pow_le_pow_right (by omega) hs
 have hl2 : (128 : Nat) ^ 9 = 9223372036854775808 := by decide
 refine ⟨_, (BitVec.ofNat 64 acc ||| BitVec.ofNat 64 ((cb % 128) * 128 ^ size % 18446744073709551616)).isLt, rfl, fun h => ?_⟩
 have hsm : (cb % 128) * 128 ^ size < 18446744073709551616 := by
  rcases h with h | h
  ·have h8 := pow128_le h
   have : (cb % 128) * 128 ^ size ≤ 127 * 72057594037927936 := Nat.mul_le_mul (by omega) h8
   omega
  ·have : (cb % 128) * 128 ^ size ≤ 1 * 9223372036854775808 := Nat.mul_le_mul (by omega) (by omega)
   omega
 rw [BitVec.toNat_or, BitVec.toNat_ofNat, BitVec.toNat_ofNat, Nat.mod_eq_of_lt hsm, Nat.mod_eq_of_lt (show acc < 2 ^ 64 by omega), Nat.mod_eq_of_lt (show (cb % 128) * 128 ^ size < 2 ^ 64 by omega)]
 have := Nat.shiftLeft_add_eq_or_of_lt (i := 7 * size) (b := acc) (by rw [pow128]; exact hacc) (cb % 128)
 rw [Nat.shiftLeft_eq, pow128] at this
 rw [Nat.or_comm, ← this, Nat.add_comm]
theorem Rdr.setAt' {w : World} {g : Nat} {s : Value} {i : Nat} {e : Int} (h : Rdr w g s i e) (j : Nat) {z : Int} (hz : z = (j : Int)) : Eff w (w.setCell ⟨g, 1, none⟩ (.int .i64 z)) g s j e := by subst hz; exact h.setAt j
def VPost (w : World) (g : Nat) (s : Value) (at_ : Nat) (R : VR) (e : Ending) (w' : World) : Prop :=
 ∃ (z j : Nat) (err : Int), e = .returned (.int .u64 (z : Int)) ∧ z < 18446744073709551616 ∧ Eff w w' g s (at_ + j) err ∧
  (match R with | .short => err = 3 | .form => err = 4 | .ok v k => z = v ∧ j = k ∧ err = 0)
def VRel (w : World) (xs : List Nat) (at_ : Nat) (R : VR) (nv sv : Value) (wr : World) : Prop :=
 ∃ (size acc : Nat), size ≤ 9 ∧ at_ + size ≤ xs.length ∧ nv = .int .u64 (acc : Int) ∧ sv = .int .i64 (size : Int) ∧ acc < 128 ^ size ∧ vr size acc (xs.drop (at_ + size)) = R ∧ Ext w wr
end Go.Proofs.YtidnboeihkeljaaGreatDoor.Wire
namespace Go.Proofs.YtidnboeihkeljaaGreatDoor.Wire
def RB (w : World) (g : Nat) (A : Option Addr) (n c : Nat) (xs : List Nat) : Prop := Bs w A n xs ∧ n ≤ c ∧ c ≤ 9223372036854775807 ∧ (A = none → n = 0 ∧ c = 0) ∧ (0 < n → ∀ a, A = some a → a.block ≠ g)
theorem RB.eff {w w' : World} {g : Nat} {A : Option Addr} {n c : Nat} {xs : List Nat} (hB : RB w g A n c xs) (h : w.grownBy w' (some g)) : RB w' g A n c xs := by
 refine ⟨?_, hB.2⟩
 rcases Nat.eq_zero_or_pos n with h0 | hp
 ·subst h0
  have : xs = [] := List.eq_nil_of_length_eq_zero hB.1.1
  subst this
  exact Bs.none _ _
 ·exact hB.1.kept h (fun a ha => by have := hB.2.2.2.2 hp a ha; simpa using this)
theorem Bs.drop {w : World} {b o n : Nat} {xs : List Nat} (h : Bs w (some ⟨b, o, none⟩) n xs) (m : Nat) (hm : m ≤ n) : Bs w (some ⟨b, o + m, none⟩) (n - m) (xs.drop m) := by
 refine ⟨by rw [List.length_drop, h.1], fun j => ?_, fun hn => ?_⟩
 ·rw [List.getD_eq_getElem?_getD, List.getElem?_drop, ← List.getD_eq_getElem?_getD]; exact h.2.1 _
 ·obtain ⟨b', o', e, hl, hcell⟩ := h.2.2 (by omega)
  simp only [Option.some.injEq, Addr.mk.injEq, and_true] at e
  obtain ⟨rfl, rfl⟩ := e
  refine ⟨b, o + m, rfl, hl, fun j hj => ?_⟩
  rw [Nat.add_assoc, hcell (m + j) (by omega)]
  simp [List.getD_eq_getElem?_getD, List.getElem?_drop]
def PPost (w : World) (g : Nat) (s : Value) (at_ m : Nat) (ys : List Nat) (e : Ending) (w' : World) : Prop :=
 ∃ (A' : Option Addr) (c' : Nat), e = .returned (.slice A' m c') ∧ m ≤ c' ∧ c' ≤ 9223372036854775807 ∧ (A' = none → m = 0 ∧ c' = 0) ∧ Bs w' A' m ys ∧ Eff w w' g s (at_ + m) 0
theorem piece_nil (g : Nat) (F : Value) (w : World) (h : Rdr w g (.slice none 0 0) 0 0) :
  Calls Tryz.prog 141 #[.pointer (some ⟨g, 0, none⟩), .int .u64 0, F] w fun e w' => e = .returned (.slice none 0 0) ∧ Eff w w' g (.slice none 0 0) 0 0 := by
 obtain ⟨c0, c1', c2, f1, f2⟩ := h.cells
 have c1 : w.cell? ⟨g, 1, none⟩ = some (.int .i64 0) := c1'
 have H := Lib.hid h; clear h c1'
 go_enter Tryz.func141, Tryz.ntmps141
 go_wp2_with fail
 refine wp_still (by kernel_rfl) (by kernel_rfl) ?_
 repeat still_step
 refine wpStill_nil ?_
 go_wp2_with fail
 refine wp_still (by kernel_rfl) (by kernel_rfl) ?_
 repeat still_step
 refine wpStill_nil ?_
 go_wp2_with fail
 go_ret
 exact ⟨rfl, (H.out.setAt' 0 rfl).ext (ext_drew (ext_drew (Ext.rfl' _)))⟩
theorem piece_ok (g n c at_ m : Nat) (A : Option Addr) (F : Value) (xs : List Nat) (w : World) (h : Rdr w g (.slice A n c) at_ 0) (hB : RB w g A n c xs) (hat : at_ + m ≤ n) (hn : n ≤ 4000000000) :
  Calls Tryz.prog 141 #[.pointer (some ⟨g, 0, none⟩), .int .u64 (m : Int), F] w (PPost w g (.slice A n c) at_ m ((xs.drop at_).take m)) := by
 obtain ⟨c0, c1, c2, f1, f2⟩ := h.cells
 have H := Lib.hid h; have HB := Lib.hid hB; clear h hB
 obtain ⟨L, hL⟩ : ∃ L : Nat, L = n - at_ := ⟨_, rfl⟩
 have hLm : ¬ (L : Int) < (m : Int) := by omega
 have HW1 : Hid (IntKind.i64.wrap ((n : Int) - (at_ : Int)) = (L : Int)) := Lib.hid (by rw [IntWalk.i64_in _ (by omega)]; omega)
 have HW2 : Hid (IntKind.u64.wrap (L : Int) = (L : Int)) := Lib.hid (by rw [IntKind.wrap_u64]; omega)
 clear hL
 have b1 : (0 : Int) ≤ (at_ : Int) := by omega
 have b2 : (at_ : Int) ≤ (at_ : Int) + (m : Int) := by omega
 have hnc := HB.out.2.1
 have hcm := HB.out.2.2.1
 have b3 : (at_ : Int) + (m : Int) ≤ (c : Int) := by omega
 have HEF := Lib.hid (H.out.eff (ext_drew (Ext.rfl' _)))
 rcases A with _ | a
 ·obtain ⟨rfl, rfl⟩ := HB.out.2.2.2.1 rfl
  obtain rfl : at_ = 0 := by omega
  obtain rfl : m = 0 := by omega
  refine (piece_nil g F w H.out).mono ?_
  rintro e w' ⟨rfl, hE⟩
  exact ⟨none, 0, rfl, Nat.le_refl _, by omega, fun _ => ⟨rfl, rfl⟩, by rw [List.take_zero]; exact Bs.none _ _, hE⟩
 ·have hmn : ((at_ : Int) + (m : Int)).toNat = at_ + m := by omega
  have HXX : Hid (xs.length = n) := Lib.hid HB.out.1.1
  obtain ⟨A', hA'⟩ : ∃ A' : Option Addr, (if c = at_ then some a else some (a.add at_)) = A' := ⟨_, rfl⟩
  have HIF := Lib.hid hA'; clear hA'
  go_enter Tryz.func141, Tryz.ntmps141
  go_wp2_with fail
  have hw1 := HW1.out
  have hw2 := HW2.out
  refine wp_still (by kernel_rfl) (by kernel_rfl) ?_
  repeat still_step
  refine wpStill_nil ?_
  clear hw1 hw2
  go_wp2_with fail
  have hif := HIF.out
  refine wp_still (by kernel_rfl) (by kernel_rfl) ?_
  repeat still_step
  refine wpStill_nil ?_
  clear hif
  go_wp2_with fail
  go_ret
  have hif := HIF.out
  have hEE := (H.out.setAt' (at_ + m) (z := (at_ : Int) + (m : Int)) (by omega)).ext (ext_drew (ext_drew (Ext.rfl' _)))
  refine ⟨A', c - at_, rfl, by omega, by omega, (fun h => by rw [← hif] at h; split at h <;> cases h), ?_, hEE⟩
  have hb := (HB.out.eff hEE.2).1
  rcases Nat.eq_zero_or_pos m with h0 | hp
  ·rw [h0, List.take_zero]; exact Bs.none _ _
  ·rw [← hif, if_neg (by omega)]
   obtain ⟨b, o, e, _, _⟩ := hb.2.2 (by omega)
   obtain rfl : a = ⟨b, o, none⟩ := Option.some.inj e
   have hadd : (⟨b, o, none⟩ : Addr).add at_ = ⟨b, o + at_, none⟩ := by unfold Addr.add; split <;> simp_all
   rw [hadd]
   exact (Bs.drop hb at_ (by omega)).take (by omega)
def CP (w : World) (g : Nat) (s : Value) (Φ : Value → Nat → Int → World → Prop) (e : Ending) (w' : World) : Prop :=
 ∃ (v : Value) (a' : Nat) (err : Int), e = .returned v ∧ Eff w w' g s a' err ∧ Φ v a' err w'
def RP (w : World) (g : Nat) (s zero : Value) (at_ : Nat) (Φ : Value → Nat → Int → World → Prop) (e : Ending) (w' : World) : Prop :=
 (∃ (v : Value) (a' : Nat), e = .returned v ∧ Eff w w' g s a' 0 ∧ Φ v a' 0 w') ∨
 (∃ err : Int, err ≠ 0 ∧ e = .returned zero ∧ Eff w w' g s at_ err ∧ ∃ v0 a0 w0, Φ v0 a0 err w0)
end Go.Proofs.YtidnboeihkeljaaGreatDoor.Wire
namespace Go.Proofs.YtidnboeihkeljaaGreatDoor.Wire

theorem fail0_69 (w : World) (pb g : Nat) (s : Value) (i : Nat) (f : Int) (hp : w.cell? ⟨pb, 0, none⟩ = some (.pointer (some ⟨g, 0, none⟩))) (h : Rdr w g s i 0) :
  Calls Tryz.prog 150 #[.int .i64 f, .pointer (some ⟨pb, 0, none⟩)] w fun e w' => e = .returned (.tuple #[]) ∧ Eff w w' g s i f := by
 obtain ⟨c0, c1, c2, f1, f2⟩ := h.cells
 have H := Lib.hid h; clear h
 go_enter Tryz.func150, Tryz.ntmps150
 go_wp2
 go_end0
 exact ⟨rfl, H.out.setErr f⟩
theorem piece_short_69 (pb g n c at_ m : Nat) (A : Option Addr) (xs : List Nat) (w : World) (hp : w.cell? ⟨pb, 0, none⟩ = some (.pointer (some ⟨g, 0, none⟩))) (h : Rdr w g (.slice A n c) at_ 0) (hat : at_ ≤ n) (hn : n ≤ 4000000000) (hm : n - at_ < m) :
  Calls Tryz.prog 141 #[.pointer (some ⟨g, 0, none⟩), .int .u64 (m : Int), .func (.func 150) #[] #[.pointer (some ⟨pb, 0, none⟩)]] w fun e w' => e = .returned (.slice none 0 0) ∧ Eff w w' g (.slice A n c) at_ 3 := by
 obtain ⟨c0, c1, c2, f1, f2⟩ := h.cells
 have HP := Lib.hid (kc (ext_drew (Ext.rfl' w)) hp); have H := Lib.hid h; clear hp h
 have HRD := Lib.hid (H.out.ext (ext_drew (Ext.rfl' _)))
 obtain ⟨L, hL⟩ : ∃ L : Nat, L = n - at_ := ⟨_, rfl⟩
 have hLm : (L : Int) < (m : Int) := by omega
 have HW1 : Hid (IntKind.i64.wrap ((n : Int) - (at_ : Int)) = (L : Int)) := Lib.hid (by rw [IntWalk.i64_in _ (by omega)]; omega)
 have HW2 : Hid (IntKind.u64.wrap (L : Int) = (L : Int)) := Lib.hid (by rw [IntKind.wrap_u64]; omega)
 clear hL
 go_enter Tryz.func141, Tryz.ntmps141
 go_wp2_with fail
 have hw1 := HW1.out
 have hw2 := HW2.out
 refine wp_still (by kernel_rfl) (by kernel_rfl) ?_
 repeat still_step
 refine wpStill_nil ?_
 clear hw1 hw2
 go_wp2_with fail
 refine (fail0_69 _ pb g _ at_ 3 HP.out HRD.out).mono ?_
 rintro e w3 ⟨rfl, hE3⟩
 have HE3 := Lib.hid hE3; clear hE3
 go_wp2_with fail
 go_ret
 exact ⟨rfl, (H.out.eff (ext_drew (Ext.rfl' _))).trans HE3.out⟩
end Go.Proofs.YtidnboeihkeljaaGreatDoor.Wire
namespace Go.Proofs.YtidnboeihkeljaaGreatDoor.Wire

theorem reading_69 (g at_ : Nat) (s : Value) (q0 : Value) (Φ : Value → Nat → Int → World → Prop) (w : World) (h : Rdr w g s at_ 0)
  (hC : Calls Tryz.prog 143 #[.func (.func 150) #[] #[.pointer (some ⟨w.heap.size, 0, none⟩)], q0] (w.alloc (.cells #[.pointer (some ⟨g, 0, none⟩)] 145)) (CP (w.alloc (.cells #[.pointer (some ⟨g, 0, none⟩)] 145)) g s Φ)) :
  Calls Tryz.prog 142 #[.pointer (some ⟨g, 0, none⟩), .func (.func 143) #[] #[q0]] w (RP w g s (.int .u32 0) at_ Φ) := by
 have hne : w.heap.size ≠ g := by have := Blk.lt h; omega
 have hgl : g < w.heap.size := Blk.lt h
 have HE0 := Lib.hid (ext_alloc (Ext.rfl' w) (.cells #[.pointer (some ⟨g, 0, none⟩)] 145))
 obtain ⟨c0, c1, c2, f1, f2⟩ := h.cells
 have H := Lib.hid h; have HC := Lib.hid hC; clear h hC
 go_enter Tryz.func142, Tryz.ntmps142
 go_wp2_with fail
 refine (HC.out).mono ?_
 rintro e w3 ⟨v, a', err, rfl, hE3, hm⟩
 obtain ⟨d0, d1, d2, g1, g2⟩ := hE3.1.cells
 have p3 : w3.cell? ⟨w.heap.size, 0, none⟩ = some (.pointer (some ⟨g, 0, none⟩)) := hE3.2.cell (a := ⟨w.heap.size, 0, none⟩) (by simp) (by simpa using hne)
 have HE3 := Lib.hid hE3; have HM := Lib.hid hm; clear hE3 hm
 have HEF : Hid (Eff w w3 g s a' err) := Lib.hid ((H.out.eff HE0.out).trans HE3.out)
 by_cases he : err = 0
 ·subst he
  go_wp2_with fail
  go_ret
  exact .inl ⟨v, a', rfl, HEF.out, HM.out⟩
 ·have hb : (err == 0) = false := beq_eq_false_iff_ne.2 he
  have HNE := Lib.hid he; clear he
  go_wp2_with fail
  go_ret
  exact .inr ⟨err, HNE.out, rfl, HEF.out.trans (HEF.out.1.setAt' at_ rfl), _, _, _, HM.out⟩
theorem reading_err_69 (g at_ : Nat) (s F : Value) (e0 : Int) (w : World) (h : Rdr w g s at_ e0) (he : (e0 == 0) = false) :
  Calls Tryz.prog 142 #[.pointer (some ⟨g, 0, none⟩), F] w fun e w' => e = .returned (.int .u32 0) ∧ Ext w w' := by
 have hne : w.heap.size ≠ g := by have := Blk.lt h; omega
 have hgl : g < w.heap.size := Blk.lt h
 obtain ⟨c0, c1, c2, f1, f2⟩ := h.cells
 clear h
 go_enter Tryz.func142, Tryz.ntmps142
 go_wp2_with fail
 go_ret
 exact ⟨rfl, by repeat (first | exact Ext.rfl' _ | refine ext_drew ?_ | refine ext_alloc ?_ _)⟩
end Go.Proofs.YtidnboeihkeljaaGreatDoor.Wire
namespace Go.Proofs.YtidnboeihkeljaaGreatDoor.Wire

theorem reading_68 (g at_ : Nat) (s : Value) (q0 : Value) (Φ : Value → Nat → Int → World → Prop) (w : World) (h : Rdr w g s at_ 0)
  (hC : Calls Tryz.prog 115 #[.func (.func 138) #[] #[.pointer (some ⟨w.heap.size, 0, none⟩)], q0] (w.alloc (.cells #[.pointer (some ⟨g, 0, none⟩)] 145)) (CP (w.alloc (.cells #[.pointer (some ⟨g, 0, none⟩)] 145)) g s Φ)) :
  Calls Tryz.prog 114 #[.pointer (some ⟨g, 0, none⟩), .func (.func 115) #[] #[q0]] w (RP w g s (.int .i64 0) at_ Φ) := by
 have hne : w.heap.size ≠ g := by have := Blk.lt h; omega
 have hgl : g < w.heap.size := Blk.lt h
 have HE0 := Lib.hid (ext_alloc (Ext.rfl' w) (.cells #[.pointer (some ⟨g, 0, none⟩)] 145))
 obtain ⟨c0, c1, c2, f1, f2⟩ := h.cells
 have H := Lib.hid h; have HC := Lib.hid hC; clear h hC
 go_enter Tryz.func114, Tryz.ntmps114
 go_wp2_with fail
 refine (HC.out).mono ?_
 rintro e w3 ⟨v, a', err, rfl, hE3, hm⟩
 obtain ⟨d0, d1, d2, g1, g2⟩ := hE3.1.cells
 have p3 : w3.cell? ⟨w.heap.size, 0, none⟩ = some (.pointer (some ⟨g, 0, none⟩)) := hE3.2.cell (a := ⟨w.heap.size, 0, none⟩) (by simp) (by simpa using hne)
 have HE3 := Lib.hid hE3; have HM := Lib.hid hm; clear hE3 hm
 have HEF : Hid (Eff w w3 g s a' err) := Lib.hid ((H.out.eff HE0.out).trans HE3.out)
 by_cases he : err = 0
 ·subst he
  go_wp2_with fail
  go_ret
  exact .inl ⟨v, a', rfl, HEF.out, HM.out⟩
 ·have hb : (err == 0) = false := beq_eq_false_iff_ne.2 he
  have HNE := Lib.hid he; clear he
  go_wp2_with fail
  go_ret
  exact .inr ⟨err, HNE.out, rfl, HEF.out.trans (HEF.out.1.setAt' at_ rfl), _, _, _, HM.out⟩
theorem reading_err_68 (g at_ : Nat) (s F : Value) (e0 : Int) (w : World) (h : Rdr w g s at_ e0) (he : (e0 == 0) = false) :
  Calls Tryz.prog 114 #[.pointer (some ⟨g, 0, none⟩), F] w fun e w' => e = .returned (.int .i64 0) ∧ Ext w w' := by
 have hne : w.heap.size ≠ g := by have := Blk.lt h; omega
 have hgl : g < w.heap.size := Blk.lt h
 obtain ⟨c0, c1, c2, f1, f2⟩ := h.cells
 clear h
 go_enter Tryz.func114, Tryz.ntmps114
 go_wp2_with fail
 go_ret
 exact ⟨rfl, by repeat (first | exact Ext.rfl' _ | refine ext_drew ?_ | refine ext_alloc ?_ _)⟩
end Go.Proofs.YtidnboeihkeljaaGreatDoor.Wire
namespace Go.Proofs.YtidnboeihkeljaaGreatDoor.Wire

theorem fail0_71 (w : World) (pb g : Nat) (s : Value) (i : Nat) (f : Int) (hp : w.cell? ⟨pb, 0, none⟩ = some (.pointer (some ⟨g, 0, none⟩))) (h : Rdr w g s i 0) :
  Calls Tryz.prog 152 #[.int .i64 f, .pointer (some ⟨pb, 0, none⟩)] w fun e w' => e = .returned (.tuple #[]) ∧ Eff w w' g s i f := by
 obtain ⟨c0, c1, c2, f1, f2⟩ := h.cells
 have H := Lib.hid h; clear h
 go_enter Tryz.func152, Tryz.ntmps152
 go_wp2
 go_end0
 exact ⟨rfl, H.out.setErr f⟩
theorem piece_short_71 (pb g n c at_ m : Nat) (A : Option Addr) (xs : List Nat) (w : World) (hp : w.cell? ⟨pb, 0, none⟩ = some (.pointer (some ⟨g, 0, none⟩))) (h : Rdr w g (.slice A n c) at_ 0) (hat : at_ ≤ n) (hn : n ≤ 4000000000) (hm : n - at_ < m) :
  Calls Tryz.prog 141 #[.pointer (some ⟨g, 0, none⟩), .int .u64 (m : Int), .func (.func 152) #[] #[.pointer (some ⟨pb, 0, none⟩)]] w fun e w' => e = .returned (.slice none 0 0) ∧ Eff w w' g (.slice A n c) at_ 3 := by
 obtain ⟨c0, c1, c2, f1, f2⟩ := h.cells
 have HP := Lib.hid (kc (ext_drew (Ext.rfl' w)) hp); have H := Lib.hid h; clear hp h
 have HRD := Lib.hid (H.out.ext (ext_drew (Ext.rfl' _)))
 obtain ⟨L, hL⟩ : ∃ L : Nat, L = n - at_ := ⟨_, rfl⟩
 have hLm : (L : Int) < (m : Int) := by omega
 have HW1 : Hid (IntKind.i64.wrap ((n : Int) - (at_ : Int)) = (L : Int)) := Lib.hid (by rw [IntWalk.i64_in _ (by omega)]; omega)
 have HW2 : Hid (IntKind.u64.wrap (L : Int) = (L : Int)) := Lib.hid (by rw [IntKind.wrap_u64]; omega)
 clear hL
 go_enter Tryz.func141, Tryz.ntmps141
 go_wp2_with fail
 have hw1 := HW1.out
 have hw2 := HW2.out
 refine wp_still (by kernel_rfl) (by kernel_rfl) ?_
 repeat still_step
 refine wpStill_nil ?_
 clear hw1 hw2
 go_wp2_with fail
 refine (fail0_71 _ pb g _ at_ 3 HP.out HRD.out).mono ?_
 rintro e w3 ⟨rfl, hE3⟩
 have HE3 := Lib.hid hE3; clear hE3
 go_wp2_with fail
 go_ret
 exact ⟨rfl, (H.out.eff (ext_drew (Ext.rfl' _))).trans HE3.out⟩
end Go.Proofs.YtidnboeihkeljaaGreatDoor.Wire
namespace Go.Proofs.YtidnboeihkeljaaGreatDoor.Wire

theorem reading_71 (g at_ : Nat) (s : Value) (q0 : Value) (q1 : Value) (Φ : Value → Nat → Int → World → Prop) (w : World) (h : Rdr w g s at_ 0)
  (hC : Calls Tryz.prog 148 #[.func (.func 152) #[] #[.pointer (some ⟨w.heap.size, 0, none⟩)], q0, q1] (w.alloc (.cells #[.pointer (some ⟨g, 0, none⟩)] 145)) (CP (w.alloc (.cells #[.pointer (some ⟨g, 0, none⟩)] 145)) g s Φ)) :
  Calls Tryz.prog 147 #[.pointer (some ⟨g, 0, none⟩), .func (.func 148) #[] #[q0, q1]] w (RP w g s (.slice none 0 0) at_ Φ) := by
 have hne : w.heap.size ≠ g := by have := Blk.lt h; omega
 have hgl : g < w.heap.size := Blk.lt h
 have HE0 := Lib.hid (ext_alloc (Ext.rfl' w) (.cells #[.pointer (some ⟨g, 0, none⟩)] 145))
 obtain ⟨c0, c1, c2, f1, f2⟩ := h.cells
 have H := Lib.hid h; have HC := Lib.hid hC; clear h hC
 go_enter Tryz.func147, Tryz.ntmps147
 go_wp2_with fail
 refine (HC.out).mono ?_
 rintro e w3 ⟨v, a', err, rfl, hE3, hm⟩
 obtain ⟨d0, d1, d2, g1, g2⟩ := hE3.1.cells
 have p3 : w3.cell? ⟨w.heap.size, 0, none⟩ = some (.pointer (some ⟨g, 0, none⟩)) := hE3.2.cell (a := ⟨w.heap.size, 0, none⟩) (by simp) (by simpa using hne)
 have HE3 := Lib.hid hE3; have HM := Lib.hid hm; clear hE3 hm
 have HEF : Hid (Eff w w3 g s a' err) := Lib.hid ((H.out.eff HE0.out).trans HE3.out)
 by_cases he : err = 0
 ·subst he
  go_wp2_with fail
  go_ret
  exact .inl ⟨v, a', rfl, HEF.out, HM.out⟩
 ·have hb : (err == 0) = false := beq_eq_false_iff_ne.2 he
  have HNE := Lib.hid he; clear he
  go_wp2_with fail
  go_ret
  exact .inr ⟨err, HNE.out, rfl, HEF.out.trans (HEF.out.1.setAt' at_ rfl), _, _, _, HM.out⟩
theorem reading_err_71 (g at_ : Nat) (s F : Value) (e0 : Int) (w : World) (h : Rdr w g s at_ e0) (he : (e0 == 0) = false) :
  Calls Tryz.prog 147 #[.pointer (some ⟨g, 0, none⟩), F] w fun e w' => e = .returned (.slice none 0 0) ∧ Ext w w' := by
 have hne : w.heap.size ≠ g := by have := Blk.lt h; omega
 have hgl : g < w.heap.size := Blk.lt h
 obtain ⟨c0, c1, c2, f1, f2⟩ := h.cells
 clear h
 go_enter Tryz.func147, Tryz.ntmps147
 go_wp2_with fail
 go_ret
 exact ⟨rfl, by repeat (first | exact Ext.rfl' _ | refine ext_drew ?_ | refine ext_alloc ?_ _)⟩
end Go.Proofs.YtidnboeihkeljaaGreatDoor.Wire
namespace Go.Proofs.YtidnboeihkeljaaGreatDoor.Com
open Wire

theorem eff_app {w w3 w5 : World} {g i : Nat} {s : Value} {e : Int} {t : TypeId} {size n : Nat} {v : Value} {xs : List Value} (hE : Eff w w3 g s i e) (hO : w3.ownsRow w.heap.size t size v n xs) (hg : g < w.heap.size) (hgr : w3.grownBy w5 v.ownBlock) : Eff w w5 g s i e := by
 have hne : ∀ k, k < w.heap.size → some k ≠ v.ownBlock := fun k hk e => by have := own_ge hO k e.symm; omega
 refine ⟨(hgr.block g (Nat.lt_of_lt_of_le hg hE.2.size) (hne g hg)).trans hE.1, ⟨hgr.os.trans hE.2.os, hgr.tape.trans hE.2.tape, hgr.output.trans hE.2.output, Nat.le_trans hE.2.size hgr.size, fun k hk hkg => ?_⟩⟩
 exact (hgr.block k (Nat.lt_of_lt_of_le hk hE.2.size) (hne k hk)).trans (hE.2.block k hk hkg)
theorem own_low {w : World} {base base' : Nat} {e : TypeId} {size n : Nat} {v : Value} {xs : List Value} (h : w.ownsRow base e size v n xs) (hb : base' ≤ base) : w.ownsRow base' e size v n xs := by
 refine ⟨h.1, ?_⟩
 rcases h.2 with h | ⟨g, cap, cur, h1, h2, h3⟩
 ·exact .inl h
 ·exact .inr ⟨g, cap, cur, h1, Nat.le_trans hb h2, h3⟩
theorem conv8 {w : World} {A : Option Addr} {n : Nat} {xs : List Nat} (h : Bs w A n xs) (c : Nat) : (convert 48 9 (.slice A n c)).run Tryz.prog w = .ok (.string (strOf xs)) w :=
 h.conv (P := Tryz.prog) 48 5 9 Tryz.underlying48 Tryz.underlying5 Tryz.underlying9 c
end Go.Proofs.YtidnboeihkeljaaGreatDoor.Com
