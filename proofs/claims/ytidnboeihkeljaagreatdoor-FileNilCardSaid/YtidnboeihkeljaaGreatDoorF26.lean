
import Derived.Test.YtidnboeihkeljaaGreatDoorF11
import Derived.RangeFuncNested
import Derived.RangeFuncBound
import Derived.RangeFuncCalls
import Derived.RangeFuncLeaves
import Derived.RangeFuncBox
import Derived.Shelf.Abstract
import Derived.Shelf.RegionOpen
import Derived.OwnWalkIn
import Derived.TacticsInMore
import Derived.LoopNIn
import Derived.LoopIn
set_option maxHeartbeats 16000000
set_option maxRecDepth 100000
set_option linter.all false
namespace Go.Proofs.YtidnboeihkeljaaGreatDoor.Delta
open Go.ChangeShapes Go.WideShapes Go.ChangeAt Go.RowKit Go.Shelf
open Wire
abbrev Run (n : Nat) := { t : Nat × Nat × Nat // t.1 ≤ n ∧ t.2.1 ≤ t.2.2 ∧ t.2.2 ≤ n }
def encR (n g c : Nat) (t : Run n) : Array Value := #[.int .i64 (t.1.1 : Int), .slice (some ⟨g, t.1.2.1, none⟩) (t.1.2.2 - t.1.2.1) (c - t.1.2.1)]
def txt (xs : List Nat) {n : Nat} (t : Run n) : List Nat := vb t.1.1 ++ vb (t.1.2.2 - t.1.2.1) ++ (xs.drop t.1.2.1).take (t.1.2.2 - t.1.2.1)
def txts (xs : List Nat) {n : Nat} (l : List (Run n)) : List Nat := (l.map (txt xs)).flatten
theorem txts_snoc (xs : List Nat) {n : Nat} (l : List (Run n)) (t : Run n) : txts xs (l ++ [t]) = txts xs l ++ txt xs t := by simp [txts]
def Keep2 (x g : Nat) (w w' : World) : Prop := w.heap.size ≤ w'.heap.size ∧ ∀ k, k = x ∨ k = g → k < w.heap.size → w'.heap[k]? = w.heap[k]?
theorem Keep2.trans {x g : Nat} {a b c : World} (h : Keep2 x g a b) (k : Keep2 x g b c) : Keep2 x g a c := ⟨Nat.le_trans h.1 k.1, fun i hi hl => (k.2 i hi (Nat.lt_of_lt_of_le hl h.1)).trans (h.2 i hi hl)⟩
theorem Keep2.cell {x g : Nat} {w w' : World} (h : Keep2 x g w w') {k o : Nat} {v : Value} (hk : k = x ∨ k = g) (hc : w.cell? ⟨k, o, none⟩ = some v) : w'.cell? ⟨k, o, none⟩ = some v :=
 (World.cell?_of_block (h.2 k hk (World.block_lt_of_cell? w _ hc))).trans hc
theorem bs_keep {x : Nat} {w w' : World} {g n : Nat} {xs : List Nat} (h : Bs w (some ⟨g, 0, none⟩) n xs) (hb : Keep2 x g w w') : Bs w' (some ⟨g, 0, none⟩) n xs :=
 ⟨h.1, h.2.1, fun hp => by
  obtain ⟨b, o, he, hlt, hc⟩ := h.2.2 hp
  obtain ⟨rfl, rfl⟩ : b = g ∧ o = 0 := by cases he; exact ⟨rfl, rfl⟩
  exact ⟨b, 0, rfl, Nat.lt_of_lt_of_le hlt hb.1, fun j hj => hb.cell (.inr rfl) (hc j hj)⟩⟩
def ItRel (xb g c : Nat) (xs : List Nat) (J : List (Run xs.length) → World → Prop) (av : Value) (wr : World) : Prop :=
 ∃ (k : Nat) (pre : List (Run xs.length)), k ≤ xs.length ∧ av = .int .i64 (k : Int) ∧ pre.length ≤ k ∧ txts xs pre ++ enc (xs.drop k) = enc xs ∧ J pre wr ∧
  wr.cell? ⟨xb, 0, none⟩ = some (.slice (some ⟨g, 0, none⟩) xs.length c) ∧ Bs wr (some ⟨g, 0, none⟩) xs.length xs
def InRel (xs : List Nat) (j : Nat) (av nv : Value) : Prop :=
 ∃ i : Nat, j ≤ i ∧ i ≤ xs.length ∧ av = .int .i64 (i : Int) ∧ nv = .int .i64 (zr (xs.drop i) : Nat) ∧ lit (xs.drop j) = (i - j) + lit (xs.drop i)
theorem runs1_in (n : Nat) (hn : 1 ≤ n) (l xb g c : Nat) (xs : List Nat) (J Jx : List (Run xs.length) → World → Prop) (hxl : xs.length ≤ 4000000000) (hc : xs.length ≤ c) (hc2 : c ≤ 9223372036854775807)
  (hY : ∀ pre x W, J pre W → pre.length < xs.length → YieldAt Fence.wide (n - 1) Tryz.prog l (encR xs.length g c x) W fun e W' =>
   (e = .returned (.bool true) ∧ J (pre ++ [x]) W' ∧ Keep2 xb g W W') ∨ (e = .returned (.bool false) ∧ Jx (pre ++ [x]) W'))
  (W : World) (hX : W.cell? ⟨xb, 0, none⟩ = some (.slice (some ⟨g, 0, none⟩) xs.length c)) (hB : Bs W (some ⟨g, 0, none⟩) xs.length xs) (h0 : J [] W) :
  CallsIn Fence.wide n Tryz.prog 128 #[.func (.yield l) #[] #[], .pointer (some ⟨xb, 0, none⟩)] W fun e W' => (∃ v, e = .returned v) ∧
   ((∃ ys, txts xs ys = enc xs ∧ J ys W') ∨ (∃ pre, True ∧ Jx pre W')) := by
 have HY := Lib.hid hY; clear hY
 have HB := Lib.hid hB; have HX := Lib.hid hX; clear hB hX
 refine callsIn_of_wp Tryz.func128 rfl trivial ?_ rfl
 simp only [Tryz.ntmps128, List.size_toArray, List.length_cons, List.length_nil, Nat.reduceAdd, Nat.reduceSub, Array.replicate_succ, Array.replicate_zero, List.push_toArray, List.append_toArray, List.nil_append, List.cons_append]
 gi_wp2_with fail
 gi_loopw [4] (fun av wr => ItRel xb g c xs J av wr) (fun av _ => xs.length - (intOf av).toNat)
 case atStart => exact ⟨0, [], Nat.zero_le _, rfl, Nat.le_refl _, by simp [txts], h0, HX.out, HB.out⟩
 case round =>
  clear HB HX
  obtain ⟨k, pre, hk, rfl, hpl, hE, hJ, hX, hB⟩ := hrel
  have HE := Lib.hid hE; have HJ := Lib.hid hJ; have HB := Lib.hid hB; clear hE hJ hB
  gi_wp2_with fail
  refine ⟨trivial, (callsIn_wide.2 (zeros xb xs.length c k (some ⟨g, 0, none⟩) xs wr hX HB.out hk hxl)).mono ?_⟩
  rintro e w' ⟨rfl, rfl⟩
  have hzr := zr_le (xs.drop k)
  rw [List.length_drop] at hzr
  have HFULL := Lib.hid (fun h => zr_full (l := xs.drop k) h)
  have HMORE := Lib.hid (fun h => enc_more (l := xs.drop k) h)
  have HSTOP := Lib.hid (fun h => enc_stop (l := xs.drop k) h)
  have HDD := Lib.hid (fun m => List.drop_drop (l := xs) (i := m) (j := k))
  generalize zr (xs.drop k) = z at *
  by_cases hz : k + z = xs.length
  ·have hb : (((k : Int) + (z : Int)) == (xs.length : Int)) = true := beq_iff_eq.2 (by omega)
   have HR : Hid (txts xs pre = enc xs) := Lib.hid (by rw [← HE.out, HSTOP.out (by rw [List.length_drop]; omega), List.append_nil])
   clear hz HFULL HMORE HSTOP HDD
   gi_wp2_with fail
   refine bodyPost_ret (results_none rfl _ _ _) rfl ?_
   exact ⟨⟨_, rfl⟩, .inl ⟨pre, HR.out, HJ.out⟩⟩
  ·have hlz : z < (xs.drop k).length := by rw [List.length_drop]; omega
   have hb : (((k : Int) + (z : Int)) == (xs.length : Int)) = false := beq_eq_false_iff_ne.2 (by omega)
   have hj1 : k + z < xs.length := by omega
   have h1 := HFULL.out hlz
   have h2 := lit_pos h1.2 h1.1
   have h3 := lit_le ((xs.drop k).drop z)
   have hz0 := h1.2
   rw [HDD.out z] at h2 h3 hz0
   rw [List.length_drop] at h3
   have HM2 : Hid (enc (xs.drop k) = vb z ++ vb (lit (xs.drop (k + z))) ++ (xs.drop (k + z)).take (lit (xs.drop (k + z))) ++ enc (xs.drop (k + (z + lit (xs.drop (k + z)))))) := Lib.hid (by
    rw [HMORE.out hlz, HDD.out z, HDD.out])
   have HZ0 := Lib.hid hz0
   clear hlz h1 hz0 HFULL HMORE HSTOP HDD
   have HNZ := Lib.hid hz; clear hz
   gi_wp2_with fail
   gi_loop [4, 7] (fun av nv => InRel xs (k + z) av nv) (fun av _ => xs.length - (intOf av).toNat)
   case atStart => exact ⟨k + z, Nat.le_refl _, by omega, by go_num, by rw [HZ0.out]; rfl, by omega⟩
   case round =>
    obtain ⟨i, hi1, hi2, rfl, rfl, hli⟩ := hrel
    have HLI := Lib.hid hli; clear hli
    have HLJ := Lib.hid (fun m a b c => lit_jump (xs.drop i) m a b c)
    have HLS := Lib.hid (fun h => lit_stop (l := xs.drop i) h)
    have hzi := zr_le (xs.drop i)
    rw [List.length_drop] at hzi
    have HDD := Lib.hid (fun m => List.drop_drop (l := xs) (i := m) (j := i))
    generalize hq : zr (xs.drop i) = q at *
    have HQ := Lib.hid hq; clear hq
    by_cases hgo : q < 4 ∧ q < xs.length - i
    ·obtain ⟨hg1, hg2⟩ := hgo
     have HN : Hid (lit (xs.drop (k + z)) = (i + q + 1 - (k + z)) + lit (xs.drop (i + q + 1))) := Lib.hid (by
      have e := HLJ.out q rfl hg1 (by rw [List.length_drop]; omega)
      rw [HDD.out, show i + (q + 1) = i + q + 1 from by omega] at e
      have := HLI.out
      omega)
     clear HLJ HLS HDD
     gi_wp2_with fail
     rw [show ((i : Int) + ((q : Int) + 1)) = ((i + q + 1 : Nat) : Int) from by omega]
     refine ⟨trivial, (callsIn_wide.2 (zeros xb xs.length c (i + q + 1) (some ⟨g, 0, none⟩) xs wr hX HB.out (by omega) hxl)).mono ?_⟩
     rintro e w' ⟨rfl, rfl⟩
     gi_wp2_with fail
     go_round
     case rel => exact ⟨i + q + 1, by omega, by omega, rfl, rfl, HN.out⟩
     case measure => simp [intOf]; omega
    ·have HS0 : Hid (lit (xs.drop i) = 0) := Lib.hid (HLS.out (by rw [List.length_drop]; omega))
     have HI : Hid (lit (xs.drop (k + z)) = i - (k + z)) := Lib.hid (by have := HLI.out; have := HS0.out; omega)
     have hpos : k + z < i := by have := HI.out; omega
     have i0 : (0 : Int) ≤ (k : Int) + (z : Int) := by omega
     have i1 : (k : Int) + (z : Int) ≤ (i : Int) := by omega
     have i2 : (i : Int) ≤ (c : Int) := by omega
     clear HLJ HLS HDD HLI HS0 h2 h3
     have HT : Hid (txts xs (pre ++ [(⟨(z, k + z, i), by omega, by omega, hi2⟩ : Run xs.length)]) ++ enc (xs.drop i) = enc xs) := Lib.hid (by
      rw [txts_snoc, ← HE.out, HM2.out, HI.out, show k + (z + (i - (k + z))) = i from by omega]
      simp only [txt, List.append_assoc])
     obtain ⟨fn, tmps, assign, body, hy, hR⟩ := HY.out pre ⟨(z, k + z, i), by omega, by omega, hi2⟩ wr HJ.out (by omega)
     simp only [encR] at hy
     have HR := Lib.hid hR; clear hR
     clear HM2 HE HI HZ0
     have hstop : 4 ≤ q ∨ (q < 4 ∧ q = xs.length - i) := by omega
     rcases hstop with hc1 | ⟨hc1, hc2⟩
     ·gi_wp2_with fail
      refine HR.out.mono ?_
      rintro e W3 (⟨rfl, hJ3, hk3⟩ | ⟨rfl, hJx3⟩)
      ·have hX3 := hk3.cell (.inl rfl) hX
       have HB3 := Lib.hid (bs_keep HB.out hk3)
       have HJ3 := Lib.hid hJ3
       clear hJ3 hk3 hy
       gi_wp2_with fail
       go_roundw
       case rel => exact ⟨i, _, hi2, rfl, by simp; omega, HT.out, HJ3.out, hX3, HB3.out⟩
       case measure => simp [intOf]; omega
      ·have HJx3 := Lib.hid hJx3; clear hJx3 hy
       gi_wp2_with fail
       refine bodyPost_ret (results_none rfl _ _ _) rfl ?_
       exact ⟨⟨_, rfl⟩, .inr ⟨_, trivial, HJx3.out⟩⟩
     ·have hnl : ¬ (i : Int) + (q : Int) < (xs.length : Int) := by omega
      clear hc2
      gi_wp2_with fail
      refine HR.out.mono ?_
      rintro e W3 (⟨rfl, hJ3, hk3⟩ | ⟨rfl, hJx3⟩)
      ·have hX3 := hk3.cell (.inl rfl) hX
       have HB3 := Lib.hid (bs_keep HB.out hk3)
       have HJ3 := Lib.hid hJ3
       clear hJ3 hk3 hy
       gi_wp2_with fail
       go_roundw
       case rel => exact ⟨i, _, hi2, rfl, by simp; omega, HT.out, HJ3.out, hX3, HB3.out⟩
       case measure => simp [intOf]; omega
      ·have HJx3 := Lib.hid hJx3; clear hJx3 hy
       gi_wp2_with fail
       refine bodyPost_ret (results_none rfl _ _ _) rfl ?_
       exact ⟨⟨_, rfl⟩, .inr ⟨_, trivial, HJx3.out⟩⟩
end Go.Proofs.YtidnboeihkeljaaGreatDoor.Delta
namespace Go.Proofs.YtidnboeihkeljaaGreatDoor.Delta
open Go.ChangeShapes Go.WideShapes Go.ChangeAt Go.RowKit
open Wire

theorem same_yes (A B : Option Addr) (n c m d : Nat) (xs : List Nat) (w : World) (hA : Bs w A n xs) (hB : Bs w B m xs) :
  Calls Tryz.prog 83 #[.slice A n c, .slice B m d] w fun e w' => e = .returned (.bool true) ∧ w = w' := by
 have h1 := hA.conv (P := Tryz.prog) 48 5 9 Tryz.underlying48 Tryz.underlying5 Tryz.underlying9 c
 have h2 := hB.conv (P := Tryz.prog) 48 5 9 Tryz.underlying48 Tryz.underlying5 Tryz.underlying9 d
 clear hA hB
 generalize strOf xs = S at *
 go_enter Tryz.func83, Tryz.ntmps83
 go_wp2_with fail
 go_ret
 exact ⟨rfl, rfl⟩
theorem same_no (A B : Option Addr) (n c m d : Nat) (xs ys : List Nat) (w : World) (hA : Bs w A n xs) (hB : Bs w B m ys) (hne : xs ≠ ys) :
  Calls Tryz.prog 83 #[.slice A n c, .slice B m d] w fun e w' => e = .returned (.bool false) ∧ w = w' := by
 have h1 := hA.conv (P := Tryz.prog) 48 5 9 Tryz.underlying48 Tryz.underlying5 Tryz.underlying9 c
 have h2 := hB.conv (P := Tryz.prog) 48 5 9 Tryz.underlying48 Tryz.underlying5 Tryz.underlying9 d
 have h3 : ((strOf xs).toList == (strOf ys).toList) = false := beq_eq_false_iff_ne.2 (str_ne (fun e => hne (strOf_inj hA.2.1 hB.2.1 e)))
 clear hA hB hne
 generalize strOf xs = S at *
 generalize strOf ys = T at *
 go_enter Tryz.func83, Tryz.ntmps83
 go_wp2_with fail
 go_ret
 exact ⟨rfl, rfl⟩
end Go.Proofs.YtidnboeihkeljaaGreatDoor.Delta
