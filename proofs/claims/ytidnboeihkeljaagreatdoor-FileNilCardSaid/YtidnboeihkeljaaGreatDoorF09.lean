
import Derived.Test.YtidnboeihkeljaaGreatDoorRows
import Derived.Test.YtidnboeihkeljaaGreatDoorF00
import Derived.LaidLaws
import Derived.LoopTactic
import Derived.IntWalk
import Derived.Lib.SlBytesConst
set_option maxHeartbeats 16000000
set_option maxRecDepth 100000
set_option linter.all false
open Go.ChangeShapes Go.WideShapes Go.ChangeAt Go.RowKit
namespace Go.Proofs.YtidnboeihkeljaaGreatDoor.Crc
def hv : List Nat := [0x00000000, 0x1db71064, 0x3b6e20c8, 0x26d930ac, 0x76dc4190, 0x6b6b51f4, 0x4db26158, 0x5005713c, 0xedb88320, 0xf00f9344, 0xd6d6a3e8, 0xcb61b38c, 0x9b64c2b0, 0x86d3d2d4, 0xa00ae278, 0xbdbdf21c]
def hw (i : Nat) : BitVec 32 := BitVec.ofNat 32 (hv.getD i 0)
def Tab (w : World) : Prop := ∀ i : Nat, i < 16 → w.cell? ⟨0, i, none⟩ = some (.int .u32 ((hw i).toNat : Int))
theorem Tab.lt {w : World} (h : Tab w) : 0 < w.heap.size := World.block_lt_of_cell? w _ (h 0 (by omega))
theorem Tab.ext {w w' : World} (h : Tab w) (hb : Ext w w') : Tab w' := fun i hi => (hb.cell (p := ⟨_, i, none⟩) h.lt).trans (h i hi)
def Rd (w : World) (A : Option Addr) (n : Nat) (xs : List Nat) : Prop :=
 xs.length = n ∧ (∀ j, xs.getD j 0 < 256) ∧ (0 < n → ∃ b o, A = some ⟨b, o, none⟩ ∧ b < w.heap.size ∧ ∀ j, j < n → w.cell? ⟨b, o + j, none⟩ = some (.int .u8 (xs.getD j 0 : Nat)))
def half (m : BitVec 32) : BitVec 32 := m >>> 4 ^^^ hw (m &&& 15#32).toNat
def byteW (n : BitVec 32) (c : Nat) : BitVec 32 := half (half (n ^^^ BitVec.ofNat 32 c))
def feed (n : BitVec 32) (xs : List Nat) : BitVec 32 := xs.foldl byteW n
def moreW (s : BitVec 32) (xs : List Nat) : BitVec 32 := ~~~ feed (~~~ s) xs
theorem xor_bv (n s : BitVec 32) : bits .xor .u32 (n.toNat : Int) (s.toNat : Int) = ((n ^^^ s).toNat : Int) := by
 show IntKind.u32.wrap ((BitVec.ofInt 32 (n.toNat : Int) ^^^ BitVec.ofInt 32 (s.toNat : Int)).toNat : Int) = _
 rw [BitVec.ofInt_natCast, BitVec.ofInt_natCast, BitVec.ofNat_toNat, BitVec.ofNat_toNat, BitVec.setWidth_eq, BitVec.setWidth_eq]
 have := (n ^^^ s).isLt
 rw [IntKind.wrap_u32]
 omega
theorem and_bv (n s : BitVec 32) : bits .and .u32 (n.toNat : Int) (s.toNat : Int) = ((n &&& s).toNat : Int) := by
 show IntKind.u32.wrap ((BitVec.ofInt 32 (n.toNat : Int) &&& BitVec.ofInt 32 (s.toNat : Int)).toNat : Int) = _
 rw [BitVec.ofInt_natCast, BitVec.ofInt_natCast, BitVec.ofNat_toNat, BitVec.ofNat_toNat, BitVec.setWidth_eq, BitVec.setWidth_eq]
 have := (n &&& s).isLt
 rw [IntKind.wrap_u32]
 omega
theorem not_bv (s : BitVec 32) : bits .xor .u32 IntKind.u32.max (s.toNat : Int) = ((~~~ s).toNat : Int) := by
 have h := xor_bv (BitVec.allOnes 32) s
 rw [BitVec.allOnes_xor] at h
 exact h
theorem shr4_bv (n : BitVec 32) : (n.toNat : Int) / (16 : Int) = ((n >>> 4).toNat : Int) := by
 rw [BitVec.toNat_ushiftRight, Nat.shiftRight_eq_div_pow]; omega
theorem and15_lt (m : BitVec 32) : (m &&& 15#32).toNat < 16 := by
 rw [BitVec.toNat_and]
 exact Nat.lt_of_le_of_lt Nat.and_le_right (by decide)
def ORel (t : BitVec 32) (xs : List Nat) (nv iv : Value) : Prop := ∃ k : Nat, k ≤ xs.length ∧ nv = .int .u32 ((feed t (xs.take k)).toNat : Int) ∧ iv = .int .i64 (k : Int)
def IRel (m : BitVec 32) (nv jv : Value) : Prop := (nv = .int .u32 (m.toNat : Int) ∧ jv = .int .i64 0) ∨ (nv = .int .u32 ((half m).toNat : Int) ∧ jv = .int .i64 1) ∨ (nv = .int .u32 ((half (half m)).toNat : Int) ∧ jv = .int .i64 2)
theorem feed_snoc (n : BitVec 32) (xs : List Nat) (k : Nat) (h : k < xs.length) : feed n (xs.take (k + 1)) = byteW (feed n (xs.take k)) (xs.getD k 0) := by
 unfold feed
 rw [List.take_succ_eq_append_getElem h, List.foldl_append]
 simp [List.getD_eq_getElem?_getD, List.getElem?_eq_getElem h]
theorem byte_nat {c : Nat} (h : c < 256) : (BitVec.ofNat 32 c).toNat = c := by rw [BitVec.toNat_ofNat]; omega
theorem more_nil (s : BitVec 32) (A : Option Addr) (c : Nat) (w : World) :
  Calls Tryz.prog 109 #[.int .u32 (s.toNat : Int), .slice A 0 c] w fun e w' => e = .returned (.int .u32 (s.toNat : Int)) ∧ w = w' := by
 have h0 := s.isLt
 go_enter Tryz.func109, Tryz.ntmps109
 go_wp2
 rw [not_bv]
 have ht : ~~~ (~~~ s) = s := BitVec.not_not
 generalize ~~~ s = t at *
 have HT := Lib.hid ht; clear ht
 go_loop [5, 12] (fun nv iv => nv = .int .u32 (t.toNat : Int) ∧ iv = .int .i64 0) (fun _ _ => 0)
 case atStart => exact ⟨rfl, rfl⟩
 case round =>
  obtain ⟨rfl, rfl⟩ := hrel
  go_wp2
  rw [not_bv, HT.out]
  go_ret
  exact ⟨rfl, rfl⟩
theorem half_rules (m : BitVec 32) (w : World) (hT : Tab w) : ∃ (a : Nat) (sh t : BitVec 32), a < 16 ∧ bits BinOp.and IntKind.u32 (m.toNat : Int) 15 = (a : Int) ∧ (m.toNat : Int) / 16 = (sh.toNat : Int) ∧ w.cell? ⟨0, a, none⟩ = some (.int .u32 (t.toNat : Int)) ∧ bits .xor .u32 (sh.toNat : Int) (t.toNat : Int) = ((half m).toNat : Int) :=
 ⟨(m &&& 15#32).toNat, m >>> 4, hw (m &&& 15#32).toNat, and15_lt m, and_bv m 15#32, shr4_bv m, hT _ (and15_lt m), xor_bv _ _⟩
theorem more_some (s : BitVec 32) (b o n c : Nat) (xs : List Nat) (w : World) (hT : Tab w) (hl : xs.length = n) (hb : ∀ j, xs.getD j 0 < 256) (hc : ∀ j, j < n → w.cell? ⟨b, o + j, none⟩ = some (.int .u8 (xs.getD j 0 : Nat))) (hn : n ≤ 4000000000) :
  Calls Tryz.prog 109 #[.int .u32 (s.toNat : Int), .slice (some ⟨b, o, none⟩) n c] w fun e w' => e = .returned (.int .u32 ((moreW s xs).toNat : Int)) ∧ w = w' := by
 have h0 := s.isLt
 have HT := Lib.hid hT; clear hT
 have HC := Lib.hid hc; clear hc
 have HB := Lib.hid hb; clear hb
 have HL := Lib.hid hl
 have hfin : moreW s xs = ~~~ feed (~~~ s) xs := rfl
 generalize moreW s xs = fin at *
 have HF := Lib.hid hfin; clear hfin
 go_enter Tryz.func109, Tryz.ntmps109
 go_wp2
 rw [not_bv]
 generalize ~~~ s = t at *
 have hle : n ≤ xs.length := by omega
 have hle2 : xs.length ≤ n := by omega
 clear hl
 go_loop [5, 12] (fun nv iv => ORel t xs nv iv) (fun _ iv => n - (intOf iv).toNat)
 case atStart => exact ⟨0, by omega, rfl, rfl⟩
 case round =>
  obtain ⟨k, hk, rfl, rfl⟩ := hrel
  by_cases hlt : k < n
  ·have hk0 : (0 : Int) ≤ (k : Int) := by omega
   have hk1 : (k : Int) < (n : Int) := by omega
   have c0 := HC.out k hlt
   have c1 := HB.out k
   have HFS := Lib.hid (feed_snoc t xs k (by omega))
   rw [← byte_nat c1] at c0
   generalize hcb : BitVec.ofNat 32 (xs.getD k 0) = cb at *
   generalize hnn : feed t (xs.take k) = nn at *
   have HCB := Lib.hid hcb; have HNN := Lib.hid hnn; clear hcb hnn
   have n1 := nn.isLt
   go_wp2
   rw [xor_bv]
   generalize hm : nn ^^^ cb = m at *
   have HM := Lib.hid hm; clear hm
   go_loop [5, 20] (fun nv jv => IRel m nv jv) (fun _ jv => 2 - (intOf jv).toNat)
   case atStart => exact .inl ⟨rfl, rfl⟩
   case round =>
    rcases hrel with ⟨rfl, rfl⟩ | ⟨rfl, rfl⟩ | ⟨rfl, rfl⟩
    ·obtain ⟨a, sh, t0, ha, r1, r2, r3, r4⟩ := half_rules m w HT.out
     have ha0 : (a : Int) < 16 := by omega
     have n2 := m.isLt
     have R4 := Lib.hid r4; clear r4
     go_wp2
     go_round
     case rel => exact .inr (.inl ⟨by rw [R4.out], rfl⟩)
     case measure => simp [intOf]
    ·generalize hm2 : half m = m2 at *
     have HM2 := Lib.hid hm2; clear hm2
     obtain ⟨a, sh, t0, ha, r1, r2, r3, r4⟩ := half_rules m2 w HT.out
     have ha0 : (a : Int) < 16 := by omega
     have n2 := m2.isLt
     have R4 := Lib.hid r4; clear r4
     go_wp2
     go_round
     case rel => exact .inr (.inr ⟨by rw [HM2.out, R4.out], rfl⟩)
     case measure => simp [intOf]
    ·have HG : Hid (byteW nn (xs.getD k 0) = half (half m)) := Lib.hid (by unfold byteW; rw [HCB.out, HM.out])
     generalize half (half m) = m3 at *
     go_wp2
     go_round
     case rel => exact ⟨k + 1, by omega, by rw [HFS.out, HG.out], by go_num⟩
     case measure => simp [intOf]; omega
  ·have hk2 : k = xs.length := by omega
   have HX := Lib.hid (show feed t (xs.take k) = feed t xs by rw [hk2, List.take_length])
   have HY := Lib.hid (not_bv (feed t xs))
   clear hk2
   rw [HX.out]
   generalize feed t xs = y at *
   go_wp2
   rw [HY.out]
   go_ret
   exact ⟨by rw [HF.out]; rfl, rfl⟩
theorem more (s : BitVec 32) (A : Option Addr) (n c : Nat) (xs : List Nat) (w : World) (hT : Tab w) (h : Rd w A n xs) (hn : n ≤ 4000000000) :
  Calls Tryz.prog 109 #[.int .u32 (s.toNat : Int), .slice A n c] w fun e w' => e = .returned (.int .u32 ((moreW s xs).toNat : Int)) ∧ w = w' := by
 rcases Nat.eq_zero_or_pos n with rfl | hp
 ·have : xs = [] := List.eq_nil_of_length_eq_zero h.1
  subst this
  have e : moreW s [] = s := by simp [moreW, feed]
  rw [e]
  exact more_nil s A c w
 ·obtain ⟨b, o, rfl, _, hc⟩ := h.2.2 hp
  exact more_some s b o n c xs w hT h.1 h.2.1 hc hn
theorem sum (A : Option Addr) (n c : Nat) (xs : List Nat) (w : World) (hT : Tab w) (h : Rd w A n xs) (hn : n ≤ 4000000000) :
  Calls Tryz.prog 66 #[.slice A n c] w fun e w' => e = .returned (.int .u32 ((moreW 0#32 xs).toNat : Int)) ∧ w = w' := by
 have H := Lib.hid (fun W hW hR => more 0#32 A n c xs W hW hR hn)
 have HT := Lib.hid hT; have HR := Lib.hid h; clear hT h
 generalize moreW 0#32 xs = y at *
 go_enter Tryz.func66, Tryz.ntmps66
 go_wp2_with fail
 refine (H.out _ HT.out HR.out).mono ?_
 rintro e w1 ⟨rfl, rfl⟩
 go_wp2_with fail
 go_ret
 exact ⟨rfl, rfl⟩
end Go.Proofs.YtidnboeihkeljaaGreatDoor.Crc
namespace Go.Proofs.YtidnboeihkeljaaGreatDoor.Crc

def poly : BitVec 32 := 0xedb88320#32
def step (x : BitVec 32) : BitVec 32 := if x.getLsbD 0 = true then x >>> 1 ^^^ poly else x >>> 1
def stepN : Nat → BitVec 32 → BitVec 32
 | 0, x => x
 | k + 1, x => step (stepN k x)
end Go.Proofs.YtidnboeihkeljaaGreatDoor.Crc
namespace Go.Proofs.YtidnboeihkeljaaGreatDoor.Crc
def word : List Nat → BitVec 32
 | [] => 0#32
 | c :: u => BitVec.ofNat 32 c ^^^ word u <<< 8
end Go.Proofs.YtidnboeihkeljaaGreatDoor.Crc
namespace Go.Proofs.YtidnboeihkeljaaGreatDoor.Crc

def RRel (xs : List Nat) (nv iv : Value) : Prop := ∃ k : Nat, k ≤ xs.length ∧ nv = .int .u32 ((feed (~~~ 0#32) (xs.take k)).toNat : Int) ∧ iv = .int .i64 (k : Int)
def SRel (m : BitVec 32) (c0 : Nat) (nv cv kv : Value) : Prop := ∃ (k : Nat) (x : BitVec 32), k ≤ 8 ∧ nv = .int .u32 (x.toNat : Int) ∧ cv = .int .u32 ((c0 / 2 ^ k : Nat) : Int) ∧ kv = .int .i64 (k : Int) ∧ x ^^^ BitVec.ofNat 32 (c0 / 2 ^ k) = stepN k m
end Go.Proofs.YtidnboeihkeljaaGreatDoor.Crc
namespace Go.Proofs.YtidnboeihkeljaaGreatDoor.Crc

end Go.Proofs.YtidnboeihkeljaaGreatDoor.Crc
