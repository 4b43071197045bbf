
import Derived.Test.YtidnboeihkeljaaGreatDoorF15
import Derived.StillTailTactics
import Derived.Laws.Rows
import Derived.Laws.Tables
import Derived.Deep.Cut
import Derived.Deep.RegionHeld3
set_option maxHeartbeats 16000000
set_option maxRecDepth 100000
set_option linter.all false
open Go.ChangeShapes Go.WideShapes Go.ChangeAt Go.RowKit
namespace Go.Proofs.YtidnboeihkeljaaGreatDoor.Log
open Wire
def Two (w w' : World) (p q : Nat) : Prop := w'.os = w.os ∧ w'.tape = w.tape ∧ w'.output = w.output ∧ w.heap.size ≤ w'.heap.size ∧ ∀ k, k < w.heap.size → k ≠ p → k ≠ q → w'.heap[k]? = w.heap[k]?
theorem Two.of_set (w : World) (p q : Nat) (u v : Value) : Two w ((w.setCell ⟨q, 0, none⟩ u).setCell ⟨p, 0, none⟩ v) p q := by
 refine ⟨rfl, rfl, rfl, by simp [World.setCell], fun k _ h1 h2 => ?_⟩
 rw [Below.heap_setCell _ ⟨p, 0, none⟩ v k h1, Below.heap_setCell _ ⟨q, 0, none⟩ u k h2]
theorem Two.of_set3 (w : World) (p q : Nat) (u0 u v : Value) : Two w (((w.setCell ⟨q, 0, none⟩ u0).setCell ⟨q, 0, none⟩ u).setCell ⟨p, 0, none⟩ v) p q := by
 refine ⟨rfl, rfl, rfl, by simp [World.setCell], fun k _ h1 h2 => ?_⟩
 rw [Below.heap_setCell _ ⟨p, 0, none⟩ v k h1, Below.heap_setCell _ ⟨q, 0, none⟩ u k h2, Below.heap_setCell _ ⟨q, 0, none⟩ u0 k h2]
theorem Two.ext {a w w' : World} {p q : Nat} (h : Two w w' p q) (hE : Ext a w) (hp : a.heap.size ≤ p) (hq : a.heap.size ≤ q) : Ext a w' :=
 ⟨h.1.trans hE.os, h.2.1.trans hE.tape, h.2.2.1.trans hE.output, Nat.le_trans hE.size h.2.2.2.1, fun k hk => (h.2.2.2.2 k (Nat.lt_of_lt_of_le hk hE.size) (by omega) (by omega)).trans (hE.block k hk)⟩
def Boxes (w : World) (lb eb nb : Nat) (last : Int) (each : Nat) (n : Int) : Prop := Blk w lb 3 #[.int .i64 last] ∧ Blk w eb 3 #[.int .i64 (each : Int)] ∧ Blk w nb 3 #[.int .i64 n] ∧ lb ≠ eb ∧ lb ≠ nb ∧ eb ≠ nb
def eachI (last : Int) (each : Nat) (tick : Int) : Nat := if tick = last then each + 1 else 1
theorem pace1 (lb eb nb : Nat) (last tick n : Int) (each : Nat) (w : World) (h : Boxes w lb eb nb last each n) (he : each ≤ 1000000) :
  Calls Tryz.prog 102 #[.int .i64 tick, .pointer (some ⟨lb, 0, none⟩), .pointer (some ⟨eb, 0, none⟩), .pointer (some ⟨nb, 0, none⟩)] w fun e w' =>
   e = .returned (.bool (decide (last ≤ tick ∧ tick < n ∧ eachI last each tick ≤ 32))) ∧ Boxes w' lb eb nb tick (eachI last each tick) n ∧ Two w w' lb eb := by
 obtain ⟨h1, h2, h3, n1, n2, n3⟩ := h
 have a0 := h1.cell 0; have a1 := h1.frozen 0; have b0 := h2.cell 0; have b1 := h2.frozen 0; have d0 := h3.cell 0
 simp only [List.getElem?_toArray, List.getElem?_cons_zero] at a0 b0 d0
 have m1 := n1.symm; have m2 := n2.symm; have m3 := n3.symm
 have H1 := Lib.hid h1; have H2 := Lib.hid h2; have H3 := Lib.hid h3
 clear h1 h2 h3
 generalize hb : decide (last ≤ tick ∧ tick < n ∧ eachI last each tick ≤ 32) = b
 by_cases ht : tick = last
 ·subst ht
  have hE : Hid (eachI tick each tick = each + 1) := Lib.hid (by simp [eachI])
  rw [hE.out] at hb ⊢
  have K : Hid (Boxes ((w.setCell ⟨eb, 0, none⟩ (.int .i64 ((each : Int) + 1))).setCell ⟨lb, 0, none⟩ (.int .i64 tick)) lb eb nb tick (each + 1) n ∧ Two w ((w.setCell ⟨eb, 0, none⟩ (.int .i64 ((each : Int) + 1))).setCell ⟨lb, 0, none⟩ (.int .i64 tick)) lb eb) := Lib.hid <| by
   refine ⟨⟨?_, ?_, ?_, n1, n2, n3⟩, Two.of_set _ _ _ _ _⟩
   ·exact (H1.out.far (p := ⟨eb, 0, none⟩) n1 (.int .i64 ((each : Int) + 1))).set_ 0 (.int .i64 tick)
   ·exact (H2.out.set_ 0 (.int .i64 ((each : Int) + 1))).far (p := ⟨lb, 0, none⟩) m1 (.int .i64 tick)
   ·exact (H3.out.far (p := ⟨eb, 0, none⟩) m3 _).far (p := ⟨lb, 0, none⟩) m2 _
  by_cases hn : tick < n
  ·by_cases h32 : (each : Int) + 1 ≤ 32
   ·have hb' : Hid (b = true) := Lib.hid (by rw [← hb]; exact decide_eq_true ⟨by omega, hn, by omega⟩)
    clear hb
    go_enter Tryz.func102, Tryz.ntmps102
    go_wp2_with fail
    go_ret
    exact ⟨by rw [hb'.out]; rfl, K.out⟩
   ·have hb' : Hid (b = false) := Lib.hid (by rw [← hb]; exact decide_eq_false (by omega))
    clear hb
    go_enter Tryz.func102, Tryz.ntmps102
    go_wp2_with fail
    go_ret
    exact ⟨by rw [hb'.out]; rfl, K.out⟩
  ·have hb' : Hid (b = false) := Lib.hid (by rw [← hb]; exact decide_eq_false (by omega))
   clear hb
   go_enter Tryz.func102, Tryz.ntmps102
   go_wp2_with fail
   go_ret
   exact ⟨by rw [hb'.out]; rfl, K.out⟩
 ·have hE : Hid (eachI last each tick = 1) := Lib.hid (by simp [eachI, ht])
  rw [hE.out] at hb ⊢
  have K : Hid (Boxes (((w.setCell ⟨eb, 0, none⟩ (.int .i64 0)).setCell ⟨eb, 0, none⟩ (.int .i64 1)).setCell ⟨lb, 0, none⟩ (.int .i64 tick)) lb eb nb tick 1 n ∧ Two w (((w.setCell ⟨eb, 0, none⟩ (.int .i64 0)).setCell ⟨eb, 0, none⟩ (.int .i64 1)).setCell ⟨lb, 0, none⟩ (.int .i64 tick)) lb eb) := Lib.hid <| by
   refine ⟨⟨?_, ?_, ?_, n1, n2, n3⟩, Two.of_set3 _ _ _ _ _ _⟩
   ·exact ((H1.out.far (p := ⟨eb, 0, none⟩) n1 _).far (p := ⟨eb, 0, none⟩) n1 _).set_ 0 (.int .i64 tick)
   ·exact ((H2.out.set_ 0 (.int .i64 0)).set_ 0 (.int .i64 1)).far (p := ⟨lb, 0, none⟩) m1 (.int .i64 tick)
   ·exact ((H3.out.far (p := ⟨eb, 0, none⟩) m3 _).far (p := ⟨eb, 0, none⟩) m3 _).far (p := ⟨lb, 0, none⟩) m2 _
  by_cases hl : last ≤ tick
  ·by_cases hn : tick < n
   ·have hb' : Hid (b = true) := Lib.hid (by rw [← hb]; exact decide_eq_true ⟨hl, hn, by omega⟩)
    clear hb
    go_enter Tryz.func102, Tryz.ntmps102
    go_wp2_with fail
    go_ret
    exact ⟨by rw [hb'.out]; rfl, K.out⟩
   ·have hb' : Hid (b = false) := Lib.hid (by rw [← hb]; exact decide_eq_false (by omega))
    clear hb
    go_enter Tryz.func102, Tryz.ntmps102
    go_wp2_with fail
    go_ret
    exact ⟨by rw [hb'.out]; rfl, K.out⟩
  ·have hb' : Hid (b = false) := Lib.hid (by rw [← hb]; exact decide_eq_false (by omega))
   clear hb
   go_enter Tryz.func102, Tryz.ntmps102
   go_wp2_with fail
   go_ret
   exact ⟨by rw [hb'.out]; rfl, K.out⟩
def Paced (w : World) (base : Nat) (v : Value) (last : Int) (each : Nat) (n : Int) : Prop := ∃ lb eb nb, v = .func (.func 102) #[] #[.pointer (some ⟨lb, 0, none⟩), .pointer (some ⟨eb, 0, none⟩), .pointer (some ⟨nb, 0, none⟩)] ∧ Boxes w lb eb nb last each n ∧ base ≤ lb ∧ base ≤ eb ∧ base ≤ nb
theorem ticks_any (n : Int) (w : World) : Calls Tryz.prog 58 #[.int .i64 n] w fun e w' => e = .returned (.bool (decide (0 ≤ n ∧ n ≤ 4096))) ∧ Ext w w' := by
 generalize hb : decide (0 ≤ n ∧ n ≤ 4096) = b
 by_cases h1 : 0 ≤ n
 ·by_cases h2 : n ≤ 4096
  ·have hb' : Hid (b = true) := Lib.hid (by rw [← hb]; exact decide_eq_true ⟨h1, h2⟩)
   clear hb
   go_enter Tryz.func58, Tryz.ntmps58
   go_wp2_with fail
   go_ret
   exact ⟨by rw [hb'.out]; rfl, Ext.rfl' _⟩
  ·have hb' : Hid (b = false) := Lib.hid (by rw [← hb]; exact decide_eq_false (by omega))
   clear hb
   go_enter Tryz.func58, Tryz.ntmps58
   go_wp2_with fail
   go_ret
   exact ⟨by rw [hb'.out]; rfl, Ext.rfl' _⟩
 ·have hb' : Hid (b = false) := Lib.hid (by rw [← hb]; exact decide_eq_false (by omega))
  clear hb
  go_enter Tryz.func58, Tryz.ntmps58
  go_wp2_with fail
  go_ret
  exact ⟨by rw [hb'.out]; rfl, Ext.rfl' _⟩
theorem pace (n : Int) (w : World) : Calls Tryz.prog 59 #[.int .i64 n] w fun e w' => ∃ v, e = .returned v ∧ Paced w' w.heap.size v 0 0 n ∧ Ext w w' := by
 go_enter Tryz.func59, Tryz.ntmps59
 go_wp2_with fail
 go_ret
 have h1 := (Blk.new w 3 #[.int .i64 n]).alloc (.cells #[.int .i64 0] 3)
 have h2 := h1.alloc (.cells #[.int .i64 0] 3)
 have h3 := (Blk.new (w.alloc (.cells #[.int .i64 n] 3)) 3 #[.int .i64 0]).alloc (.cells #[.int .i64 0] 3)
 have h4 := Blk.new ((w.alloc (.cells #[.int .i64 n] 3)).alloc (.cells #[.int .i64 0] 3)) 3 #[.int .i64 0]
 have hz : ∀ (u : World) (o : Obj), (u.alloc o).heap.size = u.heap.size + 1 := fun u o => World.size_alloc u o
 rw [hz] at h3
 rw [hz, hz] at h4
 exact ⟨_, rfl, ⟨w.heap.size + 1, w.heap.size + 1 + 1, w.heap.size, rfl, ⟨h3, h4, h2, by omega, by omega, by omega⟩, by omega, by omega, Nat.le_refl _⟩, ext_alloc (ext_alloc (ext_alloc (Ext.rfl' _) _) _) _⟩
end Go.Proofs.YtidnboeihkeljaaGreatDoor.Log
namespace Go.Proofs.YtidnboeihkeljaaGreatDoor.Log
open Wire

def RSt (w : World) (g : Nat) (A : Option Addr) (n c : Nat) (xs : List Nat) (st : Option (List Nat)) : Prop :=
 ∃ (at_ : Nat) (e : Int), at_ ≤ n ∧ Rdr w g (.slice A n c) at_ e ∧ RB w g A n c xs ∧ n ≤ 4000000000 ∧ (match st with | some L => e = 0 ∧ L = xs.drop at_ | none => e ≠ 0)
def nx {α : Type} (f : List Nat → Option (α × List Nat)) (st : Option (List Nat)) : Option (List Nat) := (st.bind f).map (·.2)
def va {α : Type} (f : List Nat → Option (α × List Nat)) (d : α) (st : Option (List Nat)) : α := ((st.bind f).map (·.1)).getD d
theorem va_none {α : Type} {f : List Nat → Option (α × List Nat)} {d : α} {st : Option (List Nat)} (h : st.bind f = none) : va f d st = d ∧ nx f st = none := by simp [va, nx, h]
theorem va_some {α : Type} {f : List Nat → Option (α × List Nat)} {d : α} {st : Option (List Nat)} {x : α} {R : List Nat} (h : st.bind f = some (x, R)) : va f d st = x ∧ nx f st = some R := by simp [va, nx, h]
theorem RSt.lt {w : World} {g : Nat} {A : Option Addr} {n c : Nat} {xs : List Nat} {st : Option (List Nat)} (h : RSt w g A n c xs st) : g < w.heap.size := by
 obtain ⟨a, e, _, hr, _⟩ := h; exact Blk.lt hr
theorem RSt.small {w : World} {g : Nat} {A : Option Addr} {n c : Nat} {xs L : List Nat} (h : RSt w g A n c xs (some L)) : ∀ x ∈ L, x < 256 := by
 obtain ⟨a, e, _, _, hB, _, hm⟩ := h
 obtain ⟨_, rfl⟩ := hm
 exact fun x hx => mem_small hB.1.2.1 x (List.mem_of_mem_drop hx)
theorem RSt.far {w w' : World} {g : Nat} {A : Option Addr} {n c : Nat} {xs : List Nat} {st : Option (List Nat)} (h : RSt w g A n c xs st) (he : w'.heap[g]? = w.heap[g]?) (hb : ∀ a, A = some a → 0 < n → ∀ i, w'.cell? ⟨a.block, i, none⟩ = w.cell? ⟨a.block, i, none⟩) (hs : w.heap.size ≤ w'.heap.size) : RSt w' g A n c xs st := by
 obtain ⟨a, e, h1, hr, hB, h4, hm⟩ := h
 refine ⟨a, e, h1, he.trans hr, ⟨⟨hB.1.1, hB.1.2.1, fun hp => ?_⟩, hB.2⟩, h4, hm⟩
 obtain ⟨b, o, e1, hl, hc⟩ := hB.1.2.2 hp
 exact ⟨b, o, e1, Nat.lt_of_lt_of_le hl hs, fun j hj => (hb _ e1 hp _).trans (hc j hj)⟩
theorem RSt.ext {w w' : World} {g : Nat} {A : Option Addr} {n c : Nat} {xs : List Nat} {st : Option (List Nat)} (h : RSt w g A n c xs st) (hE : Ext w w') : RSt w' g A n c xs st := by
 obtain ⟨a, e, h1, hr, hB, h4, hm⟩ := h
 refine ⟨a, e, h1, hr.ext hE, ⟨hB.1.ext hE, hB.2⟩, h4, hm⟩
theorem num_st (g n c : Nat) (A : Option Addr) (xs : List Nat) (st : Option (List Nat)) (w : World) (h : RSt w g A n c xs st) :
  Calls Tryz.prog 120 #[.pointer (some ⟨g, 0, none⟩)] w fun e w' => e = .returned (.int .u64 ((va pN 0 st : Nat) : Int)) ∧ va pN 0 st < 18446744073709551616 ∧ RSt w' g A n c xs (nx pN st) ∧ w.grownBy w' (some g) := by
 have hsm := fun L (e : st = some L) => RSt.small (e ▸ h)
 obtain ⟨at_, e, h1, hr, hB, h4, hm⟩ := h
 cases st with
 | none =>
  refine (num_err g at_ _ e w hr (beq_eq_false_iff_ne.2 hm)).mono ?_
  rintro e' w' ⟨rfl, hE⟩
  exact ⟨rfl, by simp [va], ⟨at_, e, h1, hr.ext hE, ⟨hB.1.ext hE, hB.2⟩, h4, hm⟩, gb_ext hE _⟩
 | some L =>
  obtain ⟨rfl, rfl⟩ := hm
  refine (num g n c at_ A xs w hr hB.1 h1 h4).mono ?_
  rintro e' w' ⟨z, j, err, rfl, hz, hE, hm⟩
  cases hv : vr 0 0 (xs.drop at_) with
  | short =>
   have q := va_none (d := 0) (show (some (xs.drop at_)).bind pN = none by simp [pN, hv])
   rw [hv] at hm; obtain ⟨rfl, rfl, rfl⟩ := hm
   rw [q.1, q.2]
   exact ⟨rfl, by omega, ⟨at_, 3, h1, hE.1, hB.eff hE.2, h4, by simp⟩, hE.2⟩
  | form =>
   have q := va_none (d := 0) (show (some (xs.drop at_)).bind pN = none by simp [pN, hv])
   rw [hv] at hm; obtain ⟨rfl, rfl, rfl⟩ := hm
   rw [q.1, q.2]
   exact ⟨rfl, by omega, ⟨at_, 4, h1, hE.1, hB.eff hE.2, h4, by simp⟩, hE.2⟩
  | ok v k =>
   have q := va_some (d := 0) (show (some (xs.drop at_)).bind pN = some (v, (xs.drop at_).drop k) by simp [pN, hv])
   rw [hv] at hm; obtain ⟨rfl, rfl, rfl⟩ := hm
   have hk := (vr_ok (hsm _ rfl) hv).2.2.2
   rw [List.length_drop, hB.1.1] at hk
   rw [q.1, q.2]
   exact ⟨rfl, hz, ⟨at_ + j, 0, by omega, hE.1, hB.eff hE.2, h4, rfl, by rw [List.drop_drop]⟩, hE.2⟩
theorem int_st (g n c : Nat) (A : Option Addr) (xs : List Nat) (st : Option (List Nat)) (w : World) (h : RSt w g A n c xs st) :
  Calls Tryz.prog 80 #[.pointer (some ⟨g, 0, none⟩)] w fun e w' => e = .returned (.int .i64 ((va pI 0 st : Nat) : Int)) ∧ va pI 0 st ≤ 2147483647 ∧ RSt w' g A n c xs (nx pI st) ∧ w.grownBy w' (some g) := by
 have hsm := fun L (e : st = some L) => RSt.small (e ▸ h)
 obtain ⟨at_, e, h1, hr, hB, h4, hm⟩ := h
 cases st with
 | none =>
  refine (int_err g at_ _ e w hr (beq_eq_false_iff_ne.2 hm)).mono ?_
  rintro e' w' ⟨rfl, hE⟩
  exact ⟨rfl, by simp [va], ⟨at_, e, h1, hr.ext hE, ⟨hB.1.ext hE, hB.2⟩, h4, hm⟩, gb_ext hE _⟩
 | some L =>
  obtain ⟨rfl, rfl⟩ := hm
  refine (Wire.int g n c at_ A xs w hr hB.1 h1 h4).mono ?_
  rintro e' w' ⟨z, j, err, rfl, hz, hE, hm⟩
  cases hv : lim (vr 0 0 (xs.drop at_)) with
  | short =>
   have q := va_none (d := 0) (show (some (xs.drop at_)).bind pI = none by simp [pI, hv])
   rw [hv] at hm; obtain ⟨rfl, rfl, rfl⟩ := hm
   rw [q.1, q.2]
   exact ⟨rfl, by omega, ⟨at_, 3, h1, hE.1, hB.eff hE.2, h4, by simp⟩, hE.2⟩
  | form =>
   have q := va_none (d := 0) (show (some (xs.drop at_)).bind pI = none by simp [pI, hv])
   rw [hv] at hm; obtain ⟨rfl, rfl, rfl⟩ := hm
   rw [q.1, q.2]
   exact ⟨rfl, by omega, ⟨at_, 4, h1, hE.1, hB.eff hE.2, h4, by simp⟩, hE.2⟩
  | ok v k =>
   have q := va_some (d := 0) (show (some (xs.drop at_)).bind pI = some (v, (xs.drop at_).drop k) by simp [pI, hv])
   have hk : at_ + k ≤ n := by
    cases hr : vr 0 0 (xs.drop at_) with
    | short => rw [hr] at hv; cases hv
    | form => rw [hr] at hv; cases hv
    | ok x y =>
     have hk := (vr_ok (hsm _ rfl) hr).2.2.2
     rw [hr] at hv
     simp only [lim] at hv
     split at hv <;> cases hv
     rw [List.length_drop, hB.1.1] at hk
     omega
   rw [hv] at hm; obtain ⟨rfl, rfl, rfl⟩ := hm
   rw [q.1, q.2]
   exact ⟨rfl, hz, ⟨at_ + j, 0, hk, hE.1, hB.eff hE.2, h4, rfl, by rw [List.drop_drop]⟩, hE.2⟩
theorem be_lt {ys : List Nat} (h : ∀ c ∈ ys, c < 256) (hl : ys.length = 4) : be ys < 4294967296 := (fx_be4 h hl).2
theorem fixed_st (g n c : Nat) (A : Option Addr) (xs : List Nat) (st : Option (List Nat)) (w : World) (h : RSt w g A n c xs st) :
  Calls Tryz.prog 119 #[.pointer (some ⟨g, 0, none⟩)] w fun e w' => e = .returned (.int .u32 ((va pF 0 st : Nat) : Int)) ∧ va pF 0 st < 4294967296 ∧ RSt w' g A n c xs (nx pF st) ∧ w.grownBy w' (some g) := by
 have hsm := fun L (e : st = some L) => RSt.small (e ▸ h)
 obtain ⟨at_, e, h1, hr, hB, h4, hm⟩ := h
 cases st with
 | none =>
  refine (fixed_err g at_ _ e w hr (beq_eq_false_iff_ne.2 hm)).mono ?_
  rintro e' w' ⟨rfl, hE⟩
  exact ⟨rfl, by simp [va], ⟨at_, e, h1, hr.ext hE, ⟨hB.1.ext hE, hB.2⟩, h4, hm⟩, gb_ext hE _⟩
 | some L =>
  obtain ⟨rfl, rfl⟩ := hm
  refine (fixed g n c at_ A xs w hr hB h1 h4).mono ?_
  rintro e' w' (⟨hl, rfl, hE⟩ | ⟨hl, rfl, hE⟩)
  ·have q := va_some (d := 0) (show (some (xs.drop at_)).bind pF = some (be ((xs.drop at_).take 4), (xs.drop at_).drop 4) by simp only [Option.bind_some, pF, if_pos hl])
   rw [q.1, q.2]
   have hk := hl
   rw [List.length_drop, hB.1.1] at hk
   exact ⟨rfl, be_lt (fun x hx => hsm _ rfl x (List.mem_of_mem_take hx)) (by rw [List.length_take]; omega), ⟨at_ + 4, 0, by omega, hE.1, hB.eff hE.2, h4, rfl, by rw [List.drop_drop]⟩, hE.2⟩
  ·have q := va_none (d := 0) (show (some (xs.drop at_)).bind pF = none by simp only [Option.bind_some, pF, if_neg (show ¬ 4 ≤ (xs.drop at_).length by omega)])
   rw [q.1, q.2]
   exact ⟨rfl, by omega, ⟨at_, 3, h1, hE.1, hB.eff hE.2, h4, by simp⟩, hE.2⟩
theorem tr_eq (L : List Nat) (most : Nat) (hL : ∀ c ∈ L, c < 256) : (match tr L most with | .bad _ => pT most L = none | .ok ys k => pT most L = some (ys, L.drop k) ∧ k ≤ L.length) := by
 unfold tr pT pN
 cases hv : vr 0 0 L with
 | short => rfl
 | form => rfl
 | ok z k =>
  have hk := (vr_ok hL hv).2.2.2
  simp only
  by_cases h1 : z ≤ most
  ·rw [if_neg (by omega), if_pos h1]
   unfold pB
   rw [List.length_drop]
   by_cases h2 : L.length - k < z
   ·rw [if_pos h2, if_neg (by omega)]
   ·rw [if_neg h2, if_pos (by omega), List.drop_drop]
    exact ⟨rfl, by omega⟩
  ·rw [if_pos (by omega), if_neg h1]
theorem text_err (g at_ : Nat) (s : Value) (e0 most : Int) (w : World) (h : Rdr w g s at_ e0) (he : (e0 == 0) = false) :
  Calls Tryz.prog 118 #[.pointer (some ⟨g, 0, none⟩), .int .i64 most] w fun e w' => e = .returned (.string ⟨#[]⟩) ∧ Ext w w' := by
 have ha := ext_alloc (Ext.rfl' w) (.cells #[.pointer (some ⟨g, 0, none⟩)] 145)
 have hb := ext_alloc (Ext.rfl' (w.alloc (.cells #[.pointer (some ⟨g, 0, none⟩)] 145))) (.cells #[.int .i64 most] 3)
 have HC := Lib.hid (fun F => reading_err_70 g at_ s F e0 _ ((h.ext ha).ext hb) he)
 clear h he
 have HA := Lib.hid ha; have HB := Lib.hid hb; clear ha hb
 go_enter Tryz.func118, Tryz.ntmps118
 go_wp2_with fail
 refine (HC.out _).mono ?_
 rintro e w3 ⟨rfl, hE3⟩
 have HE3 := Lib.hid hE3; clear hE3
 go_wp2_with fail
 go_ret
 exact ⟨rfl, ext_trans (ext_trans HA.out HB.out) HE3.out⟩
theorem text_st (g n c most : Nat) (hmo : most ≤ 1000000) (A : Option Addr) (xs : List Nat) (st : Option (List Nat)) (w : World) (h : RSt w g A n c xs st) :
  Calls Tryz.prog 118 #[.pointer (some ⟨g, 0, none⟩), .int .i64 (most : Int)] w fun e w' => e = .returned (.string (strOf (va (pT most) [] st))) ∧ RSt w' g A n c xs (nx (pT most) st) ∧ w.grownBy w' (some g) := by
 have hsm := fun L (e : st = some L) => RSt.small (e ▸ h)
 obtain ⟨at_, e, h1, hr, hB, h4, hm⟩ := h
 cases st with
 | none =>
  refine (text_err g at_ _ e (most : Int) w hr (beq_eq_false_iff_ne.2 hm)).mono ?_
  rintro e' w' ⟨rfl, hE⟩
  exact ⟨rfl, ⟨at_, e, h1, hr.ext hE, ⟨hB.1.ext hE, hB.2⟩, h4, hm⟩, gb_ext hE _⟩
 | some L =>
  obtain ⟨rfl, rfl⟩ := hm
  refine (text g n c at_ (most : Int) (by omega) (by omega) A xs w hr hB h1 h4).mono ?_
  intro e' w' hp
  have ht := tr_eq (xs.drop at_) most (hsm _ rfl)
  unfold TPost at hp
  cases hv : tr (xs.drop at_) (most : Int) with
  | bad f =>
   rw [hv] at hp ht
   obtain ⟨rfl, hE⟩ := hp
   have q := va_none (d := []) (show (some (xs.drop at_)).bind (pT most) = none from ht)
   rw [q.1, q.2]
   exact ⟨rfl, ⟨at_, f, h1, hE.1, hB.eff hE.2, h4, tr_bad hv⟩, hE.2⟩
  | ok ys k =>
   rw [hv] at hp ht
   obtain ⟨rfl, hE⟩ := hp
   have q := va_some (d := []) (show (some (xs.drop at_)).bind (pT most) = some (ys, (xs.drop at_).drop k) from ht.1)
   rw [q.1, q.2]
   have hk := ht.2
   rw [List.length_drop, hB.1.1] at hk
   exact ⟨rfl, ⟨at_ + k, 0, by omega, hE.1, hB.eff hE.2, h4, rfl, by rw [List.drop_drop]⟩, hE.2⟩
theorem bytes_st (g n c m : Nat) (hm0 : m ≤ 1000000) (A : Option Addr) (xs : List Nat) (st : Option (List Nat)) (w : World) (h : RSt w g A n c xs st) :
  Calls Tryz.prog 132 #[.pointer (some ⟨g, 0, none⟩), .int .i64 (m : Int)] w fun e w' => (∃ v, e = .returned v ∧ ((st.bind (pB m) = none ∧ v = .slice none 0 0) ∨ ∃ ys R, st.bind (pB m) = some (ys, R) ∧ GotF w.heap.size w' ys v)) ∧ RSt w' g A n c xs (nx (pB m) st) ∧ w.grownBy w' (some g) := by
 have hsm := fun L (e : st = some L) => RSt.small (e ▸ h)
 obtain ⟨at_, e, h1, hr, hB, h4, hm⟩ := h
 cases st with
 | none =>
  refine (bytes_err g at_ _ (m : Int) e w hr (beq_eq_false_iff_ne.2 hm)).mono ?_
  rintro e' w' ⟨rfl, hE⟩
  exact ⟨⟨_, rfl, .inl ⟨rfl, rfl⟩⟩, ⟨at_, e, h1, hr.ext hE, ⟨hB.1.ext hE, hB.2⟩, h4, hm⟩, gb_ext hE _⟩
 | some L =>
  obtain ⟨rfl, rfl⟩ := hm
  refine (bytesF g n c at_ (m : Int) (by omega) (by omega) A xs w hr hB h1 h4).mono ?_
  rintro e' w' (⟨h0, _, _⟩ | ⟨_, hl, rfl, hE⟩ | ⟨_, hl, ⟨v, rfl, hG⟩, hE⟩)
  ·omega
  ·have q0 : (some (xs.drop at_)).bind (pB m) = none := by simp only [Option.bind_some, pB, if_neg (show ¬ m ≤ (xs.drop at_).length by omega)]
   have q := va_none (d := []) q0
   rw [q.2]
   exact ⟨⟨_, rfl, .inl ⟨q0, rfl⟩⟩, ⟨at_, 3, h1, hE.1, hB.eff hE.2, h4, by simp⟩, hE.2⟩
  ·have q0 : (some (xs.drop at_)).bind (pB m) = some ((xs.drop at_).take m, (xs.drop at_).drop m) := by simp only [Option.bind_some, pB, if_pos (show m ≤ (xs.drop at_).length by omega)]
   have q := va_some (d := []) q0
   rw [q.2]
   have hk := hl
   rw [List.length_drop, hB.1.1] at hk
   rw [Int.toNat_natCast] at hG hE
   exact ⟨⟨_, rfl, .inr ⟨_, _, q0, hG⟩⟩, ⟨at_ + m, 0, by omega, hE.1, hB.eff hE.2, h4, rfl, by rw [List.drop_drop]⟩, hE.2⟩
theorem err_st (g n c : Nat) (A : Option Addr) (xs : List Nat) (st : Option (List Nat)) (w : World) (h : RSt w g A n c xs st) :
  Calls Tryz.prog 81 #[.pointer (some ⟨g, 0, none⟩)] w fun e w' => ∃ x : Int, e = .returned (.int .i64 x) ∧ (x ≠ 0 ↔ st = none) ∧ w = w' := by
 obtain ⟨at_, e, h1, hr, hB, h4, hm⟩ := h
 refine (err_any g _ at_ e w hr).mono ?_
 rintro e' w' ⟨rfl, rfl⟩
 refine ⟨e, rfl, ?_, rfl⟩
 cases st with
 | none => simpa using hm
 | some L => simp [hm.1]
theorem end_st (g n c : Nat) (A : Option Addr) (xs : List Nat) (st : Option (List Nat)) (w : World) (h : RSt w g A n c xs st) :
  Calls Tryz.prog 91 #[.pointer (some ⟨g, 0, none⟩)] w fun e w' => ∃ x : Int, e = .returned (.int .i64 x) ∧ (x = 0 ↔ st = some []) ∧ Ext w w' := by
 obtain ⟨at_, e, h1, hr, hB, h4, hm⟩ := h
 cases st with
 | none =>
  refine (end_bad g _ at_ e w hr (beq_eq_false_iff_ne.2 hm)).mono ?_
  rintro e' w' ⟨rfl, hE⟩
  exact ⟨e, rfl, by simpa using hm, hE⟩
 | some L =>
  obtain ⟨rfl, rfl⟩ := hm
  refine (end_ok g n c A at_ w hr h1 h4).mono ?_
  rintro e' w' ⟨rfl, hE⟩
  refine ⟨_, rfl, ?_, hE⟩
  have hl : (xs.drop at_).length = n - at_ := by rw [List.length_drop, hB.1.1]
  by_cases he : at_ = n
  ·rw [if_pos he]
   simp only [true_iff, Option.some.injEq]
   exact List.eq_nil_of_length_eq_zero (by omega)
  ·rw [if_neg he]
   refine ⟨fun h => absurd h (by decide), fun h => ?_⟩
   rw [Option.some.inj h, List.length_nil] at hl
   omega
theorem of_st (A : Option Addr) (n c : Nat) (xs : List Nat) (w : World) (hB : Bs w A n xs) (hnil : A = none → n = 0 ∧ c = 0) (hn : n ≤ 4000000000) :
  Calls Tryz.prog 79 #[.slice A n c] w fun e w' => ∃ g A' c', e = .returned (.pointer (some ⟨g, 0, none⟩)) ∧ w.heap.size ≤ g ∧ RSt w' g A' n c' xs (some xs) ∧ Ext w w' ∧ (0 < n → ∀ a, A' = some a → w.heap.size ≤ a.block ∧ a.block ≠ g) := by
 refine (ofF A n c xs w hB hnil hn).mono ?_
 rintro e w' ⟨g, A', c', rfl, hg, hr, hRB, hE, hf⟩
 exact ⟨g, A', c', rfl, hg, ⟨0, 0, Nat.zero_le _, hr, hRB, hn, rfl, rfl⟩, hE, fun hp a ha => ⟨hf hp a ha, hRB.2.2.2.2 hp a ha⟩⟩
end Go.Proofs.YtidnboeihkeljaaGreatDoor.Log
namespace Go.Proofs.YtidnboeihkeljaaGreatDoor.Log
open Wire
def pE (L : List Nat) : Option (En × List Nat) :=
 match pI L with
 | none => none
 | some (s, L1) => match pB 3 L1 with
  | none => none
  | some (ys, L2) => match pN L2 with
   | none => none
   | some (u, L3) => match pN L3 with
    | none => none
    | some (t, L4) => match pN L4 with
     | none => none
     | some (g, L5) => some (⟨s, ys.getD 0 0, ys.getD 1 0, ys.getD 2 0, u, t, g⟩, L5)
def En.words (e : En) : Prop := e.unit ≤ 65535 ∧ e.tile ≤ 65535 ∧ e.target ≤ 65535
instance (e : En) : Decidable e.words := by unfold En.words; infer_instance
def pL (n : Nat) : Nat → Nat → Nat → List Nat → Option (List En × List Nat)
 | 0, _, _, L => some ([], L)
 | left + 1, last, each, L => match pE L with
  | none => none
  | some (x, R) => if x.words ∧ last + x.tick < n ∧ each' last each (last + x.tick) ≤ 32 then
    match pL n left (last + x.tick) (each' last each (last + x.tick)) R with
    | none => none
    | some (es, R') => some (({ x with tick := last + x.tick } : En) :: es, R')
   else none
theorem three_of {α : Type} : ∀ {l : List α}, l.length = 3 → ∃ a b c, l = [a, b, c]
 | [a, b, c], _ => ⟨a, b, c, rfl⟩
theorem pE_put {last : Nat} {e : En} (hf : e.fits) (hs : e.tick - last ≤ 2147483647) (ys : List Nat) : pE (enc1 last e ++ ys) = some ({ e with tick := e.tick - last }, ys) := by
 obtain ⟨h1, h2, h3, h4, h5, h6⟩ := hf
 unfold enc1
 simp only [List.append_assoc]
 unfold pE
 rw [pI_put hs]
 simp only
 rw [show ([e.player, e.doing, e.kind] ++ (vb e.unit ++ (vb e.tile ++ (vb e.target ++ ys)))) = [e.player, e.doing, e.kind] ++ (vb e.unit ++ (vb e.tile ++ (vb e.target ++ ys))) from rfl, show (3 : Nat) = [e.player, e.doing, e.kind].length from rfl, pB_put]
 simp only
 rw [pN_put (by omega)]
 simp only
 rw [pN_put (by omega)]
 simp only
 rw [pN_put (by omega)]
 rfl
theorem pL_put (n : Nat) (hn : n ≤ 2147483647) : ∀ (es : List En) (last each : Nat) (ys : List Nat), (∀ e ∈ es, e.fits) → paced n last each es → pL n es.length last each (encs last es ++ ys) = some (es, ys) := by
 intro es
 induction es with
 | nil => intro last each ys _ _; rfl
 | cons e es ih =>
  intro last each ys hf hp
  obtain ⟨p1, p2, p3, p4⟩ := hp
  have hfe := hf e (by simp)
  obtain ⟨h1, h2, h3, h4, h5, h6⟩ := hfe
  rw [List.length_cons, encs, List.append_assoc, pL, pE_put (hf e (by simp)) (by omega)]
  simp only
  rw [show last + (e.tick - last) = e.tick from by omega, if_pos ⟨⟨h4, h5, h6⟩, p2, p3⟩, ih e.tick _ ys (fun x hx => hf x (by simp [hx])) p4]
theorem pE_ok {L R : List Nat} (hL : ∀ c ∈ L, c < 256) {x : En} (h : pE L = some (x, R)) (last : Nat) : L = enc1 last { x with tick := last + x.tick } ++ R ∧ x.tick ≤ 2147483647 ∧ x.player < 256 ∧ x.doing < 256 ∧ x.kind < 256 ∧ x.unit < 18446744073709551616 ∧ x.tile < 18446744073709551616 ∧ x.target < 18446744073709551616 := by
 unfold pE at h
 split at h
 ·cases h
 rename_i s L1 h1
 split at h
 ·cases h
 rename_i ys L2 h2
 split at h
 ·cases h
 rename_i u L3 h3
 split at h
 ·cases h
 rename_i t L4 h4
 split at h
 ·cases h
 rename_i g L5 h5
 cases h
 obtain ⟨e1, f1⟩ := pI_ok hL h1
 have hL1 : ∀ c ∈ L1, c < 256 := fun c hc => hL c (by rw [e1]; exact List.mem_append_right _ hc)
 obtain ⟨e2, f2⟩ := pB_ok h2
 have hL2 : ∀ c ∈ L2, c < 256 := fun c hc => hL1 c (by rw [e2]; exact List.mem_append_right _ hc)
 obtain ⟨e3, f3⟩ := pN_ok hL2 h3
 have hL3 : ∀ c ∈ L3, c < 256 := fun c hc => hL2 c (by rw [e3]; exact List.mem_append_right _ hc)
 obtain ⟨e4, f4⟩ := pN_ok hL3 h4
 have hL4 : ∀ c ∈ L4, c < 256 := fun c hc => hL3 c (by rw [e4]; exact List.mem_append_right _ hc)
 obtain ⟨e5, f5⟩ := pN_ok hL4 h5
 obtain ⟨a, b, c, rfl⟩ := three_of f2
 have hy : ∀ x ∈ [a, b, c], x < 256 := fun x hx => hL1 x (by rw [e2]; exact List.mem_append_left _ hx)
 refine ⟨?_, f1, hy a (by simp), hy b (by simp), hy c (by simp), f3, f4, f5⟩
 unfold enc1
 simp only [Nat.add_sub_cancel_left, List.append_assoc]
 rw [← e5, ← e4, ← e3]
 exact e1.trans (congrArg _ e2)
theorem chain5 {L : List Nat} : (nx pN (nx pN (nx pN (nx (pB 3) (nx pI (some L))))) = none ∧ pE L = none) ∨
  ∃ s L1 ys L2 u L3 t L4 g L5, pI L = some (s, L1) ∧ pB 3 L1 = some (ys, L2) ∧ pN L2 = some (u, L3) ∧ pN L3 = some (t, L4) ∧ pN L4 = some (g, L5) ∧ pE L = some (⟨s, ys.getD 0 0, ys.getD 1 0, ys.getD 2 0, u, t, g⟩, L5) ∧
   nx pI (some L) = some L1 ∧ nx (pB 3) (some L1) = some L2 ∧ nx pN (some L2) = some L3 ∧ nx pN (some L3) = some L4 ∧ nx pN (some L4) = some L5 ∧ va pI 0 (some L) = s ∧ va pN 0 (some L2) = u ∧ va pN 0 (some L3) = t ∧ va pN 0 (some L4) = g := by
 cases h1 : pI L with
 | none => left; simp [nx, h1, pE]
 | some p1 =>
  obtain ⟨s, L1⟩ := p1
  cases h2 : pB 3 L1 with
  | none => left; simp [nx, h1, h2, pE]
  | some p2 =>
   obtain ⟨ys, L2⟩ := p2
   cases h3 : pN L2 with
   | none => left; simp [nx, h1, h2, h3, pE]
   | some p3 =>
    obtain ⟨u, L3⟩ := p3
    cases h4 : pN L3 with
    | none => left; simp [nx, h1, h2, h3, h4, pE]
    | some p4 =>
     obtain ⟨t, L4⟩ := p4
     cases h5 : pN L4 with
     | none => left; simp [nx, h1, h2, h3, h4, h5, pE]
     | some p5 =>
      obtain ⟨g, L5⟩ := p5
      right
      exact ⟨s, L1, ys, L2, u, L3, t, L4, g, L5, rfl, h2, h3, h4, h5, by simp [pE, h1, h2, h3, h4, h5], by simp [nx, h1], by simp [nx, h2], by simp [nx, h3], by simp [nx, h4], by simp [nx, h5], by simp [va, h1], by simp [va, h3], by simp [va, h4], by simp [va, h5]⟩
theorem results_cell2 {P : Program} {fn : Func} {p q : Tmp} {ty : TypeId} (h : fn.results = #[.cell p ty, .tmp q]) (tmps : Array Value) (w : World) (g : Nat) (t : TypeId) (cs : Array Value) (fr : Nat × Nat) (d : TypeDesc)
  (hp : tmps.getD p undef = .pointer (some ⟨g, 0, none⟩)) (hg : w.heap[g]? = some (.cells cs t fr)) (b : Value) (hq : tmps.getD q undef = b)
  (hu : P.underlying ty = some d) (hd : (match d with | .struct _ | .array _ _ => true | _ => false) = true) (hi : (P.info? ty).map (·.size) = some cs.size) :
  (results fn tmps).run P w = .ok (.tuple #[.agg cs, b]) w := by
 have hp' : tmps[p]?.getD undef = .pointer (some ⟨g, 0, none⟩) := by simpa using hp
 have hq' : tmps[q]?.getD undef = b := by simpa using hq
 simp [results, h, hp', hq', asAddr, run_loadVar_row w g t ty cs fr d hg hu hd hi]
theorem gb_far {a w : World} {r : Option Nat} (h : a.grownBy w r) {p : Addr} (hp : a.heap.size ≤ p.block) (u : Value) : a.grownBy (w.setCell p u) r :=
 ⟨h.os, h.tape, h.output, by have := h.size; simpa [World.setCell] using this, fun k hk hr => (Below.heap_setCell w p u k (by omega)).trans (h.block k hk hr)⟩
theorem gb_alloc {a w : World} {r : Option Nat} (h : a.grownBy w r) (o : Obj) : a.grownBy (w.alloc o) r :=
 ⟨h.os, h.tape, h.output, Nat.le_trans h.size (by rw [World.size_alloc]; omega), fun k hk hr => (Below.heap_alloc w o k (Nat.lt_of_lt_of_le hk h.size)).trans (h.block k hk hr)⟩
theorem gb_drew {a w : World} {r : Option Nat} (h : a.grownBy w r) : a.grownBy w.drew r := ⟨h.os, h.tape, h.output, h.size, h.block⟩
def RIn (B g : Nat) (A : Option Addr) (n : Nat) : Prop := g < B ∧ ∀ a, A = some a → 0 < n → a.block < B
theorem RSt.rin {w : World} {g : Nat} {A : Option Addr} {n c : Nat} {xs : List Nat} {st : Option (List Nat)} (h : RSt w g A n c xs st) : RIn w.heap.size g A n := by
 refine ⟨h.lt, fun a ha hp => ?_⟩
 obtain ⟨a', e, h1, hr, hB, h4, hm⟩ := h
 obtain ⟨b, o, e1, hl, hc⟩ := hB.1.2.2 hp
 obtain rfl := Option.some.inj (ha.symm.trans e1)
 exact hl
theorem RSt.keep {w w' : World} {B g : Nat} {A : Option Addr} {n c : Nat} {xs : List Nat} {st : Option (List Nat)} (hi : RIn B g A n) (h : RSt w g A n c xs st) (hk : ∀ k, k < B → w'.heap[k]? = w.heap[k]?) (hs : w.heap.size ≤ w'.heap.size) : RSt w' g A n c xs st :=
 h.far (hk g hi.1) (fun a ha hp i => World.cell?_of_block (hk _ (hi.2 a ha hp))) hs
theorem RSt.set {w : World} {B g : Nat} {A : Option Addr} {n c : Nat} {xs : List Nat} {st : Option (List Nat)} (hi : RIn B g A n) (h : RSt w g A n c xs st) {p : Addr} (hp : B ≤ p.block) (u : Value) : RSt (w.setCell p u) g A n c xs st :=
 h.keep hi (fun k hk => Below.heap_setCell w p u k (by omega)) (by simp [World.setCell])
def EV (t p d u l g k : Int) : Value := .agg #[.int .i64 t, .int .u8 p, .int .u8 d, .int .u16 u, .int .u16 l, .int .u16 g, .int .u8 k]
def EPost (w : World) (g : Nat) (A : Option Addr) (n c : Nat) (xs L : List Nat) (last : Int) (e : Ending) (w' : World) : Prop :=
 w.grownBy w' (some g) ∧ match pE L with
 | none => e = .returned (.tuple #[EV 0 0 0 0 0 0 0, .bool false]) ∧ RSt w' g A n c xs none
 | some (x, R) => e = .returned (.tuple #[EV (last + x.tick) x.player x.doing (IntKind.u16.wrap x.unit) (IntKind.u16.wrap x.tile) (IntKind.u16.wrap x.target) x.kind, .bool (decide x.words)]) ∧ RSt w' g A n c xs (some R)
end Go.Proofs.YtidnboeihkeljaaGreatDoor.Log
namespace Go.Proofs.YtidnboeihkeljaaGreatDoor.Log
open Wire

theorem blk_kept {w w' : World} {g r : Nat} {t : TypeId} {cs : Array Value} (h : Blk w g t cs) (k : w.grownBy w' (some r)) (hne : g ≠ r) : Blk w' g t cs := (k.block g h.lt (by simpa using hne)).trans h
theorem bs_kept {w w' : World} {A : Option Addr} {n r : Nat} {xs : List Nat} (h : Bs w A n xs) (k : w.grownBy w' (some r)) (hne : 0 < n → ∀ a, A = some a → a.block ≠ r) : Bs w' A n xs := by
  rcases Nat.eq_zero_or_pos n with rfl | hp
  · exact ⟨h.1, h.2.1, fun h0 => absurd h0 (by omega)⟩
  · exact h.kept k (fun a ha => by simpa using hne hp a ha)
def zeroEn : Array Value := #[.int .i64 0, .int .u8 0, .int .u8 0, .int .u16 0, .int .u16 0, .int .u16 0, .int .u8 0]
theorem entry_st (g n c : Nat) (A : Option Addr) (xs L : List Nat) (last : Int) (h1 : 0 ≤ last) (h2 : last ≤ 1000000) (w : World) (h : RSt w g A n c xs (some L)) :
    Calls Tryz.prog 121 #[.pointer (some ⟨g, 0, none⟩), .int .i64 last] w (EPost w g A n c xs L last) := by
  have hg := h.lt
  have hE0 := ext_alloc (Ext.rfl' w) (.cells #[.int .i64 0, .int .u8 0, .int .u8 0, .int .u16 0, .int .u16 0, .int .u16 0, .int .u8 0] 104)
  have hB0 := Blk.new w 104 #[.int .i64 0, .int .u8 0, .int .u8 0, .int .u16 0, .int .u16 0, .int .u16 0, .int .u8 0]
  have HA := Lib.hid (int_st g n c A xs (some L) _ (h.ext hE0))
  have HE0 := Lib.hid hE0; have HB0 := Lib.hid hB0
  have HG := Lib.hid hg
  have HR0 := Lib.hid h.rin
  have HC := Lib.hid (chain5 (L := L))
  clear h hE0 hg hB0
  go_enter Tryz.func121, Tryz.ntmps121
  go_wp2_with fail
  refine (HA.out).mono ?_
  rintro e w1 ⟨rfl, hz1, hS1, hG1⟩
  generalize hva : va pI 0 (some L) = z at *
  have HV0 := Lib.hid hva; clear hva
  have HS1 := Lib.hid hS1; have HG1 := Lib.hid hG1; clear hS1 hG1
  have HA1 := Lib.hid (bytes_st g n c 3 (by omega) A xs _ w1 HS1.out)
  go_wp2_with fail
  refine (HA1.out).mono ?_
  rintro e w2 ⟨⟨v, rfl, hv⟩, hS2, hG2⟩
  have HV := Lib.hid hv; have HS2 := Lib.hid hS2; have HG2 := Lib.hid hG2; clear hv hS2 hG2
  have HA2 := Lib.hid (num_st g n c A xs _ w2 HS2.out)
  go_wp2_with fail
  refine (HA2.out).mono ?_
  rintro e w3 ⟨rfl, hz3, hS3, hG3⟩
  generalize hva : va pN 0 (nx (pB 3) (nx pI (some L))) = u at *
  have HVu := Lib.hid hva; clear hva
  have HS3 := Lib.hid hS3; have HG3 := Lib.hid hG3; clear hS3 hG3
  have HA3 := Lib.hid (num_st g n c A xs _ w3 HS3.out)
  go_wp2_with fail
  refine (HA3.out).mono ?_
  rintro e w4 ⟨rfl, hz4, hS4, hG4⟩
  generalize hva : va pN 0 (nx pN (nx (pB 3) (nx pI (some L)))) = t at *
  have HVt := Lib.hid hva; clear hva
  have HS4 := Lib.hid hS4; have HG4 := Lib.hid hG4; clear hS4 hG4
  have HA4 := Lib.hid (num_st g n c A xs _ w4 HS4.out)
  go_wp2_with fail
  refine (HA4.out).mono ?_
  rintro e w5 ⟨rfl, hz5, hS5, hG5⟩
  generalize hva : va pN 0 (nx pN (nx pN (nx (pB 3) (nx pI (some L))))) = gg at *
  have HVg := Lib.hid hva; clear hva
  have HS5 := Lib.hid hS5; have HG5 := Lib.hid hG5; clear hS5 hG5
  have HA5 := Lib.hid (err_st g n c A xs _ w5 HS5.out)
  have HGG : Hid (w.grownBy w5 (some g)) := Lib.hid (gb_trans (gb_trans (gb_trans (gb_trans (gb_trans (gb_ext HE0.out _) HG1.out) HG2.out) HG3.out) HG4.out) HG5.out)
  have hne : w.heap.size ≠ g := by have := HG.out; omega
  have hBR := blk_kept (blk_kept (blk_kept (blk_kept (blk_kept HB0.out HG1.out hne) HG2.out hne) HG3.out hne) HG4.out hne) HG5.out hne
  have HBR := Lib.hid hBR
  have a0 := fun i => hBR.cell i; have a1 := fun i => hBR.frozen i
  clear hBR
  go_wp2_with fail
  refine (HA5.out).mono ?_
  rintro e w6 ⟨x, rfl, hx, rfl⟩
  rcases HC.out with ⟨c1, c2⟩ | ⟨s, L1, ys, L2, u', L3, t', L4, g', L5, c1, c2, c3, c4, c5, c6, d1, d2, d3, d4, d5, f1, f2, f3, f4⟩
  · have hx' : ¬ x = 0 := hx.2 c1
    have HX := Lib.hid (And.intro c1 c2)
    clear c1 c2 hx
    go_wp2_with fail
    have hb1 := ((((((HBR.out.set_ 0 (.int .i64 0)).set_ 1 (.int .u8 0)).set_ 2 (.int .u8 0)).set_ 3 (.int .u16 0)).set_ 4 (.int .u16 0)).set_ 5 (.int .u16 0)).set_ 6 (.int .u8 0)
    refine bodyPost_ret (v := .tuple #[EV 0 0 0 0 0 0 0, .bool false]) (results_cell2 Tryz.results121 _ _ w.heap.size 104 _ (0, 0) _ rfl hb1 _ rfl Tryz.underlying104 rfl (by kernel_rfl)) rfl ?_
    refine ⟨gb_far (gb_far (gb_far (gb_far (gb_far (gb_far (gb_far HGG.out (Nat.le_refl _) _) (Nat.le_refl _) _) (Nat.le_refl _) _) (Nat.le_refl _) _) (Nat.le_refl _) _) (Nat.le_refl _) _) (Nat.le_refl _) _, ?_⟩
    rw [HX.out.2]
    refine ⟨rfl, ?_⟩
    have hr := HS5.out
    rw [HX.out.1] at hr
    exact ((((((hr.set HR0.out (Nat.le_refl _) _).set HR0.out (Nat.le_refl _) _).set HR0.out (Nat.le_refl _) _).set HR0.out (Nat.le_refl _) _).set HR0.out (Nat.le_refl _) _).set HR0.out (Nat.le_refl _) _).set HR0.out (Nat.le_refl _) _
  · have q2 : nx (pB 3) (nx pI (some L)) = some L2 := by rw [d1, d2]
    have q3 : nx pN (nx (pB 3) (nx pI (some L))) = some L3 := by rw [q2, d3]
    have q4 : nx pN (nx pN (nx (pB 3) (nx pI (some L)))) = some L4 := by rw [q3, d4]
    have q5 : nx pN (nx pN (nx pN (nx (pB 3) (nx pI (some L))))) = some L5 := by rw [q4, d5]
    have hx' : x = 0 := by
      by_cases h0 : x = 0
      · exact h0
      · exact absurd (hx.1 h0) (by rw [q5]; simp)
    obtain rfl : z = s := f1
    obtain rfl : u = u' := by rw [← HVu.out, q2, f2]
    obtain rfl : t = t' := by rw [← HVt.out, q3, f3]
    obtain rfl : gg = g' := by rw [← HVg.out, q4, f4]
    obtain rfl := hx'
    have HPE := Lib.hid c6
    obtain ⟨y0, y1, y2, rfl⟩ := three_of (pB_ok c2).2
    have hGot : GotF w1.heap.size w2 [y0, y1, y2] v := by
      rcases HV.out with ⟨h0, _⟩ | ⟨ys', R', h0, hG⟩
      · rw [d1, Option.bind_some, c2] at h0; cases h0
      · rw [d1, Option.bind_some, c2] at h0; cases h0; exact hG
    obtain ⟨A', c', rfl, hc3, hc4, hc5, hBs, hfar⟩ := hGot
    have hgw : g < w1.heap.size := (HS1.out).lt
    have hne3 : 0 < ([y0, y1, y2] : List Nat).length → ∀ a, A' = some a → a.block ≠ g := fun hp a ha => by have := hfar hp a ha; omega
    have hBs5 := bs_kept (bs_kept (bs_kept hBs HG3.out hne3) HG4.out hne3) HG5.out hne3
    obtain ⟨b, o, rfl, hlt, hcs⟩ := hBs5.2.2 (by simp)
    have e0 := hcs 0 (by simp); have e1 := hcs 1 (by simp); have e2 := hcs 2 (by simp)
    have l0 := hBs5.2.1 0; have l1 := hBs5.2.1 1; have l2 := hBs5.2.1 2
    simp only [Nat.add_zero, List.getD_cons_zero, List.getD_cons_succ] at e0 e1 e2 l0 l1 l2
    have HQ5 := Lib.hid q5
    clear a0 a1
    clear hx c1 c2 c3 c4 c5 c6 d1 d2 d3 d4 d5 f2 f3 f4 q2 q3 q4 q5 hc5 hBs hfar hne3 hBs5 hcs
    simp only [List.length_cons, List.length_nil, Nat.zero_add, Nat.reduceAdd] at *
    go_wp2_with fail
    have MKS := Lib.hid (fun (w' : World) (e : Ext w5 w') => (⟨kc e e0, kc e e1, kc e e2, Lib.hid e⟩ : w'.cell? ⟨b, o, none⟩ = some (.int .u8 (y0 : Int)) ∧ w'.cell? ⟨b, o + 1, none⟩ = some (.int .u8 (y1 : Int)) ∧ w'.cell? ⟨b, o + 2, none⟩ = some (.int .u8 (y2 : Int)) ∧ Hid (Ext w5 w')))
    go_region_held3 (fun w' => w'.cell? ⟨b, o, none⟩ = some (.int .u8 (y0 : Int)) ∧ w'.cell? ⟨b, o + 1, none⟩ = some (.int .u8 (y1 : Int)) ∧ w'.cell? ⟨b, o + 2, none⟩ = some (.int .u8 (y2 : Int)) ∧ Hid (Ext w5 w'))
      ((refine MKS.out _ ?_; repeat (first | exact Ext.rfl' _ | refine ext_alloc ?_ _ | refine ext_drew ?_ | refine ext_set ?_ (by first | omega | (simp; done) | (simp; omega)) _)))
      (fail)
    clear MKS
    obtain ⟨W6, hW6⟩ : ∃ W, W = (w5.alloc (.cells #[.int .u8 (y0 : Int), .int .u8 (y1 : Int), .int .u16 (IntKind.u16.wrap (u : Int)), .int .u16 (IntKind.u16.wrap (t : Int)), .int .u16 (IntKind.u16.wrap (gg : Int)), .int .u8 (y2 : Int)] 102)).drew := ⟨_, rfl⟩
    have hb6 := (HBR.out.alloc (.cells #[.int .u8 (y0 : Int), .int .u8 (y1 : Int), .int .u16 (IntKind.u16.wrap (u : Int)), .int .u16 (IntKind.u16.wrap (t : Int)), .int .u16 (IntKind.u16.wrap (gg : Int)), .int .u8 (y2 : Int)] 102)).drew
    have hc6 := (Blk.new w5 102 #[.int .u8 (y0 : Int), .int .u8 (y1 : Int), .int .u16 (IntKind.u16.wrap (u : Int)), .int .u16 (IntKind.u16.wrap (t : Int)), .int .u16 (IntKind.u16.wrap (gg : Int)), .int .u8 (y2 : Int)]).drew
    have HGW : Hid (w.grownBy W6 (some g)) := Lib.hid (by rw [hW6]; exact gb_drew (gb_alloc HGG.out _))
    have HSW : Hid (RSt W6 g A n c xs (some L5)) := Lib.hid (by rw [hW6, ← HQ5.out]; exact HS5.out.ext (ext_drew (ext_alloc (Ext.rfl' _) _)))
    have hwz : w.heap.size < w5.heap.size := HBR.out.lt
    rw [← hW6] at hb6 hc6 ⊢
    clear hW6
    have HB6 := Lib.hid hb6
    have z0 := fun i => hb6.cell i; have z1 := fun i => hb6.frozen i; have z2 := fun i => hc6.cell i
    clear hb6 hc6
    go_wp2_with fail
    all_goals
      have hb1 := ((((((HB6.out.set_ 0 (.int .i64 (last + (z : Int)))).set_ 1 (.int .u8 (y0 : Int))).set_ 2 (.int .u8 (y1 : Int))).set_ 3 (.int .u16 (IntKind.u16.wrap (u : Int)))).set_ 4 (.int .u16 (IntKind.u16.wrap (t : Int)))).set_ 5 (.int .u16 (IntKind.u16.wrap (gg : Int)))).set_ 6 (.int .u8 (y2 : Int))
      refine bodyPost_ret (v := .tuple #[EV (last + (z : Int)) y0 y1 (IntKind.u16.wrap (u : Int)) (IntKind.u16.wrap (t : Int)) (IntKind.u16.wrap (gg : Int)) y2, .bool (decide (En.words ⟨z, y0, y1, y2, u, t, gg⟩))]) (results_cell2 Tryz.results121 _ _ w.heap.size 104 _ (0, 0) _ rfl hb1 _ ?_ Tryz.underlying104 rfl (by kernel_rfl)) rfl ?_
    all_goals first
      | (refine ⟨gb_far (gb_far (gb_far (gb_far (gb_far (gb_far (gb_far HGW.out (Nat.le_refl _) _) (Nat.le_refl _) _) (Nat.le_refl _) _) (Nat.le_refl _) _) (Nat.le_refl _) _) (Nat.le_refl _) _) (Nat.le_refl _) _, ?_⟩
         rw [HPE.out]
         exact ⟨rfl, ((((((HSW.out.set HR0.out (Nat.le_refl _) _).set HR0.out (Nat.le_refl _) _).set HR0.out (Nat.le_refl _) _).set HR0.out (Nat.le_refl _) _).set HR0.out (Nat.le_refl _) _).set HR0.out (Nat.le_refl _) _).set HR0.out (Nat.le_refl _) _⟩)
      | (refine congrArg Value.bool (decide_eq_decide.2 ?_)
         clear z0 z1 z2
         show _ ↔ (u ≤ 65535 ∧ t ≤ 65535 ∧ gg ≤ 65535)
         rcases Nat.lt_or_ge u t with hut | hut
         · simp only [if_pos hut] at *
           omega
         · simp only [if_neg (Nat.not_lt.2 hut)] at *
           omega)
end Go.Proofs.YtidnboeihkeljaaGreatDoor.Log
