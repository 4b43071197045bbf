/- Lemmas that all layers above wire use (bytes, texts, a reader's block). -/
import Derived.Test.YtckjmabacibojaaDoorGA
import Derived.BigRegion
import Derived.Deep.RegionHeld
import Derived.Deep.RegionHeld3
import Derived.Laws.CopyOwn
import Derived.Lib.BufferWrite
import Derived.LoopIn
import Derived.LoopNIn
import Derived.LoopTactic
import Derived.Maps.AppendAt
import Derived.OrdersHeld
import Derived.OwnWalkIn
import Derived.RangeFuncBound
import Derived.RangeFuncBox
import Derived.RangeFuncCalls
import Derived.RangeFuncLeaves
import Derived.RangeFuncNested
import Derived.RegionTactic
import Derived.Shelf.Abstract
import Derived.Shelf.RegionOpen
import Derived.Sort.CutIn
import Derived.TacticsInMore
import Derived.WalkLawsBesides
import Derived.Test.YtckjmabacibojaaDoorGC
import Derived.Maps.Keyed
import Derived.Maps.Own
import Derived.Maps.OwnOps
import Derived.WalkMore
import Derived.BigQuiet
import Derived.Deep.DeepCutAuto
import Derived.Laws.IdiomStrings
namespace Go.Proofs.YtckjmabacibojaaDoor.Com
open Go.ChangeShapes Go.WideShapes Go.ChangeAt Go.RowKit
open Go.Proofs.YtckjmabacibojaaDoor.Wire
set_option linter.unusedVariables false

theorem eff_app {w w3 w5 : World} {g i : Nat} {s : Value} {e : Int} {t : TypeId} {size n : Nat} {v : Value} {xs : List Value} (hE : Eff w w3 g s i e) (hO : w3.ownsRow w.heap.size t size v n xs) (hg : g < w.heap.size) (hgr : w3.grownBy w5 v.ownBlock) : Eff w w5 g s i e := by
  have hne : ∀ k, k < w.heap.size → some k ≠ v.ownBlock := fun k hk e => by have := own_ge hO k e.symm; omega
  refine ⟨(hgr.block g (Nat.lt_of_lt_of_le hg hE.2.size) (hne g hg)).trans hE.1, ⟨hgr.os.trans hE.2.os, hgr.tape.trans hE.2.tape, hgr.output.trans hE.2.output, Nat.le_trans hE.2.size hgr.size, fun k hk hkg => ?_⟩⟩
  exact (hgr.block k (Nat.lt_of_lt_of_le hk hE.2.size) (hne k hk)).trans (hE.2.block k hk hkg)
theorem own_low {w : World} {base base' : Nat} {e : TypeId} {size n : Nat} {v : Value} {xs : List Value} (h : w.ownsRow base e size v n xs) (hb : base' ≤ base) : w.ownsRow base' e size v n xs := by
  refine ⟨h.1, ?_⟩
  rcases h.2 with h | ⟨g, cap, cur, h1, h2, h3⟩
  · exact .inl h
  · exact .inr ⟨g, cap, cur, h1, Nat.le_trans hb h2, h3⟩
theorem extract_drop (l : List Nat) (a b : Nat) : l.extract a b = (l.drop a).take (b - a) := by simp [List.extract]
theorem str_ext (X : ByteArray) (j i : Nat) : X.extract j i = strOf (((natsOf X).drop j).take (i - j)) := by
  have h1 := strOf_nats (X.extract j i)
  rw [← h1]
  congr 1
  unfold natsOf
  rw [ByteArray.data_extract, Array.toList_extract, List.extract]
  simp [List.map_take, List.map_drop]
theorem natsOf_get (s : ByteArray) (k : Nat) (h : k < s.size) : (natsOf s).getD k 0 = s[k].toNat := by
  unfold natsOf
  rw [List.getD_eq_getElem?_getD, List.getElem?_map, List.getElem?_eq_getElem (by rw [Array.length_toList]; exact h)]
  rfl
theorem conv8 {w : World} {A : Option Addr} {n : Nat} {xs : List Nat} (h : Bs w A n xs) (c : Nat) : (convert 22 9 (.slice A n c)).run Tryd.prog w = .ok (.string (strOf xs)) w :=
  h.conv (P := Tryd.prog) 22 5 9 Tryd.underlying22 Tryd.underlying5 Tryd.underlying9 c
theorem nats_ext (s : ByteArray) (k : Nat) : natsOf (s.extract k s.size) = (natsOf s).drop k := by
  rw [str_ext, nats_strOf]
  · rw [List.take_of_length_le]; rw [List.length_drop, natsOf_len]; exact Nat.le_refl _
  · exact small_mem (fun c hc => mem_small (natsOf_small s) c (List.mem_of_mem_drop (List.mem_of_mem_take hc)))
end Go.Proofs.YtckjmabacibojaaDoor.Com
namespace Go.Proofs.YtckjmabacibojaaDoor.Lz
open Go.ChangeShapes Go.WideShapes Go.ChangeAt Go.RowKit
open Go.Proofs.YtckjmabacibojaaDoor.Wire
set_option linter.unusedVariables false

/-- The last bytes told once more, so many. -/
def rep (out : List Nat) (back : Nat) : Nat → List Nat
  | 0 => out
  | n + 1 => rep out back n ++ [(rep out back n).getD ((rep out back n).length - back) 0]
theorem rep_len (out : List Nat) (back n : Nat) : (rep out back n).length = out.length + n := by
  induction n with
  | zero => rfl
  | succ n ih => rw [rep, List.length_append, ih]; simp; omega
theorem rep_small {out : List Nat} (h : ∀ c ∈ out, c < 256) (back n : Nat) : ∀ c ∈ rep out back n, c < 256 := by
  induction n with
  | zero => exact h
  | succ n ih =>
    intro c hc
    rw [rep, List.mem_append] at hc
    rcases hc with hc | hc
    · exact ih c hc
    · simp only [List.mem_cons, List.not_mem_nil, or_false] at hc
      subst hc
      exact small_mem ih _
/-- What tokens tell. -/
inductive UR where
  | bad (err : Int)
  | ok (zs : List Nat)
def unp (most : Nat) (out rest : List Nat) : UR :=
  match rest with
  | [] => .ok out
  | k :: cs =>
    if 128 ≤ k then .bad 4
    else if k % 2 = 0 then
      if most < out.length + (k / 2 + 1) then .bad 6
      else if cs.length < k / 2 + 1 then .bad 3
      else unp most (out ++ cs.take (k / 2 + 1)) (cs.drop (k / 2 + 1))
    else match vr 0 0 cs with
      | .short => .bad 3
      | .form => .bad 4
      | .ok v j =>
        if 4096 ≤ v ∨ out.length ≤ v then .bad 4
        else if most < out.length + (k / 2 + 3) then .bad 6
        else unp most (rep out (v + 1) (k / 2 + 3)) (cs.drop j)
termination_by rest.length
decreasing_by all_goals simp only [List.length_drop, List.length_cons]; omega
theorem own_eff {W w w1 : World} {v : Value} {out : List Nat} {g j : Nat} {s : Value} {e : Int} (h : Wire.Own W w v out) (hE : Eff w w1 g s j e) (hg : g < W.heap.size) : Wire.Own W w1 v out :=
  World.ownsRow.kept h hE.2 (.inr (fun e => by have := own_ge h g e; omega))
/-- What run comes to, of tokens that were read since W. -/
def RunPost (W w : World) (g : Nat) (s : Value) (i : Nat) (out rest : List Nat) (n : Nat) (room : Int) (e : Ending) (w' : World) : Prop :=
  (room < n ∧ e = .returned (.tuple #[.slice none 0 0, .int .i64 6]) ∧ w = w') ∨
  ((n : Int) ≤ room ∧ rest.length < n ∧ (∃ v, e = .returned (.tuple #[v, .int .i64 3])) ∧ Eff W w' g s i 3) ∨
  ((n : Int) ≤ room ∧ n ≤ rest.length ∧ (∃ v, e = .returned (.tuple #[v, .int .i64 0]) ∧ Wire.Own W w' v (out ++ rest.take n)) ∧ Eff W w' g s (i + n) 0)
set_option maxHeartbeats 4000000 in
set_option maxRecDepth 100000 in
theorem run (W w : World) (g N c i n : Nat) (room : Int) (A : Option Addr) (xs out : List Nat) (v : Value) (hE : Eff W w g (.slice A N c) i 0) (hRB : RB w g A N c xs) (hi : i ≤ N) (hN : N ≤ 1000000) (hg : g < W.heap.size) (hO : Wire.Own W w v out) (hol : out.length ≤ 5000000000)
    (hn : n ≤ 1000) (hr1 : -5000000000 ≤ room) (hr2 : room ≤ 5000000000) :
    Calls Tryd.prog 46 #[v, .pointer (some ⟨g, 0, none⟩), .int .i64 (n : Int), .int .i64 room] w (RunPost W w g (.slice A N c) i out (xs.drop i) n room) := by
  have HB := Lib.hid (Wire.bytes g N c i n (by omega) (by omega) A xs w hE.1 hRB hi (by omega))
  have hrl : (xs.drop i).length = N - i := by rw [List.length_drop, hRB.1.1]
  have HRL := Lib.hid hrl
  have HE := Lib.hid hE; have HO := Lib.hid hO
  have HSM := Lib.hid hRB.1.2.1
  obtain ⟨i0, hi0, hz0, hz1, hz2⟩ := info_parts info8
  have HI := Lib.hid (And.intro hi0 (And.intro hz0 (And.intro hz1 hz2))); clear hi0 hz0 hz1 hz2
  clear hE hRB hO hrl
  generalize hrest : xs.drop i = rest at *
  have HREST := Lib.hid hrest; clear hrest
  by_cases hgt : room < n
  · go_enter Tryd.func46, Tryd.ntmps46
    go_wp2_with fail
    go_ret2
    exact .inl ⟨hgt, rfl, rfl⟩
  · go_enter Tryd.func46, Tryd.ntmps46
    go_wp2_with fail
    refine HB.out.mono ?_
    rintro e w1 (⟨h0, _, _⟩ | ⟨h1, h2, rfl, hE1⟩ | ⟨h1, h2, ⟨v1, rfl, A1, c1, rfl, q1, q2, q3, hB1⟩, hE1⟩)
    · omega
    · have HE1 := Lib.hid (HE.out.trans hE1)
      have HO1 := Lib.hid (own_eff HO.out hE1 hg)
      have HSR : Hid (Src Tryd.prog 1 22 (.slice none 0 0) 0 (c8 []) w1) := Lib.hid (Src.ofNil w1 Tryd.underlying22 0)
      clear hE1
      go_wp2_with (at_builtin; refine wpList_app_own rfl (.tmp 13) (.tmp 16) 22 22 rfl 5 i0 (.int .u8 0) 1 1 Tryd.underlying22 HI.out.1 HI.out.2.1 HI.out.2.2.1 HI.out.2.2.2 rfl W.heap.size v _ out.length (c8 out) rfl rfl HO1.out 0 (c8 []) HSR.out (by unfold maxLen; omega) (by omega) (by have := HE1.out.2.size; omega) ?_; intro v5 w5 hown5 hgr5; have HOW5 := Lib.hid hown5; have HE5 := Lib.hid (Com.eff_app HE1.out HO1.out hg hgr5); clear hown5 hgr5)
      refine (err_any g _ i 3 w5 HE5.out.1).mono ?_
      rintro e w6 ⟨rfl, rfl⟩
      go_wp2_with fail
      go_ret2
      exact .inr (.inl ⟨by omega, by omega, ⟨_, rfl⟩, HE5.out⟩)
    · rw [Int.toNat_natCast] at q1 hB1 hE1 ⊢
      have hl : (rest.take n).length = n := by rw [List.length_take]; omega
      have HL := Lib.hid hl
      have HE1 := Lib.hid (HE.out.trans hE1)
      have HO1 := Lib.hid (own_eff HO.out hE1 hg)
      have HSR := Lib.hid (Bs.src hB1 Tryd.underlying22 c1)
      have hlb : (rest.take n).length ≤ 1000 := by omega
      clear hE1 hB1 q1 q2 q3 hl
      generalize hys : rest.take n = ys at *
      have HYS := Lib.hid hys; clear hys
      go_wp2_with (at_builtin; refine wpList_app_own rfl (.tmp 13) (.tmp 16) 22 22 rfl 5 i0 (.int .u8 0) 1 1 Tryd.underlying22 HI.out.1 HI.out.2.1 HI.out.2.2.1 HI.out.2.2.2 rfl W.heap.size v _ out.length (c8 out) rfl rfl HO1.out ys.length (c8 ys) HSR.out (by unfold maxLen; omega) (by omega) (by have := HE1.out.2.size; omega) ?_; intro v5 w5 hown5 hgr5; have HOW5 := Lib.hid hown5; have HE5 := Lib.hid (Com.eff_app HE1.out HO1.out hg hgr5); clear hown5 hgr5)
      refine (err_any g _ (i + n) 0 w5 HE5.out.1).mono ?_
      rintro e w6 ⟨rfl, rfl⟩
      go_wp2_with fail
      go_ret2
      exact .inr (.inr ⟨by omega, by omega, ⟨_, rfl, by rw [HYS.out]; unfold Wire.Own; rw [List.length_append, c8_app]; exact HOW5.out⟩, HE5.out⟩)
end Go.Proofs.YtckjmabacibojaaDoor.Lz
namespace Go.Proofs.YtckjmabacibojaaDoor.Lz
open Go.ChangeShapes Go.WideShapes Go.ChangeAt Go.RowKit
open Go.Proofs.YtckjmabacibojaaDoor.Wire
set_option linter.unusedVariables false

def key (xs : List Nat) (p : Nat) : Nat := (xs.getD p 0 * 256 + xs.getD (p + 1) 0) * 256 + xs.getD (p + 2) 0
theorem key_inj {xs : List Nat} (h : ∀ j, xs.getD j 0 < 256) {p q : Nat} : key xs p = key xs q ↔ xs.getD p 0 = xs.getD q 0 ∧ xs.getD (p + 1) 0 = xs.getD (q + 1) 0 ∧ xs.getD (p + 2) 0 = xs.getD (q + 2) 0 := by
  have h1 := h p; have h2 := h (p + 1); have h3 := h (p + 2); have h4 := h q; have h5 := h (q + 1); have h6 := h (q + 2)
  unfold key; omega
set_option maxHeartbeats 4000000 in
set_option maxRecDepth 100000 in
theorem three_no (A : Option Addr) (N c : Nat) (at_ : Int) (w : World) (hN : N ≤ 1000000) (h1 : -10000 ≤ at_) (h2 : at_ ≤ 1000000) (h : at_ < 0 ∨ (N : Int) < at_ + 3) :
    Calls Tryd.prog 48 #[.slice A N c, .int .i64 at_] w fun e w' => e = .returned (.tuple #[.int .u32 0, .bool false]) ∧ w = w' := by
  go_enter Tryd.func48, Tryd.ntmps48
  by_cases h0 : at_ < 0
  · go_wp2_with fail
    go_ret2
    exact ⟨rfl, rfl⟩
  · have h3 : (N : Int) < at_ + 3 := by omega
    go_wp2_with fail
    go_ret2
    exact ⟨rfl, rfl⟩
set_option maxHeartbeats 4000000 in
set_option maxRecDepth 100000 in
theorem three_yes (A : Option Addr) (N c p : Nat) (xs : List Nat) (w : World) (hB : Bs w A N xs) (hN : N ≤ 1000000) (hp : p + 3 ≤ N) :
    Calls Tryd.prog 48 #[.slice A N c, .int .i64 (p : Int)] w fun e w' => e = .returned (.tuple #[.int .u32 (key xs p : Nat), .bool true]) ∧ Ext w w' := by
  obtain ⟨b, o, rfl, _, hcell⟩ := hB.2.2 (by omega)
  have q0 := hcell p (by omega)
  have q1 := hcell (p + 1) (by omega)
  have q2 := hcell (p + 2) (by omega)
  have s0 := hB.2.1 p
  have s1 := hB.2.1 (p + 1)
  have s2 := hB.2.1 (p + 2)
  have h0 : ¬ (p : Int) < 0 := by omega
  have h1 : ¬ (N : Int) < (p : Int) + 3 := by omega
  have hk : key xs p = (xs.getD p 0 * 256 + xs.getD (p + 1) 0) * 256 + xs.getD (p + 2) 0 := rfl
  clear hcell hB
  generalize key xs p = K at *
  generalize xs.getD p 0 = a0 at *
  generalize xs.getD (p + 1) 0 = a1 at *
  generalize xs.getD (p + 2) 0 = a2 at *
  have k0 : (0 : Int) ≤ (p : Int) := by omega
  have k1 : (p : Int) < (N : Int) := by omega
  have k2 : (p : Int) + 1 < (N : Int) := by omega
  have k3 : (p : Int) + 2 < (N : Int) := by omega
  go_enter Tryd.func48, Tryd.ntmps48
  go_wp2_with fail
  have e1 : IntKind.i64.wrap ((p : Int) + 1) = (p : Int) + 1 := by rw [IntKind.wrap_i64]; omega
  have e2 : IntKind.i64.wrap ((p : Int) + 2) = (p : Int) + 2 := by rw [IntKind.wrap_i64]; omega
  have e3 : IntKind.u32.wrap (a0 : Int) = (a0 : Int) := by rw [IntKind.wrap_u32]; omega
  have e4 : IntKind.u32.wrap (a1 : Int) = (a1 : Int) := by rw [IntKind.wrap_u32]; omega
  have e5 : IntKind.u32.wrap (a2 : Int) = (a2 : Int) := by rw [IntKind.wrap_u32]; omega
  have k4 : (0 : Int) ≤ (p : Int) + 1 := by omega
  have k5 : (0 : Int) ≤ (p : Int) + 2 := by omega
  have k6 : ((p : Int) + 1).toNat = p + 1 := by omega
  have k7 : ((p : Int) + 2).toNat = p + 2 := by omega
  have e6 : IntKind.u32.wrap ((a0 : Int) * 65536) = (a0 : Int) * 256 * 256 := by rw [IntKind.wrap_u32]; omega
  have e7 : IntKind.u32.wrap ((a1 : Int) * 256) = (a1 : Int) * 256 := by rw [IntKind.wrap_u32]; omega
  have e8 : bits BinOp.or IntKind.u32 ((a0 : Int) * 256 * 256) ((a1 : Int) * 256) = ((a0 : Int) * 256 + (a1 : Int)) * 256 := by
    rw [show ((a0 : Int) * 256 * 256) = ((a0 * 65536 : Nat) : Int) from by omega, show ((a1 : Int) * 256) = ((a1 * 256 : Nat) : Int) from by omega, or32, BitVec.toNat_or, BitVec.toNat_ofNat, BitVec.toNat_ofNat, Nat.mod_eq_of_lt (show a0 * 65536 < 2 ^ 32 by omega), Nat.mod_eq_of_lt (show a1 * 256 < 2 ^ 32 by omega)]
    have := Nat.shiftLeft_add_eq_or_of_lt (i := 16) (b := a1 * 256) (by omega) a0
    rw [Nat.shiftLeft_eq] at this
    rw [show a0 * 65536 = a0 * 2 ^ 16 from rfl, ← this]
    omega
  have e9 := be_val (a0 * 256 + a1) a2 (by omega) s2
  rw [show (((a0 * 256 + a1 : Nat) : Int)) = (a0 : Int) * 256 + (a1 : Int) from by omega] at e9
  refine wp_still (by kernel_rfl) (by kernel_rfl) ?_
  repeat still_step
  refine wpStill_nil ?_
  clear e1 e2 e3 e4 e5 e6 e7 e8 e9 k4 k5 k6 k7
  go_wp2_with fail
  go_ret2
  exact ⟨by rw [show ((a0 : Int) * 256 + (a1 : Int)) * 256 + (a2 : Int) = (K : Int) from by omega]; rfl, ext_drew (Ext.rfl' _)⟩
end Go.Proofs.YtckjmabacibojaaDoor.Lz
namespace Go.Proofs.YtckjmabacibojaaDoor.Lz
open Go.ChangeShapes Go.WideShapes Go.ChangeAt Go.RowKit
open Go.Proofs.YtckjmabacibojaaDoor.Wire
set_option linter.unusedVariables false

/-- The last 16. -/
def last16 (l : List Nat) : List Nat := l.drop (l.length - 16)
/-- The places from lo on, ahead of hi, at which the three bytes k stand. -/
def pls (xs : List Nat) (lo hi k : Nat) : List Nat := (List.range hi).filter fun p => decide (lo ≤ p) && decide (p + 3 ≤ xs.length) && (key xs p == k)
theorem pls_mem {xs : List Nat} {lo hi k p : Nat} : p ∈ pls xs lo hi k ↔ p < hi ∧ lo ≤ p ∧ p + 3 ≤ xs.length ∧ key xs p = k := by
  simp [pls, List.mem_filter, and_assoc]
theorem pls_snoc {xs : List Nat} {lo hi k : Nat} (h : lo ≤ hi) : pls xs lo (hi + 1) k = if hi + 3 ≤ xs.length ∧ key xs hi = k then pls xs lo hi k ++ [hi] else pls xs lo hi k := by
  unfold pls
  rw [List.range_succ, List.filter_append]
  by_cases hc : hi + 3 ≤ xs.length ∧ key xs hi = k
  · rw [if_pos hc]; simp [h, hc.1, hc.2]
  · rw [if_neg hc]
    have : ¬ (decide (lo ≤ hi) && decide (hi + 3 ≤ xs.length) && (key xs hi == k)) = true := by
      simp only [Bool.and_eq_true, decide_eq_true_eq, beq_iff_eq]; exact fun h' => hc ⟨h'.1.2, h'.2⟩
    have e : List.filter (fun p => decide (lo ≤ p) && decide (p + 3 ≤ xs.length) && (key xs p == k)) [hi] = [] := List.filter_eq_nil_iff.2 (fun a ha => by rw [List.mem_singleton.1 ha]; exact this)
    rw [e, List.append_nil]
theorem filter_lo {xs : List Nat} {lo k : Nat} : ∀ hi, lo < hi → pls xs lo hi k = if lo + 3 ≤ xs.length ∧ key xs lo = k then lo :: pls xs (lo + 1) hi k else pls xs (lo + 1) hi k := by
  intro hi
  induction hi with
  | zero => intro h; omega
  | succ hi ih =>
    intro h
    by_cases he : lo = hi
    · subst he
      have e0 : ∀ m, pls xs m m k = [] := by
        intro m; apply List.eq_nil_iff_forall_not_mem.2; intro p hp; rw [pls_mem] at hp; omega
      rw [pls_snoc (Nat.le_refl _), e0, show pls xs (lo + 1) (lo + 1) k = [] from e0 _]
      simp
    · rw [pls_snoc (by omega), pls_snoc (by omega), ih (by omega)]
      by_cases h1 : lo + 3 ≤ xs.length ∧ key xs lo = k <;> by_cases h2 : hi + 3 ≤ xs.length ∧ key xs hi = k <;> simp [h1, h2]
theorem last16_len (l : List Nat) : (last16 l).length = min l.length 16 := by unfold last16; rw [List.length_drop]; omega
theorem last16_nil : last16 [] = [] := rfl
theorem last16_mem {l : List Nat} {p : Nat} (h : p ∈ last16 l) : p ∈ l := List.mem_of_mem_drop h
theorem last16_ne {l : List Nat} (h : l ≠ []) : last16 l ≠ [] := by
  intro e; have := congrArg List.length e; rw [last16_len] at this; simp at this
  exact h this
/-- The oldest one goes. -/
theorem last16_cons {z : Nat} {l : List Nat} : last16 (z :: l) = if l.length < 16 then z :: l else last16 l := by
  unfold last16
  by_cases h : l.length < 16
  · rw [if_pos h, List.length_cons, show l.length + 1 - 16 = 0 from by omega, List.drop_zero]
  · rw [if_neg h, List.length_cons, show l.length + 1 - 16 = (l.length - 16) + 1 from by omega, List.drop_succ_cons]
theorem last16_few {l : List Nat} (h : l.length ≤ 16) : last16 l = l := by unfold last16; rw [show l.length - 16 = 0 from by omega, List.drop_zero]
theorem last16_snoc {z : Nat} {l : List Nat} : last16 (l ++ [z]) = (if (last16 l).length = 16 then (last16 l).tail else last16 l) ++ [z] := by
  rw [last16_len]
  by_cases h : 16 ≤ l.length
  · rw [if_pos (by omega)]
    unfold last16
    rw [List.length_append, show l.length + [z].length - 16 = (l.length - 16) + 1 from by simp; omega, List.drop_append_of_le_length (by omega), List.tail_drop]
  · rw [if_neg (by omega), last16_few (by rw [List.length_append]; simp; omega), last16_few (by omega)]
/-- What stands in the map ahead of a place. -/
def seen (xs : List Nat) (at_ k : Nat) : List Nat := last16 (pls xs (at_ - 4096) at_ k)
theorem seen_lo {xs : List Nat} {at_ k : Nat} (h : 4096 ≤ at_) (hl : at_ ≤ xs.length) (hk : key xs (at_ - 4096) ≠ k) : last16 (pls xs (at_ + 1 - 4096) at_ k) = seen xs at_ k := by
  unfold seen
  rw [filter_lo (lo := at_ - 4096) at_ (by omega), if_neg (fun e => hk e.2), show at_ - 4096 + 1 = at_ + 1 - 4096 from by omega]
theorem seen_lo_few {xs : List Nat} {at_ k : Nat} (h : at_ < 4096) : last16 (pls xs (at_ + 1 - 4096) at_ k) = seen xs at_ k := by
  unfold seen
  rw [show at_ + 1 - 4096 = at_ - 4096 from by omega]
/-- The place that goes out of sight stands ahead, or does not stand in the map. -/
theorem seen_lo_here {xs : List Nat} {at_ k : Nat} (h : 4096 ≤ at_) (hl : at_ ≤ xs.length) (hk : key xs (at_ - 4096) = k) :
    (∃ r, seen xs at_ k = (at_ - 4096) :: r ∧ last16 (pls xs (at_ + 1 - 4096) at_ k) = r) ∨ (seen xs at_ k = last16 (pls xs (at_ + 1 - 4096) at_ k) ∧ ∀ z r, seen xs at_ k = z :: r → z ≠ at_ - 4096) := by
  unfold seen
  rw [filter_lo (lo := at_ - 4096) at_ (by omega), if_pos ⟨by omega, hk⟩, show at_ - 4096 + 1 = at_ + 1 - 4096 from by omega, last16_cons]
  by_cases hf : (pls xs (at_ + 1 - 4096) at_ k).length < 16
  · rw [if_pos hf]; exact .inl ⟨_, rfl, last16_few (by omega)⟩
  · rw [if_neg hf]
    refine .inr ⟨rfl, fun z r e => ?_⟩
    have : z ∈ pls xs (at_ + 1 - 4096) at_ k := last16_mem (by rw [e]; exact List.mem_cons_self)
    rw [pls_mem] at this
    omega
theorem seen_hi {xs : List Nat} {at_ k : Nat} : seen xs (at_ + 1) k = if at_ + 3 ≤ xs.length ∧ key xs at_ = k then (if (last16 (pls xs (at_ + 1 - 4096) at_ k)).length = 16 then (last16 (pls xs (at_ + 1 - 4096) at_ k)).tail else last16 (pls xs (at_ + 1 - 4096) at_ k)) ++ [at_] else last16 (pls xs (at_ + 1 - 4096) at_ k) := by
  unfold seen
  rw [pls_snoc (by omega)]
  by_cases hc : at_ + 3 ≤ xs.length ∧ key xs at_ = k
  · rw [if_pos hc, if_pos hc, last16_snoc]
  · rw [if_neg hc, if_neg hc]
theorem seen_zero (xs : List Nat) (k : Nat) : seen xs 0 k = [] := rfl
theorem seen_len (xs : List Nat) (at_ k : Nat) : (seen xs at_ k).length ≤ 16 := by unfold seen; rw [last16_len]; omega
theorem seen_mem {xs : List Nat} {at_ k p : Nat} (h : p ∈ seen xs at_ k) : p < at_ ∧ at_ ≤ p + 4096 ∧ p + 3 ≤ xs.length ∧ key xs p = k := by
  have := pls_mem.1 (last16_mem h); omega
end Go.Proofs.YtckjmabacibojaaDoor.Lz
namespace Go.Proofs.YtckjmabacibojaaDoor.Map32
open Go.ChangeShapes Go.WideShapes Go.ChangeAt Go.RowKit
set_option linter.unusedVariables false

def Ents (l : List MapEntry) (L : List (Nat × Value)) : Prop := l.map (fun e => (e.key, e.val)) = L.map (fun p => (Value.int .u32 (p.1 : Int), p.2)) ∧ (L.map (·.1)).Nodup
/-- Block b is a map; F says what stands at each number. -/
def MapR (w : World) (b : Nat) (F : Nat → Option Value) : Prop := ∃ es cl L, w.heap[b]? = some (.map es cl) ∧ Ents es.toList L ∧ ∀ k, F k = L.lookup k
theorem find32 (k : Nat) : ∀ (l : List MapEntry) (L : List (Nat × Value)) (i : Nat), l.map (fun e => (e.key, e.val)) = L.map (fun p => (Value.int .u32 (p.1 : Int), p.2)) →
    (Instr.findNow (.int .u32) (.int .u32 (k : Int)) l i = some none ∧ L.lookup k = none ∧ k ∉ L.map (·.1)) ∨
    ∃ q v, Instr.findNow (.int .u32) (.int .u32 (k : Int)) l i = some (some (i + q, v)) ∧ L[q]? = some (k, v) ∧ L.lookup k = some v
  | [], [], i, _ => .inl ⟨rfl, rfl, by simp⟩
  | [], _ :: _, _, h => by simp at h
  | _ :: _, [], _, h => by simp at h
  | e :: l, (k', v') :: L, i, h => by
    simp only [List.map_cons, List.cons.injEq, Prod.mk.injEq] at h
    obtain ⟨⟨h1, h2⟩, h3⟩ := h
    by_cases hk : k = k'
    · subst hk
      refine .inr ⟨0, v', ?_, rfl, ?_⟩
      · simp [Instr.findNow, h1, h2, Instr.sameNow]
      · simp [List.lookup]
    · have hne : ((k : Int) == (k' : Int)) = false := beq_eq_false_iff_ne.2 (by omega)
      have hne' : (k == k') = false := beq_eq_false_iff_ne.2 hk
      rcases find32 k l L (i + 1) h3 with ⟨a, b, c⟩ | ⟨q, v, a, b, c⟩
      · refine .inl ⟨?_, ?_, ?_⟩
        · rw [Instr.findNow, h1]; simp only [Instr.sameNow, if_true, hne, a]
        · simp only [List.lookup, hne', b]
        · simp only [List.map_cons, List.mem_cons, not_or]; exact ⟨hk, c⟩
      · refine .inr ⟨q + 1, v, ?_, ?_, ?_⟩
        · rw [Instr.findNow, h1]; simp only [Instr.sameNow, if_true, hne, a]; rw [show i + 1 + q = i + (q + 1) from by omega]
        · rw [List.getElem?_cons_succ, b]
        · simp only [List.lookup, hne', c]
theorem lookup_none {L : List (Nat × Value)} {k : Nat} (h : k ∉ L.map (·.1)) : L.lookup k = none := by
  induction L with
  | nil => rfl
  | cons p L ih =>
    obtain ⟨k', v'⟩ := p
    simp only [List.map_cons, List.mem_cons, not_or] at h
    simp only [List.lookup, beq_eq_false_iff_ne.2 h.1, ih h.2]
theorem lookup_app {L : List (Nat × Value)} {k : Nat} {v : Value} (h : k ∉ L.map (·.1)) (x : Nat) : (L ++ [(k, v)]).lookup x = if x = k then some v else L.lookup x := by
  induction L with
  | nil => by_cases hx : x = k
           · simp [hx]
           · simp [List.lookup, hx, beq_eq_false_iff_ne.2 hx]
  | cons p L ih =>
    obtain ⟨k', v'⟩ := p
    simp only [List.map_cons, List.mem_cons, not_or] at h
    by_cases hx : x = k'
    · subst hx
      simp [List.lookup, Ne.symm h.1]
    · simp only [List.cons_append, List.lookup, beq_eq_false_iff_ne.2 hx, ih h.2]
theorem lookup_set : ∀ {L : List (Nat × Value)} {k q : Nat} {u v : Value} (h : (L.map (·.1)).Nodup) (hq : L[q]? = some (k, u)) (x : Nat), (L.set q (k, v)).lookup x = if x = k then some v else L.lookup x
  | [], k, q, u, v, h, hq, x => by simp at hq
  | (k', v') :: L, k, 0, u, v, h, hq, x => by
    simp only [List.getElem?_cons_zero, Option.some.injEq, Prod.mk.injEq] at hq
    obtain ⟨rfl, rfl⟩ := hq
    by_cases hx : x = k'
    · simp [hx]
    · simp [List.lookup, hx, beq_eq_false_iff_ne.2 hx]
  | (k', v') :: L, k, q + 1, u, v, h, hq, x => by
    simp only [List.map_cons, List.nodup_cons] at h
    rw [List.getElem?_cons_succ] at hq
    have hne : k' ≠ k := fun e => h.1 (e ▸ List.mem_map_of_mem (f := (·.1)) (List.mem_of_getElem? hq))
    rw [List.set_cons_succ]
    by_cases hx : x = k'
    · subst hx
      simp [List.lookup, hne]
    · simp only [List.lookup, beq_eq_false_iff_ne.2 hx, lookup_set h.2 hq x]
theorem lookup_erase : ∀ {L : List (Nat × Value)} {k q : Nat} {u : Value} (h : (L.map (·.1)).Nodup) (hq : L[q]? = some (k, u)) (x : Nat), (L.eraseIdx q).lookup x = if x = k then none else L.lookup x
  | [], k, q, u, h, hq, x => by simp at hq
  | (k', v') :: L, k, 0, u, h, hq, x => by
    simp only [List.getElem?_cons_zero, Option.some.injEq, Prod.mk.injEq] at hq
    obtain ⟨rfl, rfl⟩ := hq
    simp only [List.map_cons, List.nodup_cons] at h
    by_cases hx : x = k'
    · subst hx
      rw [if_pos rfl]; exact lookup_none h.1
    · simp [List.lookup, hx, beq_eq_false_iff_ne.2 hx]
  | (k', v') :: L, k, q + 1, u, h, hq, x => by
    simp only [List.map_cons, List.nodup_cons] at h
    rw [List.getElem?_cons_succ] at hq
    have hne : k' ≠ k := fun e => h.1 (e ▸ List.mem_map_of_mem (f := (·.1)) (List.mem_of_getElem? hq))
    rw [List.eraseIdx_cons_succ]
    by_cases hx : x = k'
    · subst hx
      simp [List.lookup, hne]
    · simp only [List.lookup, beq_eq_false_iff_ne.2 hx, lookup_erase h.2 hq x]
theorem nodup_set {L : List (Nat × Value)} {k q : Nat} {u v : Value} (h : (L.map (·.1)).Nodup) (hq : L[q]? = some (k, u)) : ((L.set q (k, v)).map (·.1)).Nodup := by
  have e : (L.set q (k, v)).map (·.1) = L.map (·.1) := by
    apply List.ext_getElem?
    intro j
    rw [List.getElem?_map, List.getElem?_map, List.getElem?_set]
    by_cases hj : q = j
    · subst hj
      rw [if_pos rfl, hq]
      have : q < L.length := (List.getElem?_eq_some_iff.1 hq).1
      simp [this]
    · rw [if_neg hj]
  rw [e]; exact h
/-- The world with another block. -/
def mset (w : World) (b : Nat) (o : Obj) : World := { w with heap := w.heap.setIfInBounds b o }
theorem mset_same {w : World} {b : Nat} {o o' : Obj} (h : w.heap[b]? = some o') : (mset w b o).heap[b]? = some o := by
  have : b < w.heap.size := (Array.getElem?_eq_some_iff.1 h).1
  simp [mset, this]
theorem mset_grown (w : World) (b : Nat) (o : Obj) : w.grownBy (mset w b o) (some b) :=
  ⟨rfl, rfl, rfl, by simp [mset], fun i _ hi => by
    simp only [mset, Array.getElem?_setIfInBounds]
    rw [if_neg (fun e => hi (by rw [e]))]⟩
section
variable {P : Program} {w : World} {b : Nat} {F : Nat → Option Value} {t kt e : TypeId}
theorem MapR.new (w : World) : MapR (w.alloc (.map #[] 0)) w.heap.size (fun _ => none) := ⟨#[], 0, [], heap_alloc_new w _, ⟨rfl, List.nodup_nil⟩, fun k => rfl⟩
theorem MapR.kept {w' : World} {row : Option Nat} (h : MapR w b F) (hg : w.grownBy w' row) (hne : some b ≠ row) : MapR w' b F := by
  obtain ⟨es, cl, L, hb, hE, hF⟩ := h
  exact ⟨es, cl, L, (hg.block b (Array.getElem?_eq_some_iff.1 hb).1 hne).trans hb, hE, hF⟩
theorem MapR.lt (h : MapR w b F) : b < w.heap.size := by
  obtain ⟨es, cl, L, hb, hE, hF⟩ := h
  exact (Array.getElem?_eq_some_iff.1 hb).1
theorem run_look (h : MapR w b F) (ht : P.underlying t = some (.map kt e)) (hk : P.underlying kt = some (.int .u32)) {z : Value} (hz : (zeroValue e).run P w = .ok z w) (k : Nat) :
    (Instr.lookup t (.map (some b)) (.int .u32 (k : Int)) false).run P w = .ok ((F k).getD z) w := by
  obtain ⟨es, cl, L, hb, ⟨hm, hn⟩, hF⟩ := h
  have hc := MapKept.run_checkKey (w := w) hk (k := .int .u32 (k : Int)) (by simp [MapKept.IsKey]) es.isEmpty 9999
  rcases find32 k es.toList L 0 hm with ⟨h1, h2, h3⟩ | ⟨q, v, h1, h2, h3⟩
  · simp [Instr.lookup, run_underlying ht, MapKept.run_getObj_map hb, hc, Instr.findKey, run_underlying hk, h1, hz, Result.andThen, hF, h2]
  · simp [Instr.lookup, run_underlying ht, MapKept.run_getObj_map hb, hc, Instr.findKey, run_underlying hk, h1, Result.andThen, hF, h3]
theorem run_put (h : MapR w b F) (ht : P.underlying t = some (.map kt e)) (hk : P.underlying kt = some (.int .u32)) (k : Nat) (v : Value) :
    ∃ w', (Instr.mapUpdate t (.map (some b)) (.int .u32 (k : Int)) v).run P w = .ok () w' ∧ MapR w' b (fun x => if x = k then some v else F x) ∧ w.grownBy w' (some b) := by
  obtain ⟨es, cl, L, hb, ⟨hm, hn⟩, hF⟩ := h
  have hc := MapKept.run_checkKey (w := w) hk (k := .int .u32 (k : Int)) (by simp [MapKept.IsKey]) false 9999
  rcases find32 k es.toList L 0 hm with ⟨h1, h2, h3⟩ | ⟨q, u, h1, h2, h3⟩
  · refine ⟨mset w b (.map (es.push ⟨.int .u32 (k : Int), v, cl⟩) (cl + 1)), ?_, ⟨_, _, L ++ [(k, v)], mset_same hb, ⟨?_, ?_⟩, ?_⟩, mset_grown w b _⟩
    · simp [Instr.mapUpdate, run_underlying ht, MapKept.run_getObj_map hb, hc, Instr.findKey, run_underlying hk, h1, Result.andThen, MapKept.run_setObj_map _ hb, mset]
    · simp [hm]
    · rw [List.map_append, List.nodup_append]; refine ⟨hn, by simp, ?_⟩
      intro a ha c hc e
      simp only [List.map_cons, List.map_nil, List.mem_cons, List.not_mem_nil, or_false] at hc
      exact h3 (by rw [← hc, ← e]; exact ha)
    · intro x; rw [lookup_app h3, ← hF]
  · have hq := (List.getElem?_eq_some_iff.1 h2).1
    have hq' : q < es.size := by
      have := congrArg List.length hm
      simp only [List.length_map, Array.length_toList] at this
      omega
    have hkq : es[q].key = .int .u32 (k : Int) := by
      have := congrArg (fun l => l[q]?) hm
      simp only [List.getElem?_map, h2, Option.map_some] at this
      rw [List.getElem?_eq_getElem (by simpa using hq')] at this
      simp only [Option.map_some, Option.some.injEq, Prod.mk.injEq] at this
      simpa using this.1
    refine ⟨mset w b (.map (es.modify q fun e => { e with key := .int .u32 (k : Int), val := v }) cl), ?_, ⟨_, _, L.set q (k, v), mset_same hb, ⟨?_, nodup_set hn h2⟩, ?_⟩, mset_grown w b _⟩
    · simp [Instr.mapUpdate, run_underlying ht, MapKept.run_getObj_map hb, hc, Instr.findKey, run_underlying hk, h1, Result.andThen, MapKept.run_setObj_map _ hb, mset, hq', hkq, Instr.keyThatStays, Instr.sameBits]
    · apply List.ext_getElem?
      intro j
      rw [List.getElem?_map, List.getElem?_map, List.getElem?_set, Array.getElem?_toList, Array.getElem?_modify]
      have hj' := congrArg (fun l => l[j]?) hm
      simp only [List.getElem?_map, Array.getElem?_toList] at hj'
      by_cases hj : q = j
      · subst hj
        rw [if_pos rfl, if_pos rfl, if_pos hq]
        simp [hq']
      · rw [if_neg hj, if_neg hj]; exact hj'
    · intro x; rw [lookup_set hn h2, ← hF]
theorem run_del (h : MapR w b F) (ht : P.underlying t = some (.map kt e)) (hk : P.underlying kt = some (.int .u32)) (k : Nat) (ats : Array TypeId) (ha : ats[0]? = some t) (ty : TypeId) :
    ∃ w', (Builtin.delete_ ats ty #[.map (some b), .int .u32 (k : Int)]).run P w = .ok (.tuple #[]) w' ∧ MapR w' b (fun x => if x = k then none else F x) ∧ w.grownBy w' (some b) := by
  obtain ⟨es, cl, L, hb, ⟨hm, hn⟩, hF⟩ := h
  have hc := MapKept.run_checkKey (w := w) hk (k := .int .u32 (k : Int)) (by simp [MapKept.IsKey]) es.isEmpty 9999
  rcases find32 k es.toList L 0 hm with ⟨h1, h2, h3⟩ | ⟨q, u, h1, h2, h3⟩
  · refine ⟨mset w b (.map es cl), ?_, ⟨_, _, L, mset_same hb, ⟨hm, hn⟩, ?_⟩, mset_grown w b _⟩
    · simp [Builtin.delete_, ha, run_underlying ht, MapKept.run_getObj_map hb, hc, Instr.findKey, run_underlying hk, h1, Result.andThen, MapKept.run_setObj_map _ hb, mset]
    · intro x
      by_cases hx : x = k
      · simp only [if_pos hx]; rw [hx, h2]
      · simp only [if_neg hx]; exact hF x
  · refine ⟨mset w b (.map (es.eraseIdxIfInBounds q) cl), ?_, ⟨_, _, L.eraseIdx q, mset_same hb, ⟨?_, ?_⟩, ?_⟩, mset_grown w b _⟩
    · simp [Builtin.delete_, ha, run_underlying ht, MapKept.run_getObj_map hb, hc, Instr.findKey, run_underlying hk, h1, Result.andThen, MapKept.run_setObj_map _ hb, mset]
    · rw [show (es.eraseIdxIfInBounds q).toList = es.toList.eraseIdx q from by simp [Array.eraseIdxIfInBounds]; split <;> simp_all [List.eraseIdx_of_length_le]]
      rw [ChangeMaps.map_eraseIdx, ChangeMaps.map_eraseIdx, hm]
    · exact hn.sublist ((List.eraseIdx_sublist L q).map _)
    · intro x; rw [lookup_erase hn h2, ← hF]
end
end Go.Proofs.YtckjmabacibojaaDoor.Map32
namespace Go.Proofs.YtckjmabacibojaaDoor.Map32
open Go.ChangeShapes Go.WideShapes Go.ChangeAt Go.RowKit
set_option linter.unusedVariables false

def nums (zs : List Nat) : List Value := zs.map fun (z : Nat) => Value.int .i64 (z : Int)
/-- A row of numbers in a block from base on, that may begin further back in it. -/
def Sl (w : World) (base e : Nat) (v : Value) (zs : List Nat) : Prop :=
  ∃ g o cap cur, v = .slice (some ⟨g, o, none⟩) zs.length cap ∧ base ≤ g ∧ w.heap[g]? = some (.cells cur e (0, 0)) ∧ zs.length ≤ cap ∧ cap ≤ maxLen ∧ cur.size = o + cap ∧ (cur.toList.drop o).take zs.length = nums zs
section
variable {P : Program} {w w' : World} {base e : Nat} {v : Value} {zs : List Nat}
theorem nums_len (zs : List Nat) : (nums zs).length = zs.length := by simp [nums]
theorem Sl.kept {row : Option Nat} (h : Sl w base e v zs) (hg : w.grownBy w' row) (hne : v.ownBlock ≠ row) : Sl w' base e v zs := by
  obtain ⟨g, o, cap, cur, rfl, hb, hh, r⟩ := h
  exact ⟨g, o, cap, cur, rfl, hb, (hg.block g (Array.getElem?_eq_some_iff.1 hh).1 hne).trans hh, r⟩
theorem Sl.ext (h : Sl w base e v zs) (hg : Ext w w') : Sl w' base e v zs := by
  obtain ⟨g, o, cap, cur, rfl, hb, hh, r⟩ := h
  exact ⟨g, o, cap, cur, rfl, hb, (hg.block g (Array.getElem?_eq_some_iff.1 hh).1).trans hh, r⟩
theorem Sl.block (h : Sl w base e v zs) : ∃ g, v.ownBlock = some g ∧ base ≤ g ∧ g < w.heap.size := by
  obtain ⟨g, o, cap, cur, rfl, hb, hh, r⟩ := h
  exact ⟨g, rfl, hb, (Array.getElem?_eq_some_iff.1 hh).1⟩
theorem Sl.cells {g o cap n : Nat} (h : Sl w base e (.slice (some ⟨g, o, none⟩) n cap) zs) (j : Nat) (hj : j < zs.length) : w.cell? ⟨g, o + j, none⟩ = some (.int .i64 ((zs.getD j 0 : Nat) : Int)) := by
  obtain ⟨g', o', cap', cur, hv, hb, hh, h1, h2, h3, h4⟩ := h
  obtain ⟨e1, _, _⟩ := Value.slice.inj hv
  obtain ⟨rfl, rfl, _⟩ := Addr.mk.inj (Option.some.inj e1)
  rw [cell_of_row w g (o + j) cur e (0, 0) hh]
  have := congrArg (fun l => l[j]?) h4
  simp only [List.getElem?_take, if_pos hj, List.getElem?_drop] at this
  rw [← Array.getElem?_toList, this]
  simp [nums, List.getD_eq_getElem?_getD, List.getElem?_eq_getElem hj]
theorem Sl.frozen {g o cap n : Nat} (h : Sl w base e (.slice (some ⟨g, o, none⟩) n cap) zs) (j : Nat) (hj : j < zs.length) : w.frozen? ⟨g, o + j, none⟩ = false := by
  obtain ⟨g', o', cap', cur, hv, hb, hh, _⟩ := h
  obtain ⟨e1, _, _⟩ := Value.slice.inj hv
  obtain ⟨rfl, rfl, _⟩ := Addr.mk.inj (Option.some.inj e1)
  simp [World.frozen?, hh]
theorem Sl.shape (h : Sl w base e v zs) : ∃ g o cap, v = .slice (some ⟨g, o, none⟩) zs.length cap ∧ zs.length ≤ cap ∧ cap ≤ maxLen ∧ base ≤ g := by
  obtain ⟨g, o, cap, cur, rfl, hb, hh, h1, h2, r⟩ := h
  exact ⟨g, o, cap, rfl, h1, h2, hb⟩
theorem Sl.tail {g o cap n z : Nat} (h : Sl w base e (.slice (some ⟨g, o, none⟩) (n + 1) cap) (z :: zs)) : Sl w base e (.slice (some ⟨g, o + 1, none⟩) n (cap - 1)) zs := by
  obtain ⟨g', o', cap', cur, hv, hb, hh, h1, h2, h3, h4⟩ := h
  obtain ⟨e1, e2, e3⟩ := Value.slice.inj hv
  obtain ⟨rfl, rfl, _⟩ := Addr.mk.inj (Option.some.inj e1)
  subst e3
  simp only [List.length_cons] at e2 h1 h4
  obtain rfl : n = zs.length := by omega
  refine ⟨g, o + 1, cap - 1, cur, rfl, hb, hh, by omega, by omega, by omega, ?_⟩
  have := congrArg List.tail h4
  rw [show (nums (z :: zs)).tail = nums zs from rfl] at this
  rw [← this]
  apply List.ext_getElem?
  intro j
  rw [List.getElem?_tail, List.getElem?_take, List.getElem?_take, List.getElem?_drop, List.getElem?_drop, show o + 1 + j = o + (j + 1) from by omega]
  by_cases hj : j < zs.length
  · rw [if_pos hj, if_pos (by omega)]
  · rw [if_neg hj, if_neg (by omega)]
/-- One more behind it. -/
theorem run_more (t ty : TypeId) (i : TypeInfo) (z : Value) (ht : P.underlying t = some (.slice e)) (hi : P.info? e = some i) (hz : i.zero = some z) (hsize : i.size = 1) (hby : i.bytes = 8) (hzs : z.cells.size = 1)
    (h : (v = .slice none 0 0 ∧ zs = []) ∨ Sl w base e v zs) (a : Addr) (x : Nat) (hx : w.cell? a = some (.int .i64 (x : Int))) (hl : zs.length ≤ 1000) (hbase : base ≤ w.heap.size) :
    ∃ v' w', (Builtin.append_ #[t, t] ty #[v, .slice (some a) 1 1]).run P w = .ok v' w' ∧ Sl w' base e v' (zs ++ [x]) ∧ w.grownBy w' v.ownBlock ∧ (v'.ownBlock = v.ownBlock ∨ v'.ownBlock = some w.heap.size) := by
  have hnews : ∀ j u, [Value.int .i64 (x : Int)][j]? = some u → w.cell? (a.add j) = some u := by
    intro j u hj
    match j, hj with
    | 0, hj => simp at hj; subst hj; simpa [Addr.add] using hx
  have hnl : [Value.int .i64 (x : Int)].length = 1 * i.size := by rw [hsize]; rfl
  have hh1 : ∀ u ∈ [Value.int .i64 (x : Int)], u.oneCell' = true := by intro u hu; simp at hu; subst hu; rfl
  have hNW : ∀ old : Nat, old < zs.length + 1 → Sl (w.drew.alloc (.cells ((nums zs).toArray ++ [Value.int .i64 (x : Int)].toArray ++ Builtin.zeroCells z.cells (grownCap w (zs.length + 1) old e - (zs.length + 1))) e)) base e
      (.slice (some ⟨w.heap.size, 0, none⟩) (zs.length + 1) (grownCap w (zs.length + 1) old e)) (zs ++ [x]) := by
    intro old ho
    have hge := grownCap_ge w (zs.length + 1) old e
    have hcm : grownCap w (zs.length + 1) old e ≤ maxLen := grownCap_le_maxLen w (zs.length + 1) old e (by unfold maxLen; omega)
    refine ⟨w.heap.size, 0, _, _, by rw [List.length_append]; rfl, hbase, heap_alloc_new w.drew _, by rw [List.length_append]; exact hge, hcm, ?_, ?_⟩
    · simp only [Array.size_append, List.size_toArray, nums_len, size_zeroCells, hzs, List.length_cons, List.length_nil]; omega
    · rw [List.drop_zero, Array.toList_append, Array.toList_append, List.length_append, show zs.length + [x].length = ((nums zs).toArray.toList ++ [Value.int .i64 (x : Int)].toArray.toList).length from by simp [nums_len], List.take_left]
      simp [nums]
  rcases h with ⟨rfl, rfl⟩ | ⟨g, o, cap, cur, rfl, hb, hh, h1, h2, h3, h4⟩
  · have hr := run_append_nil (P := P) w t ty e i z ht hi hz a 1 1 [Value.int .i64 (x : Int)] hnl hnews (by omega) (by omega) (by rw [hby]; omega)
    have hn := hNW 0 (by simp)
    refine ⟨_, _, hr, ?_, ⟨rfl, rfl, rfl, by simp, fun k hk _ => Below.heap_alloc w.drew _ k hk⟩, .inr rfl⟩
    simpa [nums] using hn
  · by_cases hroom : zs.length + 1 ≤ cap
    · have hst := run_storeCells_at P g (o + zs.length) e [Value.int .i64 (x : Int)] 0 cur w hh (by simp; omega) hh1
      have hf := run_firstCells_some (P := P) w i.size 1 a 1 1 [Value.int .i64 (x : Int)] hnl hnews
      simp only [Nat.add_zero] at hst
      have hr : (Builtin.append_ #[t, t] ty #[.slice (some ⟨g, o, none⟩) zs.length cap, .slice (some a) 1 1]).run P w =
          .ok (.slice (some ⟨g, o, none⟩) (zs.length + 1) cap) (w.setRow g (cur.toList.take (o + zs.length) ++ [Value.int .i64 (x : Int)] ++ cur.toList.drop (o + zs.length + 1)).toArray) := by
        rw [hsize] at hf
        simp [Builtin.append_, run_underlying ht, sizeOf, typeInfo, hi, hsize, Builtin.lenOf, hroom, hf, Addr.add_lit, hst]
      have hct : cur.toList.length = cur.size := Array.length_toList
      refine ⟨_, _, hr, ⟨g, o, cap, _, by rw [List.length_append]; rfl, hb, setRow_heap w g cur _ e _ hh, by rw [List.length_append]; exact hroom, h2, ?_, ?_⟩, ⟨rfl, rfl, rfl, by simp, fun k _ hk => setRow_other w g k _ (fun e => hk (by simp [Value.ownBlock, e]))⟩, .inl rfl⟩
      · rw [List.size_toArray, List.length_append, List.length_append, List.length_take, List.length_drop, hct]
        simp only [List.length_cons, List.length_nil]; omega
      · have hlt : o + zs.length ≤ cur.toList.length := by rw [hct]; omega
        rw [List.append_assoc, List.drop_append_of_le_length (by rw [List.length_take]; omega), List.drop_take, show o + zs.length - o = zs.length from by omega, h4]
        rw [List.length_append, show zs.length + [x].length = (nums zs ++ [Value.int .i64 (x : Int)]).length from by simp [nums_len], ← List.append_assoc, List.take_left]
        simp [nums]
    · have holds : ∀ j u, (nums zs)[j]? = some u → w.cell? ((⟨g, o, none⟩ : Addr).add j) = some u := by
        intro j u hj
        have hjl : j < zs.length := by have := (List.getElem?_eq_some_iff.1 hj).1; rw [nums_len] at this; exact this
        rw [Addr.add_lit, cell_of_row w g (o + j) cur e (0, 0) hh, ← Array.getElem?_toList]
        have := congrArg (fun l => l[j]?) h4
        simp only [List.getElem?_take, if_pos hjl, List.getElem?_drop] at this
        rw [this]; exact hj
      have hr := run_append_grow (P := P) w t ty e i z ht hi hz ⟨g, o, none⟩ zs.length cap (nums zs) (by rw [nums_len, hsize, Nat.mul_one]) holds a 1 1 [Value.int .i64 (x : Int)] hnl hnews (by omega) (by omega) (by rw [hby]; exact growslice_fits (by omega) (by omega))
      exact ⟨_, _, hr, hNW cap (by omega), ⟨rfl, rfl, rfl, by simp, fun k hk _ => Below.heap_alloc w.drew _ k hk⟩, .inr rfl⟩
end
end Go.Proofs.YtckjmabacibojaaDoor.Map32
namespace Go.Proofs.YtckjmabacibojaaDoor.Map32
open Go.ChangeShapes Go.WideShapes Go.ChangeAt Go.RowKit
set_option linter.unusedVariables false

/-- A map of rows, each in a block of its own: M says which values, F which numbers. -/
structure Groups (w : World) (base e b : Nat) (M : Nat → Option Value) (F : Nat → List Nat) : Prop where
  map : MapR w b M
  row : ∀ k, (M k = none ∧ F k = []) ∨ ∃ v, M k = some v ∧ F k ≠ [] ∧ Sl w base e v (F k)
  apart : ∀ k k' v v', k ≠ k' → M k = some v → M k' = some v' → v.ownBlock ≠ v'.ownBlock
  at_ : base ≤ b
section
variable {P : Program} {w w1 w2 : World} {base e b : Nat} {M : Nat → Option Value} {F : Nat → List Nat}
theorem ne_sl {v : Value} {zs : List Nat} (h : MapR w b M) (hs : Sl w base e v zs) : v.ownBlock ≠ some b := by
  obtain ⟨es, cl, L, hb, _⟩ := h
  obtain ⟨g, o, cap, cur, rfl, _, hh, _⟩ := hs
  intro he
  obtain rfl := Option.some.inj he
  rw [hh] at hb
  cases hb
theorem Groups.new (w : World) (base e : Nat) (hb : base ≤ w.heap.size) : Groups (w.alloc (.map #[] 0)) base e w.heap.size (fun _ => none) (fun _ => []) :=
  ⟨MapR.new w, fun k => .inl ⟨rfl, rfl⟩, (fun k k' v v' _ h => by cases h), hb⟩
theorem Groups.look (h : Groups w base e b M F) (k : Nat) : ((M k).getD (.slice none 0 0) = .slice none 0 0 ∧ F k = []) ∨ (M k = some ((M k).getD (.slice none 0 0)) ∧ F k ≠ [] ∧ Sl w base e ((M k).getD (.slice none 0 0)) (F k)) := by
  rcases h.row k with ⟨h1, h2⟩ | ⟨v, h1, h2, h3⟩
  · exact .inl ⟨by rw [h1]; rfl, h2⟩
  · exact .inr ⟨by rw [h1]; rfl, h2, by rw [h1]; exact h3⟩
/-- What turns no block of theirs. -/
theorem Groups.kept {row : Option Nat} (h : Groups w base e b M F) (hg : w.grownBy w1 row) (hb : some b ≠ row) (hr : ∀ k v, M k = some v → v.ownBlock ≠ row) : Groups w1 base e b M F :=
  ⟨h.map.kept hg hb, fun k => by
    rcases h.row k with h1 | ⟨v, h1, h2, h3⟩
    · exact .inl h1
    · exact .inr ⟨v, h1, h2, h3.kept hg (hr k v h1)⟩, h.apart, h.at_⟩
theorem Groups.ext (h : Groups w base e b M F) (hg : Ext w w1) : Groups w1 base e b M F := by
  obtain ⟨es, cl, L, hb, hE, hF⟩ := h.map
  exact ⟨⟨es, cl, L, (hg.block b (Array.getElem?_eq_some_iff.1 hb).1).trans hb, hE, hF⟩, fun k => by
    rcases h.row k with h1 | ⟨v, h1, h2, h3⟩
    · exact .inl h1
    · exact .inr ⟨v, h1, h2, h3.ext hg⟩, h.apart, h.at_⟩
theorem Groups.put (h : Groups w base e b M F) (k : Nat) {v' : Value} {zs' : List Nat} (hz : zs' ≠ []) (hg : w.grownBy w1 ((M k).getD (.slice none 0 0)).ownBlock) (hs : Sl w1 base e v' zs')
    (hb : v'.ownBlock = ((M k).getD (.slice none 0 0)).ownBlock ∨ ∃ g, v'.ownBlock = some g ∧ w.heap.size ≤ g) (hm : MapR w2 b (fun x => if x = k then some v' else M x)) (hg2 : w1.grownBy w2 (some b)) :
    Groups w2 base e b (fun x => if x = k then some v' else M x) (fun x => if x = k then zs' else F x) := by
  have hmap1 : MapR w1 b M := h.map.kept hg (by
    rcases h.look k with ⟨h1, _⟩ | ⟨_, _, h3⟩
    · rw [h1]; intro e; cases e
    · exact (ne_sl h.map h3).symm)
  have hfar : ∀ x v, x ≠ k → M x = some v → v.ownBlock ≠ ((M k).getD (.slice none 0 0)).ownBlock := by
    intro x v hx hv
    rcases h.row x with ⟨e1, _⟩ | ⟨v2, e1, _, hsl⟩
    · rw [hv] at e1; cases e1
    · rw [hv] at e1; obtain rfl := Option.some.inj e1
      rcases h.row k with ⟨h1, _⟩ | ⟨u, h1, _, _⟩
      · rw [h1]; obtain ⟨g, hgb, _⟩ := hsl.block; rw [hgb]; intro e; cases e
      · rw [h1]; exact h.apart x k v u hx hv h1
  refine ⟨hm, fun x => ?_, fun x x' v v2 hne hv hv2 => ?_, h.at_⟩
  · by_cases hx : x = k
    · simp only [if_pos hx]
      exact .inr ⟨v', rfl, hz, hs.kept hg2 (ne_sl hmap1 hs)⟩
    · simp only [if_neg hx]
      rcases h.row x with h1 | ⟨v, h1, h2, h3⟩
      · exact .inl h1
      · have h4 := h3.kept hg (hfar x v hx h1)
        exact .inr ⟨v, h1, h2, h4.kept hg2 (ne_sl hmap1 h4)⟩
  · have key : ∀ x v, x ≠ k → M x = some v → v.ownBlock ≠ v'.ownBlock := by
      intro x v hx hv e
      rcases hb with hb | ⟨g, hb, hgs⟩
      · exact hfar x v hx hv (e.trans hb)
      · rcases h.row x with ⟨e1, _⟩ | ⟨v2, e1, _, hsl⟩
        · rw [hv] at e1; cases e1
        · rw [hv] at e1; obtain rfl := Option.some.inj e1
          obtain ⟨g', hgb, _, hlt⟩ := hsl.block
          rw [hgb, hb] at e
          have := Option.some.inj e
          omega
    by_cases hx : x = k
    · by_cases hx' : x' = k
      · exact absurd (hx.trans hx'.symm) hne
      · simp only [if_pos hx] at hv
        simp only [if_neg hx'] at hv2
        obtain rfl := Option.some.inj hv
        exact (key x' v2 hx' hv2).symm
    · simp only [if_neg hx] at hv
      by_cases hx' : x' = k
      · simp only [if_pos hx'] at hv2
        obtain rfl := Option.some.inj hv2
        exact key x v hx hv
      · simp only [if_neg hx'] at hv2
        exact h.apart x x' v v2 hne hv hv2
theorem Groups.del (h : Groups w base e b M F) (k : Nat) (hm : MapR w2 b (fun x => if x = k then none else M x)) (hg2 : w.grownBy w2 (some b)) :
    Groups w2 base e b (fun x => if x = k then none else M x) (fun x => if x = k then [] else F x) := by
  refine ⟨hm, fun x => ?_, fun x x' v v2 hne hv hv2 => ?_, h.at_⟩
  · by_cases hx : x = k
    · exact .inl ⟨if_pos hx, if_pos hx⟩
    · simp only [if_neg hx]
      rcases h.row x with h1 | ⟨v, h1, h2, h3⟩
      · exact .inl h1
      · exact .inr ⟨v, h1, h2, h3.kept hg2 (ne_sl h.map h3)⟩
  · by_cases hx : x = k
    · simp only [if_pos hx] at hv; cases hv
    · simp only [if_neg hx] at hv
      by_cases hx' : x' = k
      · simp only [if_pos hx'] at hv2; cases hv2
      · simp only [if_neg hx'] at hv2
        exact h.apart x x' v v2 hne hv hv2
/-- The same map, by other words. -/
theorem Groups.same {M' : Nat → Option Value} {F' : Nat → List Nat} (h : Groups w base e b M F) (hM : ∀ k, M' k = M k) (hF : ∀ k, F' k = F k) : Groups w base e b M' F' := by
  obtain rfl : M' = M := funext hM
  obtain rfl : F' = F := funext hF
  exact h
variable {t kt et : TypeId} {ops : Array Oper} {rest : List Oper} {o : Oper} {a : Act} {Q : Exit → Act → World → Prop}
theorem wpList_look (hg : o.guard = none) (m x : Operand) (hop : o.op = Op.lookup t m x false) (ht : P.underlying t = some (.map kt et)) (hk : P.underlying kt = some (.int .u32)) {z : Value} (hz : (zeroValue et).run P w = .ok z w)
    (hm : a.eval m = .map (some b)) (h : MapR w b M) (k : Nat) (hx : a.eval x = .int .u32 (k : Int)) (hK : wpList P ops Q rest (a.put o.dst ((M k).getD z)) w) : wpList P ops Q (o :: rest) a w := by
  refine wpList_plain hg fun K' hK' => ?_
  have hrun := run_look (P := P) h ht hk hz k
  unfold Oper.wp
  simp [execOp, hop, hm, hx, hrun, Result.andThen]
  exact hK' _ _ hK
theorem wpList_put (hg : o.guard = none) (m x v : Operand) (hop : o.op = Op.mapUpdate t m x v) (ht : P.underlying t = some (.map kt et)) (hk : P.underlying kt = some (.int .u32))
    (hm : a.eval m = .map (some b)) (h : MapR w b M) (k : Nat) (val : Value) (hx : a.eval x = .int .u32 (k : Int)) (hv : a.eval v = val)
    (hK : ∀ w', MapR w' b (fun x => if x = k then some val else M x) → w.grownBy w' (some b) → wpList P ops Q rest (a.put o.dst undef) w') : wpList P ops Q (o :: rest) a w := by
  refine wpList_plain hg fun K' hK' => ?_
  obtain ⟨w', hrun, r1, r2⟩ := run_put (P := P) h ht hk k val
  unfold Oper.wp
  simp [execOp, hop, hm, hx, hv, hrun, Result.andThen]
  exact hK' _ _ (hK w' r1 r2)
theorem wpList_del (hg : o.guard = none) (m x : Operand) (tk : TypeId) (hop : o.op = .call { callee := .builtin .delete, args := #[m, x], argTypes := #[t, tk] }) (ht : P.underlying t = some (.map kt et)) (hk : P.underlying kt = some (.int .u32))
    (hm : a.eval m = .map (some b)) (h : MapR w b M) (k : Nat) (hx : a.eval x = .int .u32 (k : Int))
    (hK : ∀ w', MapR w' b (fun x => if x = k then none else M x) → w.grownBy w' (some b) → wpList P ops Q rest (a.put o.dst (.tuple #[])) w') : wpList P ops Q (o :: rest) a w := by
  refine wpList_plain hg fun K' hK' => ?_
  obtain ⟨w', hrun, r1, r2⟩ := run_del (P := P) h ht hk k #[t, tk] rfl o.type
  unfold Oper.wp execOp
  simp only [hop, resolve, invoke, builtin, Sem.run_bind, Sem.run_pure, Result.andThen_ok, List.map_toArray, List.map_cons, List.map_nil, hm, hx, hrun]
  exact hK' _ _ (hK w' r1 r2)
/-- A number is appended to such a row. -/
theorem wpList_more (hgd : o.guard = none) (s x : Operand) (t : TypeId) (ho : o.op = .call { callee := .builtin .append, args := #[s, x], argTypes := #[t, t] }) (i : TypeInfo) (z : Value) (ht : P.underlying t = some (.slice e)) (hi : P.info? e = some i) (hz : i.zero = some z) (hsize : i.size = 1) (hby : i.bytes = 8) (hzs : z.cells.size = 1)
    (v : Value) (zs : List Nat) (h : (v = .slice none 0 0 ∧ zs = []) ∨ Sl w base e v zs) (ad : Addr) (y : Nat) (hs : a.eval s = v) (hx : a.eval x = .slice (some ad) 1 1) (hy : w.cell? ad = some (.int .i64 (y : Int))) (hl : zs.length ≤ 1000) (hbase : base ≤ w.heap.size)
    (hK : ∀ v' w', Sl w' base e v' (zs ++ [y]) → w.grownBy w' v.ownBlock → (v'.ownBlock = v.ownBlock ∨ v'.ownBlock = some w.heap.size) → wpList P ops Q rest (a.put o.dst v') w') : wpList P ops Q (o :: rest) a w := by
  obtain ⟨v', w', h1, h2, h3, h4⟩ := run_more (P := P) t o.type i z ht hi hz hsize hby hzs h ad y hy hl hbase
  exact wpList_of_append hgd s x t t ho v _ hs hx h1 (hK v' w' h2 h3 h4)
end
end Go.Proofs.YtckjmabacibojaaDoor.Map32
namespace Go.Proofs.YtckjmabacibojaaDoor.Lz
open Go.ChangeShapes Go.WideShapes Go.ChangeAt Go.RowKit
open Go.Proofs.YtckjmabacibojaaDoor.Wire Go.Proofs.YtckjmabacibojaaDoor.Map32
set_option linter.unusedVariables false

/-- Nothing below base has turned, and no row of bytes. -/
structure Keep (base : Nat) (w w' : World) : Prop where
  low : Below base w w'
  rows : ∀ (i : Nat) cs fr, w.heap[i]? = some (Obj.cells cs 5 fr) → w'.heap[i]? = w.heap[i]?
theorem Keep.refl (base : Nat) (w : World) : Keep base w w := ⟨Below.refl _ _, fun _ _ _ _ => rfl⟩
theorem Keep.trans {base : Nat} {a b c : World} (h : Keep base a b) (k : Keep base b c) : Keep base a c :=
  ⟨h.low.trans k.low, fun i cs fr hi => (k.rows i cs fr ((h.rows i cs fr hi).trans hi)).trans (h.rows i cs fr hi)⟩
theorem Keep.ext {base : Nat} {a b : World} (h : Ext a b) (hb : base ≤ a.heap.size) : Keep base a b :=
  ⟨h.mono hb, fun i cs fr hi => h.block i (Array.getElem?_eq_some_iff.1 hi).1⟩
theorem Keep.grown {base : Nat} {a b : World} {row : Option Nat} (h : a.grownBy b row) (hb : base ≤ a.heap.size) (hr : ∀ k : Nat, row = some k → base ≤ k ∧ ∀ cs fr, a.heap[k]? ≠ some (Obj.cells cs 5 fr)) : Keep base a b :=
  ⟨⟨h.os, h.tape, h.output, h.size, fun k hk => h.block k (by omega) (fun e => by have := (hr k e.symm).1; omega)⟩,
    fun i cs fr hi => h.block i (Array.getElem?_eq_some_iff.1 hi).1 (fun e => (hr i e.symm).2 cs fr hi)⟩
theorem Keep.bs {base : Nat} {a b : World} {A : Option Addr} {n : Nat} {xs : List Nat} (h : Keep base a b) (hB : Bs a A n xs) (hA : ∀ ad, A = some ad → ad.block < base) : Bs b A n xs := by
  refine ⟨hB.1, hB.2.1, fun h0 => ?_⟩
  obtain ⟨g, o, rfl, hg, hc⟩ := hB.2.2 h0
  have hgb := hA _ rfl
  refine ⟨g, o, rfl, Nat.lt_of_lt_of_le hg h.low.size, fun j hj => ?_⟩
  exact (h.low.cell (p := ⟨g, o + j, none⟩) hgb).trans (hc j hj)
theorem keep_map {base b : Nat} {a c : World} {M : Nat → Option Value} (h : MapR a b M) (hb : base ≤ b) (hg : a.grownBy c (some b)) : Keep base a c :=
  Keep.grown hg (by have := h.lt; omega) (fun k hk => by
    obtain rfl := Option.some.inj hk
    refine ⟨hb, fun cs fr e => ?_⟩
    obtain ⟨es, cl, L, hh, _⟩ := h
    rw [hh] at e; cases e)
theorem keep_row {base : Nat} {a c : World} {v : Value} {zs : List Nat} (h : (v = .slice none 0 0 ∧ zs = []) ∨ Sl a base 3 v zs) (hb : base ≤ a.heap.size) (hg : a.grownBy c v.ownBlock) : Keep base a c :=
  Keep.grown hg hb (fun k hk => by
    rcases h with ⟨rfl, _⟩ | hs
    · cases hk
    · obtain ⟨g, o, cap, cur, rfl, hbg, hh, _⟩ := hs
      obtain rfl := Option.some.inj hk
      exact ⟨hbg, fun cs fr e => by rw [hh] at e; have := (Obj.cells.inj (Option.some.inj e)).2.1; revert this; decide⟩)
theorem zeroRow (w : World) : (zeroValue 90).run Tryd.prog w = .ok (.slice none 0 0) w := by kernel_rfl
theorem infoInt : (Tryd.prog.info? 3).map (fun i => (i.zero, i.size, i.bytes)) = some (some (.int .i64 0), 1, 8) := by kernel_rfl
theorem grown_refl (w : World) (row : Option Nat) : w.grownBy w row := ⟨rfl, rfl, rfl, Nat.le_refl _, fun _ _ _ => rfl⟩
/-- The map once the places behind the window have gone. -/
def Mid (w w' : World) (base b : Nat) (xs : List Nat) (p : Nat) : Prop := ∃ M, Groups w' base 3 b M (fun k => last16 (pls xs (p + 1 - 4096) p k)) ∧ Keep base w w'
def RemPost (w : World) (base b : Nat) (xs : List Nat) (p : Nat) (w' : World) : Prop := ∃ M, Groups w' base 3 b M (seen xs p) ∧ Keep base w w'
set_option maxHeartbeats 8000000 in
set_option maxRecDepth 100000 in
theorem remember (A : Option Addr) (N c p base b : Nat) (xs : List Nat) (M : Nat → Option Value) (w : World) (hB : Bs w A N xs) (hA : ∀ ad, A = some ad → ad.block < base) (hG : Groups w base 3 b M (seen xs p)) (hp : p < N) (hN : N ≤ 1000000) :
    Calls Tryd.prog 29 #[.map (some b), .slice A N c, .int .i64 (p : Int)] w fun e w' => e = .returned (.tuple #[]) ∧ RemPost w base b xs (p + 1) w' := by
  have hxl : xs.length = N := hB.1
  have hbw : base ≤ w.heap.size := by have := hG.map.lt; have := hG.at_; omega
  have HB := Lib.hid hB; have HA := Lib.hid hA; have HG := Lib.hid hG; have HXL := Lib.hid hxl
  clear hB hA hG hxl
  go_enter Tryd.func29, Tryd.ntmps29
  go_wp2_with fail
  by_cases h4 : 4096 ≤ p
  · have HK := Lib.hid h4
    rw [show ((p : Int) - 4096) = ((p - 4096 : Nat) : Int) from by omega]
    refine (three_yes A N c (p - 4096) xs w HB.out hN (by omega)).mono ?_
    rintro e w1 ⟨rfl, b1⟩
    have HG1 := Lib.hid (HG.out.ext b1)
    have HW1 := Lib.hid (Keep.ext b1 hbw)
    generalize hk1 : key xs (p - 4096) = k1
    have hkl : k1 < 4294967296 := by
      have := HB.out.2.1 (p - 4096); have := HB.out.2.1 (p - 4096 + 1); have := HB.out.2.1 (p - 4096 + 2)
      rw [← hk1]; unfold key; omega
    have HK1 := Lib.hid hk1; clear hk1
    have hmd : ∀ k, k ≠ k1 → last16 (pls xs (p + 1 - 4096) p k) = seen xs p k := fun k hk => seen_lo h4 (by rw [HXL.out]; omega) (by rw [HK1.out]; exact Ne.symm hk)
    have HMD := Lib.hid hmd; clear hmd
    rcases HG1.out.look k1 with ⟨hv, hs0⟩ | ⟨hv, hs0, hsl⟩
    · have hrun := run_look (P := Tryd.prog) HG1.out.map Tryd.underlying65 Tryd.underlying43 (zeroRow w1) k1
      rw [hv] at hrun
      have HMID : Hid (Mid w w1 base b xs p) := Lib.hid ⟨M, HG1.out.same (fun _ => rfl) (fun k => by
        by_cases hk : k = k1
        · rcases seen_lo_here (xs := xs) (at_ := p) (k := k1) h4 (by rw [HXL.out]; omega) HK1.out with ⟨r, e1, e2⟩ | ⟨e1, e2⟩
          · rw [hs0] at e1; cases e1
          · rw [hk]; exact e1.symm
        · exact HMD.out k hk), HW1.out⟩
      clear hv hs0
      go_wp2_with fail
      clear hrun
      obtain ⟨M2, hG2, hW2⟩ := HMID.out
      have HG2 := Lib.hid hG2; have HW2 := Lib.hid hW2
      clear hG2 hW2 HMID
      by_cases h3 : p + 3 ≤ N
      · refine (three_yes A N c p xs _ (HW2.out.bs HB.out HA.out) hN h3).mono ?_
        rintro e w3 ⟨rfl, b3⟩
        have HW3 := Lib.hid (HW2.out.trans (Keep.ext b3 (by have := HG2.out.map.lt; have := HG2.out.at_; omega)))
        have HG3 := Lib.hid (HG2.out.ext b3)
        have HF3 := Lib.hid (fun k => seen_hi (xs := xs) (at_ := p) (k := k))
        generalize hk2 : key xs p = k2 at *
        have HK2 := Lib.hid hk2; clear hk2
        obtain ⟨i3, hi0, hz0, hz1, hz2⟩ := info_parts infoInt
        have HI := Lib.hid (And.intro hi0 (And.intro hz0 (And.intro hz1 hz2))); clear hi0 hz0 hz1 hz2
        have hbs := HG3.out.map.lt
        have hbb := HG3.out.at_
        rcases HG3.out.look k2 with ⟨hv, hs0⟩ | ⟨hv, hs0, hsl⟩
        · have hrun := run_look (P := Tryd.prog) HG3.out.map Tryd.underlying65 Tryd.underlying43 (zeroRow w3) k2
          rw [hv] at hrun
          have HV := Lib.hid hv; have HS0 := Lib.hid hs0; clear hv hs0
          have HGA := Lib.hid (HG3.out.ext (ext_alloc (Ext.rfl' w3) (.cells #[.int .i64 (p : Int)] 3)))
          have hy : (w3.alloc (.cells #[.int .i64 (p : Int)] 3)).cell? ⟨w3.heap.size, 0, none⟩ = some (.int .i64 (p : Int)) := (Blk.new w3 _ _).cell 0
          have HY := Lib.hid hy; clear hy
          go_wp2_with (first | (at_builtin; refine wpList_more (base := base) (e := 3) rfl (.tmp 69) (.tmp 71) 90 rfl i3 (.int .i64 0) Tryd.underlying90 HI.out.1 HI.out.2.1 HI.out.2.2.1 HI.out.2.2.2 rfl (.slice none 0 0) [] (.inl ⟨rfl, rfl⟩) ⟨w3.heap.size, 0, none⟩ p rfl rfl HY.out (by simp) (by simp; omega) ?_; intro v4 w4 hs4 hg4 hb4; have HS4 := Lib.hid hs4; have HG4 := Lib.hid hg4; have HB4 := Lib.hid hb4; have HM4 := Lib.hid (HGA.out.map.kept hg4 (by intro h; cases h)); clear hs4 hg4 hb4) | (at_mapUpdate; refine wpList_put rfl (.tmp 67) (.tmp 68) (.tmp 72) rfl Tryd.underlying65 Tryd.underlying43 rfl HM4.out k2 v4 rfl rfl ?_; intro w5 hm5 hg5; have HM5 := Lib.hid hm5; have HG5 := Lib.hid hg5; clear hm5 hg5))
          have HBB : Hid (v4.ownBlock = ((M2 k2).getD (.slice none 0 0)).ownBlock ∨ ∃ g, v4.ownBlock = some g ∧ (w3.alloc (.cells #[.int .i64 (p : Int)] 3)).heap.size ≤ g) := Lib.hid (by
            rw [HV.out]
            rcases HB4.out with h | h
            · exact .inl h
            · exact .inr ⟨_, h, Nat.le_refl _⟩)
          have KR : Hid ((Value.slice none 0 0 = .slice none 0 0 ∧ ([] : List Nat) = []) ∨ Sl (w3.alloc (.cells #[.int .i64 (p : Int)] 3)) base 3 (.slice none 0 0) []) := Lib.hid (.inl ⟨rfl, rfl⟩)
          have HFF : Hid (∀ k, seen xs (p + 1) k = if k = k2 then [] ++ [p] else last16 (pls xs (p + 1 - 4096) p k)) := Lib.hid (fun k => by
            by_cases hk : k = k2
            · rw [if_pos hk, hk, HF3.out, if_pos ⟨by rw [HXL.out]; exact h3, rfl⟩, HS0.out]; rfl
            · rw [if_neg hk, HF3.out, if_neg (fun h => hk h.2.symm)])
          refine bodyPost_end (results_none rfl _ _ _) rfl ?_
          exact ⟨rfl, _, (HGA.out.put k2 (by simp) (by rw [HV.out]; exact HG4.out) HS4.out HBB.out HM5.out HG5.out).same (fun _ => rfl) HFF.out, HW3.out.trans ((Keep.ext (ext_alloc (Ext.rfl' w3) _) (by omega)).trans ((keep_row KR.out (by simp; omega) HG4.out).trans (keep_map HM4.out hbb HG5.out)))⟩
        · obtain ⟨g, o, cap, hve, hc1, hc2, hgb⟩ := hsl.shape
          have hrun := run_look (P := Tryd.prog) HG3.out.map Tryd.underlying65 Tryd.underlying43 (zeroRow w3) k2
          rw [hve] at hrun hsl
          have hn16 : (last16 (pls xs (p + 1 - 4096) p k2)).length ≤ 16 := by rw [last16_len]; omega
          have HVB : Hid (((M2 k2).getD (.slice none 0 0)).ownBlock = some g) := Lib.hid (by rw [hve]; rfl)
          have HV := Lib.hid hve; clear hve hv
          have HGA := Lib.hid (HG3.out.ext (ext_alloc (Ext.rfl' w3) (.cells #[.int .i64 (p : Int)] 3)))
          have hy : (w3.alloc (.cells #[.int .i64 (p : Int)] 3)).cell? ⟨w3.heap.size, 0, none⟩ = some (.int .i64 (p : Int)) := (Blk.new w3 _ _).cell 0
          have HY := Lib.hid hy; clear hy
          obtain ⟨zs, hzs⟩ : ∃ zs, zs = last16 (pls xs (p + 1 - 4096) p k2) := ⟨_, rfl⟩
          rw [← hzs] at hsl hrun hc1 hn16
          have HZS := Lib.hid hzs; clear hzs hs0
          by_cases h16 : zs.length = 16
          · cases zs with
            | nil => simp at h16
            | cons z r =>
              have hr15 : r.length = 15 := by simpa using h16
              have HSA0 := Lib.hid (Sl.tail (n := r.length) hsl)
              rw [h16] at hrun hc1
              rw [hr15] at HSA0
              have HSA := Lib.hid (HSA0.out.ext (ext_alloc (Ext.rfl' w3) (.cells #[.int .i64 (p : Int)] 3)))
              clear hsl
              go_wp2_with (first | (at_builtin; refine wpList_more (base := base) (e := 3) rfl (.tmp 69) (.tmp 71) 90 rfl i3 (.int .i64 0) Tryd.underlying90 HI.out.1 HI.out.2.1 HI.out.2.2.1 HI.out.2.2.2 rfl (.slice (some ⟨g, o + 1, none⟩) 15 (cap - 1)) r (.inr HSA.out) ⟨w3.heap.size, 0, none⟩ p rfl rfl HY.out (by omega) (by simp; omega) ?_; intro v4 w4 hs4 hg4 hb4; have HS4 := Lib.hid hs4; have HG4 := Lib.hid hg4; have HB4 := Lib.hid hb4; have HM4 := Lib.hid (HGA.out.map.kept hg4 (ne_sl HGA.out.map HSA.out).symm); clear hs4 hg4 hb4) | (at_mapUpdate; refine wpList_put rfl (.tmp 67) (.tmp 68) (.tmp 72) rfl Tryd.underlying65 Tryd.underlying43 rfl HM4.out k2 v4 rfl rfl ?_; intro w5 hm5 hg5; have HM5 := Lib.hid hm5; have HG5 := Lib.hid hg5; clear hm5 hg5))
              have HBB : Hid (v4.ownBlock = ((M2 k2).getD (.slice none 0 0)).ownBlock ∨ ∃ g, v4.ownBlock = some g ∧ (w3.alloc (.cells #[.int .i64 (p : Int)] 3)).heap.size ≤ g) := Lib.hid (by
                rw [HVB.out]
                rcases HB4.out with h | h
                · exact .inl h
                · exact .inr ⟨_, h, Nat.le_refl _⟩)
              have KR := Lib.hid (Or.inr (a := (Value.slice (some ⟨g, o + 1, none⟩) 15 (cap - 1) = .slice none 0 0 ∧ r = [])) HSA.out)
              have HFF : Hid (∀ k, seen xs (p + 1) k = if k = k2 then r ++ [p] else last16 (pls xs (p + 1 - 4096) p k)) := Lib.hid (fun k => by
                by_cases hk : k = k2
                · rw [if_pos hk, hk, HF3.out, if_pos ⟨by rw [HXL.out]; exact h3, rfl⟩, ← HZS.out, if_pos h16]; rfl
                · rw [if_neg hk, HF3.out, if_neg (fun h => hk h.2.symm)])
              refine bodyPost_end (results_none rfl _ _ _) rfl ?_
              exact ⟨rfl, _, (HGA.out.put k2 (by simp) (by rw [HVB.out]; exact HG4.out) HS4.out HBB.out HM5.out HG5.out).same (fun _ => rfl) HFF.out, HW3.out.trans ((Keep.ext (ext_alloc (Ext.rfl' w3) _) (by omega)).trans ((keep_row KR.out (by simp; omega) HG4.out).trans (keep_map HM4.out hbb HG5.out)))⟩
          · have HSA := Lib.hid (hsl.ext (ext_alloc (Ext.rfl' w3) (.cells #[.int .i64 (p : Int)] 3)))
            have q16 : ((zs.length : Int) == 16) = false := beq_eq_false_iff_ne.2 (by omega)
            clear hsl
            go_wp2_with (first | (at_builtin; refine wpList_more (base := base) (e := 3) rfl (.tmp 69) (.tmp 71) 90 rfl i3 (.int .i64 0) Tryd.underlying90 HI.out.1 HI.out.2.1 HI.out.2.2.1 HI.out.2.2.2 rfl (.slice (some ⟨g, o, none⟩) zs.length cap) zs (.inr HSA.out) ⟨w3.heap.size, 0, none⟩ p rfl rfl HY.out (by omega) (by simp; omega) ?_; intro v4 w4 hs4 hg4 hb4; have HS4 := Lib.hid hs4; have HG4 := Lib.hid hg4; have HB4 := Lib.hid hb4; have HM4 := Lib.hid (HGA.out.map.kept hg4 (ne_sl HGA.out.map HSA.out).symm); clear hs4 hg4 hb4) | (at_mapUpdate; refine wpList_put rfl (.tmp 67) (.tmp 68) (.tmp 72) rfl Tryd.underlying65 Tryd.underlying43 rfl HM4.out k2 v4 rfl rfl ?_; intro w5 hm5 hg5; have HM5 := Lib.hid hm5; have HG5 := Lib.hid hg5; clear hm5 hg5))
            have HBB : Hid (v4.ownBlock = ((M2 k2).getD (.slice none 0 0)).ownBlock ∨ ∃ g, v4.ownBlock = some g ∧ (w3.alloc (.cells #[.int .i64 (p : Int)] 3)).heap.size ≤ g) := Lib.hid (by
              rw [HVB.out]
              rcases HB4.out with h | h
              · exact .inl h
              · exact .inr ⟨_, h, Nat.le_refl _⟩)
            have KR := Lib.hid (Or.inr (a := (Value.slice (some ⟨g, o, none⟩) zs.length cap = .slice none 0 0 ∧ zs = [])) HSA.out)
            have HFF : Hid (∀ k, seen xs (p + 1) k = if k = k2 then zs ++ [p] else last16 (pls xs (p + 1 - 4096) p k)) := Lib.hid (fun k => by
              by_cases hk : k = k2
              · rw [if_pos hk, hk, HF3.out, if_pos ⟨by rw [HXL.out]; exact h3, rfl⟩, ← HZS.out, if_neg h16]
              · rw [if_neg hk, HF3.out, if_neg (fun h => hk h.2.symm)])
            refine bodyPost_end (results_none rfl _ _ _) rfl ?_
            exact ⟨rfl, _, (HGA.out.put k2 (by simp) (by rw [HVB.out]; exact HG4.out) HS4.out HBB.out HM5.out HG5.out).same (fun _ => rfl) HFF.out, HW3.out.trans ((Keep.ext (ext_alloc (Ext.rfl' w3) _) (by omega)).trans ((keep_row KR.out (by simp; omega) HG4.out).trans (keep_map HM4.out hbb HG5.out)))⟩
      · have HS1 : Hid (∀ k, seen xs (p + 1) k = last16 (pls xs (p + 1 - 4096) p k)) := Lib.hid (fun k => by rw [seen_hi, if_neg (fun hh => by rw [HXL.out] at hh; exact h3 hh.1)])
        refine (three_no A N c (p : Int) _ hN (by omega) (by omega) (.inr (by omega))).mono ?_
        rintro e w3 ⟨rfl, rfl⟩
        go_wp2_with fail
        refine bodyPost_ret (results_none rfl _ _ _) rfl ?_
        exact ⟨rfl, M2, HG2.out.same (fun _ => rfl) HS1.out, HW2.out⟩
    · obtain ⟨g, o, cap, hve, hc1, hc2, hgb⟩ := hsl.shape
      have hrun := run_look (P := Tryd.prog) HG1.out.map Tryd.underlying65 Tryd.underlying43 (zeroRow w1) k1
      rw [hve] at hrun hsl hv
      have hn16 := seen_len xs p k1
      rcases seen_lo_here (xs := xs) (at_ := p) (k := k1) h4 (by rw [HXL.out]; omega) HK1.out with ⟨r, e1, e2⟩ | ⟨e1, e2⟩
      · rw [e1] at hrun hsl hc1 hn16
        have c0 := hsl.cells 0 (by simp)
        have f0 := hsl.frozen 0 (by simp)
        simp only [List.length_cons, Nat.add_zero, List.getD_cons_zero] at c0 hrun hc1 hn16 f0
        have q9 : (((p - 4096 : Nat) : Int) == (p : Int) - 4096) = true := beq_iff_eq.2 (by omega)
        have HSL := Lib.hid hsl; have HV := Lib.hid hv; have HE2 := Lib.hid e2; have HE1 := Lib.hid e1
        clear hsl hv e2 e1 hs0 hve
        cases r with
        | nil =>
          go_wp2_with (refine wpList_del rfl (.tmp 49) (.tmp 50) 43 rfl Tryd.underlying65 Tryd.underlying43 rfl HG1.out.map k1 rfl ?_; intro w2 hm2 hg2)
          have HMID : Hid (Mid w w2 base b xs p) := Lib.hid ⟨_, (HG1.out.del k1 hm2 hg2).same (fun _ => rfl) (fun k => by
            by_cases hk : k = k1
            · rw [if_pos hk, hk]; exact HE2.out
            · rw [if_neg hk]; exact HMD.out k hk), HW1.out.trans (keep_map HG1.out.map HG1.out.at_ hg2)⟩
          clear hm2 hg2 hrun
          obtain ⟨M2, hG2, hW2⟩ := HMID.out
          have HG2 := Lib.hid hG2; have HW2 := Lib.hid hW2
          clear hG2 hW2 HMID
          by_cases h3 : p + 3 ≤ N
          · refine (three_yes A N c p xs _ (HW2.out.bs HB.out HA.out) hN h3).mono ?_
            rintro e w3 ⟨rfl, b3⟩
            have HW3 := Lib.hid (HW2.out.trans (Keep.ext b3 (by have := HG2.out.map.lt; have := HG2.out.at_; omega)))
            have HG3 := Lib.hid (HG2.out.ext b3)
            have HF3 := Lib.hid (fun k => seen_hi (xs := xs) (at_ := p) (k := k))
            generalize hk2 : key xs p = k2 at *
            have HK2 := Lib.hid hk2; clear hk2
            obtain ⟨i3, hi0, hz0, hz1, hz2⟩ := info_parts infoInt
            have HI := Lib.hid (And.intro hi0 (And.intro hz0 (And.intro hz1 hz2))); clear hi0 hz0 hz1 hz2
            have hbs := HG3.out.map.lt
            have hbb := HG3.out.at_
            rcases HG3.out.look k2 with ⟨hv, hs0⟩ | ⟨hv, hs0, hsl⟩
            · have hrun := run_look (P := Tryd.prog) HG3.out.map Tryd.underlying65 Tryd.underlying43 (zeroRow w3) k2
              rw [hv] at hrun
              have HV := Lib.hid hv; have HS0 := Lib.hid hs0; clear hv hs0
              have HGA := Lib.hid (HG3.out.ext (ext_alloc (Ext.rfl' w3) (.cells #[.int .i64 (p : Int)] 3)))
              have hy : (w3.alloc (.cells #[.int .i64 (p : Int)] 3)).cell? ⟨w3.heap.size, 0, none⟩ = some (.int .i64 (p : Int)) := (Blk.new w3 _ _).cell 0
              have HY := Lib.hid hy; clear hy
              go_wp2_with (first | (at_builtin; refine wpList_more (base := base) (e := 3) rfl (.tmp 69) (.tmp 71) 90 rfl i3 (.int .i64 0) Tryd.underlying90 HI.out.1 HI.out.2.1 HI.out.2.2.1 HI.out.2.2.2 rfl (.slice none 0 0) [] (.inl ⟨rfl, rfl⟩) ⟨w3.heap.size, 0, none⟩ p rfl rfl HY.out (by simp) (by simp; omega) ?_; intro v4 w4 hs4 hg4 hb4; have HS4 := Lib.hid hs4; have HG4 := Lib.hid hg4; have HB4 := Lib.hid hb4; have HM4 := Lib.hid (HGA.out.map.kept hg4 (by intro h; cases h)); clear hs4 hg4 hb4) | (at_mapUpdate; refine wpList_put rfl (.tmp 67) (.tmp 68) (.tmp 72) rfl Tryd.underlying65 Tryd.underlying43 rfl HM4.out k2 v4 rfl rfl ?_; intro w5 hm5 hg5; have HM5 := Lib.hid hm5; have HG5 := Lib.hid hg5; clear hm5 hg5))
              have HBB : Hid (v4.ownBlock = ((M2 k2).getD (.slice none 0 0)).ownBlock ∨ ∃ g, v4.ownBlock = some g ∧ (w3.alloc (.cells #[.int .i64 (p : Int)] 3)).heap.size ≤ g) := Lib.hid (by
                rw [HV.out]
                rcases HB4.out with h | h
                · exact .inl h
                · exact .inr ⟨_, h, Nat.le_refl _⟩)
              have KR : Hid ((Value.slice none 0 0 = .slice none 0 0 ∧ ([] : List Nat) = []) ∨ Sl (w3.alloc (.cells #[.int .i64 (p : Int)] 3)) base 3 (.slice none 0 0) []) := Lib.hid (.inl ⟨rfl, rfl⟩)
              have HFF : Hid (∀ k, seen xs (p + 1) k = if k = k2 then [] ++ [p] else last16 (pls xs (p + 1 - 4096) p k)) := Lib.hid (fun k => by
                by_cases hk : k = k2
                · rw [if_pos hk, hk, HF3.out, if_pos ⟨by rw [HXL.out]; exact h3, rfl⟩, HS0.out]; rfl
                · rw [if_neg hk, HF3.out, if_neg (fun h => hk h.2.symm)])
              refine bodyPost_end (results_none rfl _ _ _) rfl ?_
              exact ⟨rfl, _, (HGA.out.put k2 (by simp) (by rw [HV.out]; exact HG4.out) HS4.out HBB.out HM5.out HG5.out).same (fun _ => rfl) HFF.out, HW3.out.trans ((Keep.ext (ext_alloc (Ext.rfl' w3) _) (by omega)).trans ((keep_row KR.out (by simp; omega) HG4.out).trans (keep_map HM4.out hbb HG5.out)))⟩
            · obtain ⟨g, o, cap, hve, hc1, hc2, hgb⟩ := hsl.shape
              have hrun := run_look (P := Tryd.prog) HG3.out.map Tryd.underlying65 Tryd.underlying43 (zeroRow w3) k2
              rw [hve] at hrun hsl
              have hn16 : (last16 (pls xs (p + 1 - 4096) p k2)).length ≤ 16 := by rw [last16_len]; omega
              have HVB : Hid (((M2 k2).getD (.slice none 0 0)).ownBlock = some g) := Lib.hid (by rw [hve]; rfl)
              have HV := Lib.hid hve; clear hve hv
              have HGA := Lib.hid (HG3.out.ext (ext_alloc (Ext.rfl' w3) (.cells #[.int .i64 (p : Int)] 3)))
              have hy : (w3.alloc (.cells #[.int .i64 (p : Int)] 3)).cell? ⟨w3.heap.size, 0, none⟩ = some (.int .i64 (p : Int)) := (Blk.new w3 _ _).cell 0
              have HY := Lib.hid hy; clear hy
              obtain ⟨zs, hzs⟩ : ∃ zs, zs = last16 (pls xs (p + 1 - 4096) p k2) := ⟨_, rfl⟩
              rw [← hzs] at hsl hrun hc1 hn16
              have HZS := Lib.hid hzs; clear hzs hs0
              by_cases h16 : zs.length = 16
              · cases zs with
                | nil => simp at h16
                | cons z r =>
                  have hr15 : r.length = 15 := by simpa using h16
                  have HSA0 := Lib.hid (Sl.tail (n := r.length) hsl)
                  rw [h16] at hrun hc1
                  rw [hr15] at HSA0
                  have HSA := Lib.hid (HSA0.out.ext (ext_alloc (Ext.rfl' w3) (.cells #[.int .i64 (p : Int)] 3)))
                  clear hsl
                  go_wp2_with (first | (at_builtin; refine wpList_more (base := base) (e := 3) rfl (.tmp 69) (.tmp 71) 90 rfl i3 (.int .i64 0) Tryd.underlying90 HI.out.1 HI.out.2.1 HI.out.2.2.1 HI.out.2.2.2 rfl (.slice (some ⟨g, o + 1, none⟩) 15 (cap - 1)) r (.inr HSA.out) ⟨w3.heap.size, 0, none⟩ p rfl rfl HY.out (by omega) (by simp; omega) ?_; intro v4 w4 hs4 hg4 hb4; have HS4 := Lib.hid hs4; have HG4 := Lib.hid hg4; have HB4 := Lib.hid hb4; have HM4 := Lib.hid (HGA.out.map.kept hg4 (ne_sl HGA.out.map HSA.out).symm); clear hs4 hg4 hb4) | (at_mapUpdate; refine wpList_put rfl (.tmp 67) (.tmp 68) (.tmp 72) rfl Tryd.underlying65 Tryd.underlying43 rfl HM4.out k2 v4 rfl rfl ?_; intro w5 hm5 hg5; have HM5 := Lib.hid hm5; have HG5 := Lib.hid hg5; clear hm5 hg5))
                  have HBB : Hid (v4.ownBlock = ((M2 k2).getD (.slice none 0 0)).ownBlock ∨ ∃ g, v4.ownBlock = some g ∧ (w3.alloc (.cells #[.int .i64 (p : Int)] 3)).heap.size ≤ g) := Lib.hid (by
                    rw [HVB.out]
                    rcases HB4.out with h | h
                    · exact .inl h
                    · exact .inr ⟨_, h, Nat.le_refl _⟩)
                  have KR := Lib.hid (Or.inr (a := (Value.slice (some ⟨g, o + 1, none⟩) 15 (cap - 1) = .slice none 0 0 ∧ r = [])) HSA.out)
                  have HFF : Hid (∀ k, seen xs (p + 1) k = if k = k2 then r ++ [p] else last16 (pls xs (p + 1 - 4096) p k)) := Lib.hid (fun k => by
                    by_cases hk : k = k2
                    · rw [if_pos hk, hk, HF3.out, if_pos ⟨by rw [HXL.out]; exact h3, rfl⟩, ← HZS.out, if_pos h16]; rfl
                    · rw [if_neg hk, HF3.out, if_neg (fun h => hk h.2.symm)])
                  refine bodyPost_end (results_none rfl _ _ _) rfl ?_
                  exact ⟨rfl, _, (HGA.out.put k2 (by simp) (by rw [HVB.out]; exact HG4.out) HS4.out HBB.out HM5.out HG5.out).same (fun _ => rfl) HFF.out, HW3.out.trans ((Keep.ext (ext_alloc (Ext.rfl' w3) _) (by omega)).trans ((keep_row KR.out (by simp; omega) HG4.out).trans (keep_map HM4.out hbb HG5.out)))⟩
              · have HSA := Lib.hid (hsl.ext (ext_alloc (Ext.rfl' w3) (.cells #[.int .i64 (p : Int)] 3)))
                have q16 : ((zs.length : Int) == 16) = false := beq_eq_false_iff_ne.2 (by omega)
                clear hsl
                go_wp2_with (first | (at_builtin; refine wpList_more (base := base) (e := 3) rfl (.tmp 69) (.tmp 71) 90 rfl i3 (.int .i64 0) Tryd.underlying90 HI.out.1 HI.out.2.1 HI.out.2.2.1 HI.out.2.2.2 rfl (.slice (some ⟨g, o, none⟩) zs.length cap) zs (.inr HSA.out) ⟨w3.heap.size, 0, none⟩ p rfl rfl HY.out (by omega) (by simp; omega) ?_; intro v4 w4 hs4 hg4 hb4; have HS4 := Lib.hid hs4; have HG4 := Lib.hid hg4; have HB4 := Lib.hid hb4; have HM4 := Lib.hid (HGA.out.map.kept hg4 (ne_sl HGA.out.map HSA.out).symm); clear hs4 hg4 hb4) | (at_mapUpdate; refine wpList_put rfl (.tmp 67) (.tmp 68) (.tmp 72) rfl Tryd.underlying65 Tryd.underlying43 rfl HM4.out k2 v4 rfl rfl ?_; intro w5 hm5 hg5; have HM5 := Lib.hid hm5; have HG5 := Lib.hid hg5; clear hm5 hg5))
                have HBB : Hid (v4.ownBlock = ((M2 k2).getD (.slice none 0 0)).ownBlock ∨ ∃ g, v4.ownBlock = some g ∧ (w3.alloc (.cells #[.int .i64 (p : Int)] 3)).heap.size ≤ g) := Lib.hid (by
                  rw [HVB.out]
                  rcases HB4.out with h | h
                  · exact .inl h
                  · exact .inr ⟨_, h, Nat.le_refl _⟩)
                have KR := Lib.hid (Or.inr (a := (Value.slice (some ⟨g, o, none⟩) zs.length cap = .slice none 0 0 ∧ zs = [])) HSA.out)
                have HFF : Hid (∀ k, seen xs (p + 1) k = if k = k2 then zs ++ [p] else last16 (pls xs (p + 1 - 4096) p k)) := Lib.hid (fun k => by
                  by_cases hk : k = k2
                  · rw [if_pos hk, hk, HF3.out, if_pos ⟨by rw [HXL.out]; exact h3, rfl⟩, ← HZS.out, if_neg h16]
                  · rw [if_neg hk, HF3.out, if_neg (fun h => hk h.2.symm)])
                refine bodyPost_end (results_none rfl _ _ _) rfl ?_
                exact ⟨rfl, _, (HGA.out.put k2 (by simp) (by rw [HVB.out]; exact HG4.out) HS4.out HBB.out HM5.out HG5.out).same (fun _ => rfl) HFF.out, HW3.out.trans ((Keep.ext (ext_alloc (Ext.rfl' w3) _) (by omega)).trans ((keep_row KR.out (by simp; omega) HG4.out).trans (keep_map HM4.out hbb HG5.out)))⟩
          · have HS1 : Hid (∀ k, seen xs (p + 1) k = last16 (pls xs (p + 1 - 4096) p k)) := Lib.hid (fun k => by rw [seen_hi, if_neg (fun hh => by rw [HXL.out] at hh; exact h3 hh.1)])
            refine (three_no A N c (p : Int) _ hN (by omega) (by omega) (.inr (by omega))).mono ?_
            rintro e w3 ⟨rfl, rfl⟩
            go_wp2_with fail
            refine bodyPost_ret (results_none rfl _ _ _) rfl ?_
            exact ⟨rfl, M2, HG2.out.same (fun _ => rfl) HS1.out, HW2.out⟩
        | cons z2 r2 =>
          simp only [List.length_cons] at hrun hc1 hn16
          have q1 : (1 : Int) < ((r2.length + 1 + 1 : Nat) : Int) := by omega
          go_wp2_with (at_mapUpdate; refine wpList_put rfl (.tmp 34) (.tmp 35) (.tmp 37) rfl Tryd.underlying65 Tryd.underlying43 rfl HG1.out.map k1 _ rfl rfl ?_; intro w2 hm2 hg2)
          have HMID : Hid (Mid w w2 base b xs p) := Lib.hid ⟨_, (HG1.out.put k1 (zs' := z2 :: r2) (by simp) (grown_refl _ _) (Sl.tail (n := r2.length + 1) HSL.out) (.inl (by rw [HV.out]; rfl)) hm2 hg2).same (fun _ => rfl) (fun k => by
            by_cases hk : k = k1
            · rw [if_pos hk, hk]; exact HE2.out
            · rw [if_neg hk]; exact HMD.out k hk), HW1.out.trans (keep_map HG1.out.map HG1.out.at_ hg2)⟩
          clear hm2 hg2 hrun
          obtain ⟨M2, hG2, hW2⟩ := HMID.out
          have HG2 := Lib.hid hG2; have HW2 := Lib.hid hW2
          clear hG2 hW2 HMID
          by_cases h3 : p + 3 ≤ N
          · refine (three_yes A N c p xs _ (HW2.out.bs HB.out HA.out) hN h3).mono ?_
            rintro e w3 ⟨rfl, b3⟩
            have HW3 := Lib.hid (HW2.out.trans (Keep.ext b3 (by have := HG2.out.map.lt; have := HG2.out.at_; omega)))
            have HG3 := Lib.hid (HG2.out.ext b3)
            have HF3 := Lib.hid (fun k => seen_hi (xs := xs) (at_ := p) (k := k))
            generalize hk2 : key xs p = k2 at *
            have HK2 := Lib.hid hk2; clear hk2
            obtain ⟨i3, hi0, hz0, hz1, hz2⟩ := info_parts infoInt
            have HI := Lib.hid (And.intro hi0 (And.intro hz0 (And.intro hz1 hz2))); clear hi0 hz0 hz1 hz2
            have hbs := HG3.out.map.lt
            have hbb := HG3.out.at_
            rcases HG3.out.look k2 with ⟨hv, hs0⟩ | ⟨hv, hs0, hsl⟩
            · have hrun := run_look (P := Tryd.prog) HG3.out.map Tryd.underlying65 Tryd.underlying43 (zeroRow w3) k2
              rw [hv] at hrun
              have HV := Lib.hid hv; have HS0 := Lib.hid hs0; clear hv hs0
              have HGA := Lib.hid (HG3.out.ext (ext_alloc (Ext.rfl' w3) (.cells #[.int .i64 (p : Int)] 3)))
              have hy : (w3.alloc (.cells #[.int .i64 (p : Int)] 3)).cell? ⟨w3.heap.size, 0, none⟩ = some (.int .i64 (p : Int)) := (Blk.new w3 _ _).cell 0
              have HY := Lib.hid hy; clear hy
              go_wp2_with (first | (at_builtin; refine wpList_more (base := base) (e := 3) rfl (.tmp 69) (.tmp 71) 90 rfl i3 (.int .i64 0) Tryd.underlying90 HI.out.1 HI.out.2.1 HI.out.2.2.1 HI.out.2.2.2 rfl (.slice none 0 0) [] (.inl ⟨rfl, rfl⟩) ⟨w3.heap.size, 0, none⟩ p rfl rfl HY.out (by simp) (by simp; omega) ?_; intro v4 w4 hs4 hg4 hb4; have HS4 := Lib.hid hs4; have HG4 := Lib.hid hg4; have HB4 := Lib.hid hb4; have HM4 := Lib.hid (HGA.out.map.kept hg4 (by intro h; cases h)); clear hs4 hg4 hb4) | (at_mapUpdate; refine wpList_put rfl (.tmp 67) (.tmp 68) (.tmp 72) rfl Tryd.underlying65 Tryd.underlying43 rfl HM4.out k2 v4 rfl rfl ?_; intro w5 hm5 hg5; have HM5 := Lib.hid hm5; have HG5 := Lib.hid hg5; clear hm5 hg5))
              have HBB : Hid (v4.ownBlock = ((M2 k2).getD (.slice none 0 0)).ownBlock ∨ ∃ g, v4.ownBlock = some g ∧ (w3.alloc (.cells #[.int .i64 (p : Int)] 3)).heap.size ≤ g) := Lib.hid (by
                rw [HV.out]
                rcases HB4.out with h | h
                · exact .inl h
                · exact .inr ⟨_, h, Nat.le_refl _⟩)
              have KR : Hid ((Value.slice none 0 0 = .slice none 0 0 ∧ ([] : List Nat) = []) ∨ Sl (w3.alloc (.cells #[.int .i64 (p : Int)] 3)) base 3 (.slice none 0 0) []) := Lib.hid (.inl ⟨rfl, rfl⟩)
              have HFF : Hid (∀ k, seen xs (p + 1) k = if k = k2 then [] ++ [p] else last16 (pls xs (p + 1 - 4096) p k)) := Lib.hid (fun k => by
                by_cases hk : k = k2
                · rw [if_pos hk, hk, HF3.out, if_pos ⟨by rw [HXL.out]; exact h3, rfl⟩, HS0.out]; rfl
                · rw [if_neg hk, HF3.out, if_neg (fun h => hk h.2.symm)])
              refine bodyPost_end (results_none rfl _ _ _) rfl ?_
              exact ⟨rfl, _, (HGA.out.put k2 (by simp) (by rw [HV.out]; exact HG4.out) HS4.out HBB.out HM5.out HG5.out).same (fun _ => rfl) HFF.out, HW3.out.trans ((Keep.ext (ext_alloc (Ext.rfl' w3) _) (by omega)).trans ((keep_row KR.out (by simp; omega) HG4.out).trans (keep_map HM4.out hbb HG5.out)))⟩
            · obtain ⟨g, o, cap, hve, hc1, hc2, hgb⟩ := hsl.shape
              have hrun := run_look (P := Tryd.prog) HG3.out.map Tryd.underlying65 Tryd.underlying43 (zeroRow w3) k2
              rw [hve] at hrun hsl
              have hn16 : (last16 (pls xs (p + 1 - 4096) p k2)).length ≤ 16 := by rw [last16_len]; omega
              have HVB : Hid (((M2 k2).getD (.slice none 0 0)).ownBlock = some g) := Lib.hid (by rw [hve]; rfl)
              have HV := Lib.hid hve; clear hve hv
              have HGA := Lib.hid (HG3.out.ext (ext_alloc (Ext.rfl' w3) (.cells #[.int .i64 (p : Int)] 3)))
              have hy : (w3.alloc (.cells #[.int .i64 (p : Int)] 3)).cell? ⟨w3.heap.size, 0, none⟩ = some (.int .i64 (p : Int)) := (Blk.new w3 _ _).cell 0
              have HY := Lib.hid hy; clear hy
              obtain ⟨zs, hzs⟩ : ∃ zs, zs = last16 (pls xs (p + 1 - 4096) p k2) := ⟨_, rfl⟩
              rw [← hzs] at hsl hrun hc1 hn16
              have HZS := Lib.hid hzs; clear hzs hs0
              by_cases h16 : zs.length = 16
              · cases zs with
                | nil => simp at h16
                | cons z r =>
                  have hr15 : r.length = 15 := by simpa using h16
                  have HSA0 := Lib.hid (Sl.tail (n := r.length) hsl)
                  rw [h16] at hrun hc1
                  rw [hr15] at HSA0
                  have HSA := Lib.hid (HSA0.out.ext (ext_alloc (Ext.rfl' w3) (.cells #[.int .i64 (p : Int)] 3)))
                  clear hsl
                  go_wp2_with (first | (at_builtin; refine wpList_more (base := base) (e := 3) rfl (.tmp 69) (.tmp 71) 90 rfl i3 (.int .i64 0) Tryd.underlying90 HI.out.1 HI.out.2.1 HI.out.2.2.1 HI.out.2.2.2 rfl (.slice (some ⟨g, o + 1, none⟩) 15 (cap - 1)) r (.inr HSA.out) ⟨w3.heap.size, 0, none⟩ p rfl rfl HY.out (by omega) (by simp; omega) ?_; intro v4 w4 hs4 hg4 hb4; have HS4 := Lib.hid hs4; have HG4 := Lib.hid hg4; have HB4 := Lib.hid hb4; have HM4 := Lib.hid (HGA.out.map.kept hg4 (ne_sl HGA.out.map HSA.out).symm); clear hs4 hg4 hb4) | (at_mapUpdate; refine wpList_put rfl (.tmp 67) (.tmp 68) (.tmp 72) rfl Tryd.underlying65 Tryd.underlying43 rfl HM4.out k2 v4 rfl rfl ?_; intro w5 hm5 hg5; have HM5 := Lib.hid hm5; have HG5 := Lib.hid hg5; clear hm5 hg5))
                  have HBB : Hid (v4.ownBlock = ((M2 k2).getD (.slice none 0 0)).ownBlock ∨ ∃ g, v4.ownBlock = some g ∧ (w3.alloc (.cells #[.int .i64 (p : Int)] 3)).heap.size ≤ g) := Lib.hid (by
                    rw [HVB.out]
                    rcases HB4.out with h | h
                    · exact .inl h
                    · exact .inr ⟨_, h, Nat.le_refl _⟩)
                  have KR := Lib.hid (Or.inr (a := (Value.slice (some ⟨g, o + 1, none⟩) 15 (cap - 1) = .slice none 0 0 ∧ r = [])) HSA.out)
                  have HFF : Hid (∀ k, seen xs (p + 1) k = if k = k2 then r ++ [p] else last16 (pls xs (p + 1 - 4096) p k)) := Lib.hid (fun k => by
                    by_cases hk : k = k2
                    · rw [if_pos hk, hk, HF3.out, if_pos ⟨by rw [HXL.out]; exact h3, rfl⟩, ← HZS.out, if_pos h16]; rfl
                    · rw [if_neg hk, HF3.out, if_neg (fun h => hk h.2.symm)])
                  refine bodyPost_end (results_none rfl _ _ _) rfl ?_
                  exact ⟨rfl, _, (HGA.out.put k2 (by simp) (by rw [HVB.out]; exact HG4.out) HS4.out HBB.out HM5.out HG5.out).same (fun _ => rfl) HFF.out, HW3.out.trans ((Keep.ext (ext_alloc (Ext.rfl' w3) _) (by omega)).trans ((keep_row KR.out (by simp; omega) HG4.out).trans (keep_map HM4.out hbb HG5.out)))⟩
              · have HSA := Lib.hid (hsl.ext (ext_alloc (Ext.rfl' w3) (.cells #[.int .i64 (p : Int)] 3)))
                have q16 : ((zs.length : Int) == 16) = false := beq_eq_false_iff_ne.2 (by omega)
                clear hsl
                go_wp2_with (first | (at_builtin; refine wpList_more (base := base) (e := 3) rfl (.tmp 69) (.tmp 71) 90 rfl i3 (.int .i64 0) Tryd.underlying90 HI.out.1 HI.out.2.1 HI.out.2.2.1 HI.out.2.2.2 rfl (.slice (some ⟨g, o, none⟩) zs.length cap) zs (.inr HSA.out) ⟨w3.heap.size, 0, none⟩ p rfl rfl HY.out (by omega) (by simp; omega) ?_; intro v4 w4 hs4 hg4 hb4; have HS4 := Lib.hid hs4; have HG4 := Lib.hid hg4; have HB4 := Lib.hid hb4; have HM4 := Lib.hid (HGA.out.map.kept hg4 (ne_sl HGA.out.map HSA.out).symm); clear hs4 hg4 hb4) | (at_mapUpdate; refine wpList_put rfl (.tmp 67) (.tmp 68) (.tmp 72) rfl Tryd.underlying65 Tryd.underlying43 rfl HM4.out k2 v4 rfl rfl ?_; intro w5 hm5 hg5; have HM5 := Lib.hid hm5; have HG5 := Lib.hid hg5; clear hm5 hg5))
                have HBB : Hid (v4.ownBlock = ((M2 k2).getD (.slice none 0 0)).ownBlock ∨ ∃ g, v4.ownBlock = some g ∧ (w3.alloc (.cells #[.int .i64 (p : Int)] 3)).heap.size ≤ g) := Lib.hid (by
                  rw [HVB.out]
                  rcases HB4.out with h | h
                  · exact .inl h
                  · exact .inr ⟨_, h, Nat.le_refl _⟩)
                have KR := Lib.hid (Or.inr (a := (Value.slice (some ⟨g, o, none⟩) zs.length cap = .slice none 0 0 ∧ zs = [])) HSA.out)
                have HFF : Hid (∀ k, seen xs (p + 1) k = if k = k2 then zs ++ [p] else last16 (pls xs (p + 1 - 4096) p k)) := Lib.hid (fun k => by
                  by_cases hk : k = k2
                  · rw [if_pos hk, hk, HF3.out, if_pos ⟨by rw [HXL.out]; exact h3, rfl⟩, ← HZS.out, if_neg h16]
                  · rw [if_neg hk, HF3.out, if_neg (fun h => hk h.2.symm)])
                refine bodyPost_end (results_none rfl _ _ _) rfl ?_
                exact ⟨rfl, _, (HGA.out.put k2 (by simp) (by rw [HVB.out]; exact HG4.out) HS4.out HBB.out HM5.out HG5.out).same (fun _ => rfl) HFF.out, HW3.out.trans ((Keep.ext (ext_alloc (Ext.rfl' w3) _) (by omega)).trans ((keep_row KR.out (by simp; omega) HG4.out).trans (keep_map HM4.out hbb HG5.out)))⟩
          · have HS1 : Hid (∀ k, seen xs (p + 1) k = last16 (pls xs (p + 1 - 4096) p k)) := Lib.hid (fun k => by rw [seen_hi, if_neg (fun hh => by rw [HXL.out] at hh; exact h3 hh.1)])
            refine (three_no A N c (p : Int) _ hN (by omega) (by omega) (.inr (by omega))).mono ?_
            rintro e w3 ⟨rfl, rfl⟩
            go_wp2_with fail
            refine bodyPost_ret (results_none rfl _ _ _) rfl ?_
            exact ⟨rfl, M2, HG2.out.same (fun _ => rfl) HS1.out, HW2.out⟩
      · have HMID : Hid (Mid w w1 base b xs p) := Lib.hid ⟨M, HG1.out.same (fun _ => rfl) (fun k => by
          by_cases hk : k = k1
          · rw [hk]; exact e1.symm
          · exact HMD.out k hk), HW1.out⟩
        obtain ⟨z, r, hzr⟩ := List.exists_cons_of_ne_nil hs0
        have hz := e2 z r hzr
        rw [hzr] at hrun hsl hc1 hn16
        have c0 := hsl.cells 0 (by simp)
        have f0 := hsl.frozen 0 (by simp)
        simp only [List.length_cons, Nat.add_zero, List.getD_cons_zero] at c0 hrun hc1 hn16 f0
        have q9 : ((z : Int) == (p : Int) - 4096) = false := beq_eq_false_iff_ne.2 (by omega)
        clear hsl hv e1 e2 hs0 hve hzr
        cases r with
        | nil =>
          go_wp2_with fail
          clear hrun
          obtain ⟨M2, hG2, hW2⟩ := HMID.out
          have HG2 := Lib.hid hG2; have HW2 := Lib.hid hW2
          clear hG2 hW2 HMID
          by_cases h3 : p + 3 ≤ N
          · refine (three_yes A N c p xs _ (HW2.out.bs HB.out HA.out) hN h3).mono ?_
            rintro e w3 ⟨rfl, b3⟩
            have HW3 := Lib.hid (HW2.out.trans (Keep.ext b3 (by have := HG2.out.map.lt; have := HG2.out.at_; omega)))
            have HG3 := Lib.hid (HG2.out.ext b3)
            have HF3 := Lib.hid (fun k => seen_hi (xs := xs) (at_ := p) (k := k))
            generalize hk2 : key xs p = k2 at *
            have HK2 := Lib.hid hk2; clear hk2
            obtain ⟨i3, hi0, hz0, hz1, hz2⟩ := info_parts infoInt
            have HI := Lib.hid (And.intro hi0 (And.intro hz0 (And.intro hz1 hz2))); clear hi0 hz0 hz1 hz2
            have hbs := HG3.out.map.lt
            have hbb := HG3.out.at_
            rcases HG3.out.look k2 with ⟨hv, hs0⟩ | ⟨hv, hs0, hsl⟩
            · have hrun := run_look (P := Tryd.prog) HG3.out.map Tryd.underlying65 Tryd.underlying43 (zeroRow w3) k2
              rw [hv] at hrun
              have HV := Lib.hid hv; have HS0 := Lib.hid hs0; clear hv hs0
              have HGA := Lib.hid (HG3.out.ext (ext_alloc (Ext.rfl' w3) (.cells #[.int .i64 (p : Int)] 3)))
              have hy : (w3.alloc (.cells #[.int .i64 (p : Int)] 3)).cell? ⟨w3.heap.size, 0, none⟩ = some (.int .i64 (p : Int)) := (Blk.new w3 _ _).cell 0
              have HY := Lib.hid hy; clear hy
              go_wp2_with (first | (at_builtin; refine wpList_more (base := base) (e := 3) rfl (.tmp 69) (.tmp 71) 90 rfl i3 (.int .i64 0) Tryd.underlying90 HI.out.1 HI.out.2.1 HI.out.2.2.1 HI.out.2.2.2 rfl (.slice none 0 0) [] (.inl ⟨rfl, rfl⟩) ⟨w3.heap.size, 0, none⟩ p rfl rfl HY.out (by simp) (by simp; omega) ?_; intro v4 w4 hs4 hg4 hb4; have HS4 := Lib.hid hs4; have HG4 := Lib.hid hg4; have HB4 := Lib.hid hb4; have HM4 := Lib.hid (HGA.out.map.kept hg4 (by intro h; cases h)); clear hs4 hg4 hb4) | (at_mapUpdate; refine wpList_put rfl (.tmp 67) (.tmp 68) (.tmp 72) rfl Tryd.underlying65 Tryd.underlying43 rfl HM4.out k2 v4 rfl rfl ?_; intro w5 hm5 hg5; have HM5 := Lib.hid hm5; have HG5 := Lib.hid hg5; clear hm5 hg5))
              have HBB : Hid (v4.ownBlock = ((M2 k2).getD (.slice none 0 0)).ownBlock ∨ ∃ g, v4.ownBlock = some g ∧ (w3.alloc (.cells #[.int .i64 (p : Int)] 3)).heap.size ≤ g) := Lib.hid (by
                rw [HV.out]
                rcases HB4.out with h | h
                · exact .inl h
                · exact .inr ⟨_, h, Nat.le_refl _⟩)
              have KR : Hid ((Value.slice none 0 0 = .slice none 0 0 ∧ ([] : List Nat) = []) ∨ Sl (w3.alloc (.cells #[.int .i64 (p : Int)] 3)) base 3 (.slice none 0 0) []) := Lib.hid (.inl ⟨rfl, rfl⟩)
              have HFF : Hid (∀ k, seen xs (p + 1) k = if k = k2 then [] ++ [p] else last16 (pls xs (p + 1 - 4096) p k)) := Lib.hid (fun k => by
                by_cases hk : k = k2
                · rw [if_pos hk, hk, HF3.out, if_pos ⟨by rw [HXL.out]; exact h3, rfl⟩, HS0.out]; rfl
                · rw [if_neg hk, HF3.out, if_neg (fun h => hk h.2.symm)])
              refine bodyPost_end (results_none rfl _ _ _) rfl ?_
              exact ⟨rfl, _, (HGA.out.put k2 (by simp) (by rw [HV.out]; exact HG4.out) HS4.out HBB.out HM5.out HG5.out).same (fun _ => rfl) HFF.out, HW3.out.trans ((Keep.ext (ext_alloc (Ext.rfl' w3) _) (by omega)).trans ((keep_row KR.out (by simp; omega) HG4.out).trans (keep_map HM4.out hbb HG5.out)))⟩
            · obtain ⟨g, o, cap, hve, hc1, hc2, hgb⟩ := hsl.shape
              have hrun := run_look (P := Tryd.prog) HG3.out.map Tryd.underlying65 Tryd.underlying43 (zeroRow w3) k2
              rw [hve] at hrun hsl
              have hn16 : (last16 (pls xs (p + 1 - 4096) p k2)).length ≤ 16 := by rw [last16_len]; omega
              have HVB : Hid (((M2 k2).getD (.slice none 0 0)).ownBlock = some g) := Lib.hid (by rw [hve]; rfl)
              have HV := Lib.hid hve; clear hve hv
              have HGA := Lib.hid (HG3.out.ext (ext_alloc (Ext.rfl' w3) (.cells #[.int .i64 (p : Int)] 3)))
              have hy : (w3.alloc (.cells #[.int .i64 (p : Int)] 3)).cell? ⟨w3.heap.size, 0, none⟩ = some (.int .i64 (p : Int)) := (Blk.new w3 _ _).cell 0
              have HY := Lib.hid hy; clear hy
              obtain ⟨zs, hzs⟩ : ∃ zs, zs = last16 (pls xs (p + 1 - 4096) p k2) := ⟨_, rfl⟩
              rw [← hzs] at hsl hrun hc1 hn16
              have HZS := Lib.hid hzs; clear hzs hs0
              by_cases h16 : zs.length = 16
              · cases zs with
                | nil => simp at h16
                | cons z r =>
                  have hr15 : r.length = 15 := by simpa using h16
                  have HSA0 := Lib.hid (Sl.tail (n := r.length) hsl)
                  rw [h16] at hrun hc1
                  rw [hr15] at HSA0
                  have HSA := Lib.hid (HSA0.out.ext (ext_alloc (Ext.rfl' w3) (.cells #[.int .i64 (p : Int)] 3)))
                  clear hsl
                  go_wp2_with (first | (at_builtin; refine wpList_more (base := base) (e := 3) rfl (.tmp 69) (.tmp 71) 90 rfl i3 (.int .i64 0) Tryd.underlying90 HI.out.1 HI.out.2.1 HI.out.2.2.1 HI.out.2.2.2 rfl (.slice (some ⟨g, o + 1, none⟩) 15 (cap - 1)) r (.inr HSA.out) ⟨w3.heap.size, 0, none⟩ p rfl rfl HY.out (by omega) (by simp; omega) ?_; intro v4 w4 hs4 hg4 hb4; have HS4 := Lib.hid hs4; have HG4 := Lib.hid hg4; have HB4 := Lib.hid hb4; have HM4 := Lib.hid (HGA.out.map.kept hg4 (ne_sl HGA.out.map HSA.out).symm); clear hs4 hg4 hb4) | (at_mapUpdate; refine wpList_put rfl (.tmp 67) (.tmp 68) (.tmp 72) rfl Tryd.underlying65 Tryd.underlying43 rfl HM4.out k2 v4 rfl rfl ?_; intro w5 hm5 hg5; have HM5 := Lib.hid hm5; have HG5 := Lib.hid hg5; clear hm5 hg5))
                  have HBB : Hid (v4.ownBlock = ((M2 k2).getD (.slice none 0 0)).ownBlock ∨ ∃ g, v4.ownBlock = some g ∧ (w3.alloc (.cells #[.int .i64 (p : Int)] 3)).heap.size ≤ g) := Lib.hid (by
                    rw [HVB.out]
                    rcases HB4.out with h | h
                    · exact .inl h
                    · exact .inr ⟨_, h, Nat.le_refl _⟩)
                  have KR := Lib.hid (Or.inr (a := (Value.slice (some ⟨g, o + 1, none⟩) 15 (cap - 1) = .slice none 0 0 ∧ r = [])) HSA.out)
                  have HFF : Hid (∀ k, seen xs (p + 1) k = if k = k2 then r ++ [p] else last16 (pls xs (p + 1 - 4096) p k)) := Lib.hid (fun k => by
                    by_cases hk : k = k2
                    · rw [if_pos hk, hk, HF3.out, if_pos ⟨by rw [HXL.out]; exact h3, rfl⟩, ← HZS.out, if_pos h16]; rfl
                    · rw [if_neg hk, HF3.out, if_neg (fun h => hk h.2.symm)])
                  refine bodyPost_end (results_none rfl _ _ _) rfl ?_
                  exact ⟨rfl, _, (HGA.out.put k2 (by simp) (by rw [HVB.out]; exact HG4.out) HS4.out HBB.out HM5.out HG5.out).same (fun _ => rfl) HFF.out, HW3.out.trans ((Keep.ext (ext_alloc (Ext.rfl' w3) _) (by omega)).trans ((keep_row KR.out (by simp; omega) HG4.out).trans (keep_map HM4.out hbb HG5.out)))⟩
              · have HSA := Lib.hid (hsl.ext (ext_alloc (Ext.rfl' w3) (.cells #[.int .i64 (p : Int)] 3)))
                have q16 : ((zs.length : Int) == 16) = false := beq_eq_false_iff_ne.2 (by omega)
                clear hsl
                go_wp2_with (first | (at_builtin; refine wpList_more (base := base) (e := 3) rfl (.tmp 69) (.tmp 71) 90 rfl i3 (.int .i64 0) Tryd.underlying90 HI.out.1 HI.out.2.1 HI.out.2.2.1 HI.out.2.2.2 rfl (.slice (some ⟨g, o, none⟩) zs.length cap) zs (.inr HSA.out) ⟨w3.heap.size, 0, none⟩ p rfl rfl HY.out (by omega) (by simp; omega) ?_; intro v4 w4 hs4 hg4 hb4; have HS4 := Lib.hid hs4; have HG4 := Lib.hid hg4; have HB4 := Lib.hid hb4; have HM4 := Lib.hid (HGA.out.map.kept hg4 (ne_sl HGA.out.map HSA.out).symm); clear hs4 hg4 hb4) | (at_mapUpdate; refine wpList_put rfl (.tmp 67) (.tmp 68) (.tmp 72) rfl Tryd.underlying65 Tryd.underlying43 rfl HM4.out k2 v4 rfl rfl ?_; intro w5 hm5 hg5; have HM5 := Lib.hid hm5; have HG5 := Lib.hid hg5; clear hm5 hg5))
                have HBB : Hid (v4.ownBlock = ((M2 k2).getD (.slice none 0 0)).ownBlock ∨ ∃ g, v4.ownBlock = some g ∧ (w3.alloc (.cells #[.int .i64 (p : Int)] 3)).heap.size ≤ g) := Lib.hid (by
                  rw [HVB.out]
                  rcases HB4.out with h | h
                  · exact .inl h
                  · exact .inr ⟨_, h, Nat.le_refl _⟩)
                have KR := Lib.hid (Or.inr (a := (Value.slice (some ⟨g, o, none⟩) zs.length cap = .slice none 0 0 ∧ zs = [])) HSA.out)
                have HFF : Hid (∀ k, seen xs (p + 1) k = if k = k2 then zs ++ [p] else last16 (pls xs (p + 1 - 4096) p k)) := Lib.hid (fun k => by
                  by_cases hk : k = k2
                  · rw [if_pos hk, hk, HF3.out, if_pos ⟨by rw [HXL.out]; exact h3, rfl⟩, ← HZS.out, if_neg h16]
                  · rw [if_neg hk, HF3.out, if_neg (fun h => hk h.2.symm)])
                refine bodyPost_end (results_none rfl _ _ _) rfl ?_
                exact ⟨rfl, _, (HGA.out.put k2 (by simp) (by rw [HVB.out]; exact HG4.out) HS4.out HBB.out HM5.out HG5.out).same (fun _ => rfl) HFF.out, HW3.out.trans ((Keep.ext (ext_alloc (Ext.rfl' w3) _) (by omega)).trans ((keep_row KR.out (by simp; omega) HG4.out).trans (keep_map HM4.out hbb HG5.out)))⟩
          · have HS1 : Hid (∀ k, seen xs (p + 1) k = last16 (pls xs (p + 1 - 4096) p k)) := Lib.hid (fun k => by rw [seen_hi, if_neg (fun hh => by rw [HXL.out] at hh; exact h3 hh.1)])
            refine (three_no A N c (p : Int) _ hN (by omega) (by omega) (.inr (by omega))).mono ?_
            rintro e w3 ⟨rfl, rfl⟩
            go_wp2_with fail
            refine bodyPost_ret (results_none rfl _ _ _) rfl ?_
            exact ⟨rfl, M2, HG2.out.same (fun _ => rfl) HS1.out, HW2.out⟩
        | cons z2 r2 =>
          simp only [List.length_cons] at hrun hc1 hn16
          have q1 : (1 : Int) < ((r2.length + 1 + 1 : Nat) : Int) := by omega
          have q2 : (((r2.length + 1 + 1 : Nat) : Int) == 1) = false := beq_eq_false_iff_ne.2 (by omega)
          go_wp2_with fail
          clear hrun
          obtain ⟨M2, hG2, hW2⟩ := HMID.out
          have HG2 := Lib.hid hG2; have HW2 := Lib.hid hW2
          clear hG2 hW2 HMID
          by_cases h3 : p + 3 ≤ N
          · refine (three_yes A N c p xs _ (HW2.out.bs HB.out HA.out) hN h3).mono ?_
            rintro e w3 ⟨rfl, b3⟩
            have HW3 := Lib.hid (HW2.out.trans (Keep.ext b3 (by have := HG2.out.map.lt; have := HG2.out.at_; omega)))
            have HG3 := Lib.hid (HG2.out.ext b3)
            have HF3 := Lib.hid (fun k => seen_hi (xs := xs) (at_ := p) (k := k))
            generalize hk2 : key xs p = k2 at *
            have HK2 := Lib.hid hk2; clear hk2
            obtain ⟨i3, hi0, hz0, hz1, hz2⟩ := info_parts infoInt
            have HI := Lib.hid (And.intro hi0 (And.intro hz0 (And.intro hz1 hz2))); clear hi0 hz0 hz1 hz2
            have hbs := HG3.out.map.lt
            have hbb := HG3.out.at_
            rcases HG3.out.look k2 with ⟨hv, hs0⟩ | ⟨hv, hs0, hsl⟩
            · have hrun := run_look (P := Tryd.prog) HG3.out.map Tryd.underlying65 Tryd.underlying43 (zeroRow w3) k2
              rw [hv] at hrun
              have HV := Lib.hid hv; have HS0 := Lib.hid hs0; clear hv hs0
              have HGA := Lib.hid (HG3.out.ext (ext_alloc (Ext.rfl' w3) (.cells #[.int .i64 (p : Int)] 3)))
              have hy : (w3.alloc (.cells #[.int .i64 (p : Int)] 3)).cell? ⟨w3.heap.size, 0, none⟩ = some (.int .i64 (p : Int)) := (Blk.new w3 _ _).cell 0
              have HY := Lib.hid hy; clear hy
              go_wp2_with (first | (at_builtin; refine wpList_more (base := base) (e := 3) rfl (.tmp 69) (.tmp 71) 90 rfl i3 (.int .i64 0) Tryd.underlying90 HI.out.1 HI.out.2.1 HI.out.2.2.1 HI.out.2.2.2 rfl (.slice none 0 0) [] (.inl ⟨rfl, rfl⟩) ⟨w3.heap.size, 0, none⟩ p rfl rfl HY.out (by simp) (by simp; omega) ?_; intro v4 w4 hs4 hg4 hb4; have HS4 := Lib.hid hs4; have HG4 := Lib.hid hg4; have HB4 := Lib.hid hb4; have HM4 := Lib.hid (HGA.out.map.kept hg4 (by intro h; cases h)); clear hs4 hg4 hb4) | (at_mapUpdate; refine wpList_put rfl (.tmp 67) (.tmp 68) (.tmp 72) rfl Tryd.underlying65 Tryd.underlying43 rfl HM4.out k2 v4 rfl rfl ?_; intro w5 hm5 hg5; have HM5 := Lib.hid hm5; have HG5 := Lib.hid hg5; clear hm5 hg5))
              have HBB : Hid (v4.ownBlock = ((M2 k2).getD (.slice none 0 0)).ownBlock ∨ ∃ g, v4.ownBlock = some g ∧ (w3.alloc (.cells #[.int .i64 (p : Int)] 3)).heap.size ≤ g) := Lib.hid (by
                rw [HV.out]
                rcases HB4.out with h | h
                · exact .inl h
                · exact .inr ⟨_, h, Nat.le_refl _⟩)
              have KR : Hid ((Value.slice none 0 0 = .slice none 0 0 ∧ ([] : List Nat) = []) ∨ Sl (w3.alloc (.cells #[.int .i64 (p : Int)] 3)) base 3 (.slice none 0 0) []) := Lib.hid (.inl ⟨rfl, rfl⟩)
              have HFF : Hid (∀ k, seen xs (p + 1) k = if k = k2 then [] ++ [p] else last16 (pls xs (p + 1 - 4096) p k)) := Lib.hid (fun k => by
                by_cases hk : k = k2
                · rw [if_pos hk, hk, HF3.out, if_pos ⟨by rw [HXL.out]; exact h3, rfl⟩, HS0.out]; rfl
                · rw [if_neg hk, HF3.out, if_neg (fun h => hk h.2.symm)])
              refine bodyPost_end (results_none rfl _ _ _) rfl ?_
              exact ⟨rfl, _, (HGA.out.put k2 (by simp) (by rw [HV.out]; exact HG4.out) HS4.out HBB.out HM5.out HG5.out).same (fun _ => rfl) HFF.out, HW3.out.trans ((Keep.ext (ext_alloc (Ext.rfl' w3) _) (by omega)).trans ((keep_row KR.out (by simp; omega) HG4.out).trans (keep_map HM4.out hbb HG5.out)))⟩
            · obtain ⟨g, o, cap, hve, hc1, hc2, hgb⟩ := hsl.shape
              have hrun := run_look (P := Tryd.prog) HG3.out.map Tryd.underlying65 Tryd.underlying43 (zeroRow w3) k2
              rw [hve] at hrun hsl
              have hn16 : (last16 (pls xs (p + 1 - 4096) p k2)).length ≤ 16 := by rw [last16_len]; omega
              have HVB : Hid (((M2 k2).getD (.slice none 0 0)).ownBlock = some g) := Lib.hid (by rw [hve]; rfl)
              have HV := Lib.hid hve; clear hve hv
              have HGA := Lib.hid (HG3.out.ext (ext_alloc (Ext.rfl' w3) (.cells #[.int .i64 (p : Int)] 3)))
              have hy : (w3.alloc (.cells #[.int .i64 (p : Int)] 3)).cell? ⟨w3.heap.size, 0, none⟩ = some (.int .i64 (p : Int)) := (Blk.new w3 _ _).cell 0
              have HY := Lib.hid hy; clear hy
              obtain ⟨zs, hzs⟩ : ∃ zs, zs = last16 (pls xs (p + 1 - 4096) p k2) := ⟨_, rfl⟩
              rw [← hzs] at hsl hrun hc1 hn16
              have HZS := Lib.hid hzs; clear hzs hs0
              by_cases h16 : zs.length = 16
              · cases zs with
                | nil => simp at h16
                | cons z r =>
                  have hr15 : r.length = 15 := by simpa using h16
                  have HSA0 := Lib.hid (Sl.tail (n := r.length) hsl)
                  rw [h16] at hrun hc1
                  rw [hr15] at HSA0
                  have HSA := Lib.hid (HSA0.out.ext (ext_alloc (Ext.rfl' w3) (.cells #[.int .i64 (p : Int)] 3)))
                  clear hsl
                  go_wp2_with (first | (at_builtin; refine wpList_more (base := base) (e := 3) rfl (.tmp 69) (.tmp 71) 90 rfl i3 (.int .i64 0) Tryd.underlying90 HI.out.1 HI.out.2.1 HI.out.2.2.1 HI.out.2.2.2 rfl (.slice (some ⟨g, o + 1, none⟩) 15 (cap - 1)) r (.inr HSA.out) ⟨w3.heap.size, 0, none⟩ p rfl rfl HY.out (by omega) (by simp; omega) ?_; intro v4 w4 hs4 hg4 hb4; have HS4 := Lib.hid hs4; have HG4 := Lib.hid hg4; have HB4 := Lib.hid hb4; have HM4 := Lib.hid (HGA.out.map.kept hg4 (ne_sl HGA.out.map HSA.out).symm); clear hs4 hg4 hb4) | (at_mapUpdate; refine wpList_put rfl (.tmp 67) (.tmp 68) (.tmp 72) rfl Tryd.underlying65 Tryd.underlying43 rfl HM4.out k2 v4 rfl rfl ?_; intro w5 hm5 hg5; have HM5 := Lib.hid hm5; have HG5 := Lib.hid hg5; clear hm5 hg5))
                  have HBB : Hid (v4.ownBlock = ((M2 k2).getD (.slice none 0 0)).ownBlock ∨ ∃ g, v4.ownBlock = some g ∧ (w3.alloc (.cells #[.int .i64 (p : Int)] 3)).heap.size ≤ g) := Lib.hid (by
                    rw [HVB.out]
                    rcases HB4.out with h | h
                    · exact .inl h
                    · exact .inr ⟨_, h, Nat.le_refl _⟩)
                  have KR := Lib.hid (Or.inr (a := (Value.slice (some ⟨g, o + 1, none⟩) 15 (cap - 1) = .slice none 0 0 ∧ r = [])) HSA.out)
                  have HFF : Hid (∀ k, seen xs (p + 1) k = if k = k2 then r ++ [p] else last16 (pls xs (p + 1 - 4096) p k)) := Lib.hid (fun k => by
                    by_cases hk : k = k2
                    · rw [if_pos hk, hk, HF3.out, if_pos ⟨by rw [HXL.out]; exact h3, rfl⟩, ← HZS.out, if_pos h16]; rfl
                    · rw [if_neg hk, HF3.out, if_neg (fun h => hk h.2.symm)])
                  refine bodyPost_end (results_none rfl _ _ _) rfl ?_
                  exact ⟨rfl, _, (HGA.out.put k2 (by simp) (by rw [HVB.out]; exact HG4.out) HS4.out HBB.out HM5.out HG5.out).same (fun _ => rfl) HFF.out, HW3.out.trans ((Keep.ext (ext_alloc (Ext.rfl' w3) _) (by omega)).trans ((keep_row KR.out (by simp; omega) HG4.out).trans (keep_map HM4.out hbb HG5.out)))⟩
              · have HSA := Lib.hid (hsl.ext (ext_alloc (Ext.rfl' w3) (.cells #[.int .i64 (p : Int)] 3)))
                have q16 : ((zs.length : Int) == 16) = false := beq_eq_false_iff_ne.2 (by omega)
                clear hsl
                go_wp2_with (first | (at_builtin; refine wpList_more (base := base) (e := 3) rfl (.tmp 69) (.tmp 71) 90 rfl i3 (.int .i64 0) Tryd.underlying90 HI.out.1 HI.out.2.1 HI.out.2.2.1 HI.out.2.2.2 rfl (.slice (some ⟨g, o, none⟩) zs.length cap) zs (.inr HSA.out) ⟨w3.heap.size, 0, none⟩ p rfl rfl HY.out (by omega) (by simp; omega) ?_; intro v4 w4 hs4 hg4 hb4; have HS4 := Lib.hid hs4; have HG4 := Lib.hid hg4; have HB4 := Lib.hid hb4; have HM4 := Lib.hid (HGA.out.map.kept hg4 (ne_sl HGA.out.map HSA.out).symm); clear hs4 hg4 hb4) | (at_mapUpdate; refine wpList_put rfl (.tmp 67) (.tmp 68) (.tmp 72) rfl Tryd.underlying65 Tryd.underlying43 rfl HM4.out k2 v4 rfl rfl ?_; intro w5 hm5 hg5; have HM5 := Lib.hid hm5; have HG5 := Lib.hid hg5; clear hm5 hg5))
                have HBB : Hid (v4.ownBlock = ((M2 k2).getD (.slice none 0 0)).ownBlock ∨ ∃ g, v4.ownBlock = some g ∧ (w3.alloc (.cells #[.int .i64 (p : Int)] 3)).heap.size ≤ g) := Lib.hid (by
                  rw [HVB.out]
                  rcases HB4.out with h | h
                  · exact .inl h
                  · exact .inr ⟨_, h, Nat.le_refl _⟩)
                have KR := Lib.hid (Or.inr (a := (Value.slice (some ⟨g, o, none⟩) zs.length cap = .slice none 0 0 ∧ zs = [])) HSA.out)
                have HFF : Hid (∀ k, seen xs (p + 1) k = if k = k2 then zs ++ [p] else last16 (pls xs (p + 1 - 4096) p k)) := Lib.hid (fun k => by
                  by_cases hk : k = k2
                  · rw [if_pos hk, hk, HF3.out, if_pos ⟨by rw [HXL.out]; exact h3, rfl⟩, ← HZS.out, if_neg h16]
                  · rw [if_neg hk, HF3.out, if_neg (fun h => hk h.2.symm)])
                refine bodyPost_end (results_none rfl _ _ _) rfl ?_
                exact ⟨rfl, _, (HGA.out.put k2 (by simp) (by rw [HVB.out]; exact HG4.out) HS4.out HBB.out HM5.out HG5.out).same (fun _ => rfl) HFF.out, HW3.out.trans ((Keep.ext (ext_alloc (Ext.rfl' w3) _) (by omega)).trans ((keep_row KR.out (by simp; omega) HG4.out).trans (keep_map HM4.out hbb HG5.out)))⟩
          · have HS1 : Hid (∀ k, seen xs (p + 1) k = last16 (pls xs (p + 1 - 4096) p k)) := Lib.hid (fun k => by rw [seen_hi, if_neg (fun hh => by rw [HXL.out] at hh; exact h3 hh.1)])
            refine (three_no A N c (p : Int) _ hN (by omega) (by omega) (.inr (by omega))).mono ?_
            rintro e w3 ⟨rfl, rfl⟩
            go_wp2_with fail
            refine bodyPost_ret (results_none rfl _ _ _) rfl ?_
            exact ⟨rfl, M2, HG2.out.same (fun _ => rfl) HS1.out, HW2.out⟩
  · have HMID : Hid (Mid w w base b xs p) := Lib.hid ⟨M, HG.out.same (fun _ => rfl) (fun k => seen_lo_few (by omega)), Keep.refl _ _⟩
    refine (three_no A N c ((p : Int) - 4096) w hN (by omega) (by omega) (.inl (by omega))).mono ?_
    rintro e w1 ⟨rfl, rfl⟩
    go_wp2_with fail
    obtain ⟨M2, hG2, hW2⟩ := HMID.out
    have HG2 := Lib.hid hG2; have HW2 := Lib.hid hW2
    clear hG2 hW2 HMID
    by_cases h3 : p + 3 ≤ N
    · refine (three_yes A N c p xs _ (HW2.out.bs HB.out HA.out) hN h3).mono ?_
      rintro e w3 ⟨rfl, b3⟩
      have HW3 := Lib.hid (HW2.out.trans (Keep.ext b3 (by have := HG2.out.map.lt; have := HG2.out.at_; omega)))
      have HG3 := Lib.hid (HG2.out.ext b3)
      have HF3 := Lib.hid (fun k => seen_hi (xs := xs) (at_ := p) (k := k))
      generalize hk2 : key xs p = k2 at *
      have HK2 := Lib.hid hk2; clear hk2
      obtain ⟨i3, hi0, hz0, hz1, hz2⟩ := info_parts infoInt
      have HI := Lib.hid (And.intro hi0 (And.intro hz0 (And.intro hz1 hz2))); clear hi0 hz0 hz1 hz2
      have hbs := HG3.out.map.lt
      have hbb := HG3.out.at_
      rcases HG3.out.look k2 with ⟨hv, hs0⟩ | ⟨hv, hs0, hsl⟩
      · have hrun := run_look (P := Tryd.prog) HG3.out.map Tryd.underlying65 Tryd.underlying43 (zeroRow w3) k2
        rw [hv] at hrun
        have HV := Lib.hid hv; have HS0 := Lib.hid hs0; clear hv hs0
        have HGA := Lib.hid (HG3.out.ext (ext_alloc (Ext.rfl' w3) (.cells #[.int .i64 (p : Int)] 3)))
        have hy : (w3.alloc (.cells #[.int .i64 (p : Int)] 3)).cell? ⟨w3.heap.size, 0, none⟩ = some (.int .i64 (p : Int)) := (Blk.new w3 _ _).cell 0
        have HY := Lib.hid hy; clear hy
        go_wp2_with (first | (at_builtin; refine wpList_more (base := base) (e := 3) rfl (.tmp 69) (.tmp 71) 90 rfl i3 (.int .i64 0) Tryd.underlying90 HI.out.1 HI.out.2.1 HI.out.2.2.1 HI.out.2.2.2 rfl (.slice none 0 0) [] (.inl ⟨rfl, rfl⟩) ⟨w3.heap.size, 0, none⟩ p rfl rfl HY.out (by simp) (by simp; omega) ?_; intro v4 w4 hs4 hg4 hb4; have HS4 := Lib.hid hs4; have HG4 := Lib.hid hg4; have HB4 := Lib.hid hb4; have HM4 := Lib.hid (HGA.out.map.kept hg4 (by intro h; cases h)); clear hs4 hg4 hb4) | (at_mapUpdate; refine wpList_put rfl (.tmp 67) (.tmp 68) (.tmp 72) rfl Tryd.underlying65 Tryd.underlying43 rfl HM4.out k2 v4 rfl rfl ?_; intro w5 hm5 hg5; have HM5 := Lib.hid hm5; have HG5 := Lib.hid hg5; clear hm5 hg5))
        have HBB : Hid (v4.ownBlock = ((M2 k2).getD (.slice none 0 0)).ownBlock ∨ ∃ g, v4.ownBlock = some g ∧ (w3.alloc (.cells #[.int .i64 (p : Int)] 3)).heap.size ≤ g) := Lib.hid (by
          rw [HV.out]
          rcases HB4.out with h | h
          · exact .inl h
          · exact .inr ⟨_, h, Nat.le_refl _⟩)
        have KR : Hid ((Value.slice none 0 0 = .slice none 0 0 ∧ ([] : List Nat) = []) ∨ Sl (w3.alloc (.cells #[.int .i64 (p : Int)] 3)) base 3 (.slice none 0 0) []) := Lib.hid (.inl ⟨rfl, rfl⟩)
        have HFF : Hid (∀ k, seen xs (p + 1) k = if k = k2 then [] ++ [p] else last16 (pls xs (p + 1 - 4096) p k)) := Lib.hid (fun k => by
          by_cases hk : k = k2
          · rw [if_pos hk, hk, HF3.out, if_pos ⟨by rw [HXL.out]; exact h3, rfl⟩, HS0.out]; rfl
          · rw [if_neg hk, HF3.out, if_neg (fun h => hk h.2.symm)])
        refine bodyPost_end (results_none rfl _ _ _) rfl ?_
        exact ⟨rfl, _, (HGA.out.put k2 (by simp) (by rw [HV.out]; exact HG4.out) HS4.out HBB.out HM5.out HG5.out).same (fun _ => rfl) HFF.out, HW3.out.trans ((Keep.ext (ext_alloc (Ext.rfl' w3) _) (by omega)).trans ((keep_row KR.out (by simp; omega) HG4.out).trans (keep_map HM4.out hbb HG5.out)))⟩
      · obtain ⟨g, o, cap, hve, hc1, hc2, hgb⟩ := hsl.shape
        have hrun := run_look (P := Tryd.prog) HG3.out.map Tryd.underlying65 Tryd.underlying43 (zeroRow w3) k2
        rw [hve] at hrun hsl
        have hn16 : (last16 (pls xs (p + 1 - 4096) p k2)).length ≤ 16 := by rw [last16_len]; omega
        have HVB : Hid (((M2 k2).getD (.slice none 0 0)).ownBlock = some g) := Lib.hid (by rw [hve]; rfl)
        have HV := Lib.hid hve; clear hve hv
        have HGA := Lib.hid (HG3.out.ext (ext_alloc (Ext.rfl' w3) (.cells #[.int .i64 (p : Int)] 3)))
        have hy : (w3.alloc (.cells #[.int .i64 (p : Int)] 3)).cell? ⟨w3.heap.size, 0, none⟩ = some (.int .i64 (p : Int)) := (Blk.new w3 _ _).cell 0
        have HY := Lib.hid hy; clear hy
        obtain ⟨zs, hzs⟩ : ∃ zs, zs = last16 (pls xs (p + 1 - 4096) p k2) := ⟨_, rfl⟩
        rw [← hzs] at hsl hrun hc1 hn16
        have HZS := Lib.hid hzs; clear hzs hs0
        by_cases h16 : zs.length = 16
        · cases zs with
          | nil => simp at h16
          | cons z r =>
            have hr15 : r.length = 15 := by simpa using h16
            have HSA0 := Lib.hid (Sl.tail (n := r.length) hsl)
            rw [h16] at hrun hc1
            rw [hr15] at HSA0
            have HSA := Lib.hid (HSA0.out.ext (ext_alloc (Ext.rfl' w3) (.cells #[.int .i64 (p : Int)] 3)))
            clear hsl
            go_wp2_with (first | (at_builtin; refine wpList_more (base := base) (e := 3) rfl (.tmp 69) (.tmp 71) 90 rfl i3 (.int .i64 0) Tryd.underlying90 HI.out.1 HI.out.2.1 HI.out.2.2.1 HI.out.2.2.2 rfl (.slice (some ⟨g, o + 1, none⟩) 15 (cap - 1)) r (.inr HSA.out) ⟨w3.heap.size, 0, none⟩ p rfl rfl HY.out (by omega) (by simp; omega) ?_; intro v4 w4 hs4 hg4 hb4; have HS4 := Lib.hid hs4; have HG4 := Lib.hid hg4; have HB4 := Lib.hid hb4; have HM4 := Lib.hid (HGA.out.map.kept hg4 (ne_sl HGA.out.map HSA.out).symm); clear hs4 hg4 hb4) | (at_mapUpdate; refine wpList_put rfl (.tmp 67) (.tmp 68) (.tmp 72) rfl Tryd.underlying65 Tryd.underlying43 rfl HM4.out k2 v4 rfl rfl ?_; intro w5 hm5 hg5; have HM5 := Lib.hid hm5; have HG5 := Lib.hid hg5; clear hm5 hg5))
            have HBB : Hid (v4.ownBlock = ((M2 k2).getD (.slice none 0 0)).ownBlock ∨ ∃ g, v4.ownBlock = some g ∧ (w3.alloc (.cells #[.int .i64 (p : Int)] 3)).heap.size ≤ g) := Lib.hid (by
              rw [HVB.out]
              rcases HB4.out with h | h
              · exact .inl h
              · exact .inr ⟨_, h, Nat.le_refl _⟩)
            have KR := Lib.hid (Or.inr (a := (Value.slice (some ⟨g, o + 1, none⟩) 15 (cap - 1) = .slice none 0 0 ∧ r = [])) HSA.out)
            have HFF : Hid (∀ k, seen xs (p + 1) k = if k = k2 then r ++ [p] else last16 (pls xs (p + 1 - 4096) p k)) := Lib.hid (fun k => by
              by_cases hk : k = k2
              · rw [if_pos hk, hk, HF3.out, if_pos ⟨by rw [HXL.out]; exact h3, rfl⟩, ← HZS.out, if_pos h16]; rfl
              · rw [if_neg hk, HF3.out, if_neg (fun h => hk h.2.symm)])
            refine bodyPost_end (results_none rfl _ _ _) rfl ?_
            exact ⟨rfl, _, (HGA.out.put k2 (by simp) (by rw [HVB.out]; exact HG4.out) HS4.out HBB.out HM5.out HG5.out).same (fun _ => rfl) HFF.out, HW3.out.trans ((Keep.ext (ext_alloc (Ext.rfl' w3) _) (by omega)).trans ((keep_row KR.out (by simp; omega) HG4.out).trans (keep_map HM4.out hbb HG5.out)))⟩
        · have HSA := Lib.hid (hsl.ext (ext_alloc (Ext.rfl' w3) (.cells #[.int .i64 (p : Int)] 3)))
          have q16 : ((zs.length : Int) == 16) = false := beq_eq_false_iff_ne.2 (by omega)
          clear hsl
          go_wp2_with (first | (at_builtin; refine wpList_more (base := base) (e := 3) rfl (.tmp 69) (.tmp 71) 90 rfl i3 (.int .i64 0) Tryd.underlying90 HI.out.1 HI.out.2.1 HI.out.2.2.1 HI.out.2.2.2 rfl (.slice (some ⟨g, o, none⟩) zs.length cap) zs (.inr HSA.out) ⟨w3.heap.size, 0, none⟩ p rfl rfl HY.out (by omega) (by simp; omega) ?_; intro v4 w4 hs4 hg4 hb4; have HS4 := Lib.hid hs4; have HG4 := Lib.hid hg4; have HB4 := Lib.hid hb4; have HM4 := Lib.hid (HGA.out.map.kept hg4 (ne_sl HGA.out.map HSA.out).symm); clear hs4 hg4 hb4) | (at_mapUpdate; refine wpList_put rfl (.tmp 67) (.tmp 68) (.tmp 72) rfl Tryd.underlying65 Tryd.underlying43 rfl HM4.out k2 v4 rfl rfl ?_; intro w5 hm5 hg5; have HM5 := Lib.hid hm5; have HG5 := Lib.hid hg5; clear hm5 hg5))
          have HBB : Hid (v4.ownBlock = ((M2 k2).getD (.slice none 0 0)).ownBlock ∨ ∃ g, v4.ownBlock = some g ∧ (w3.alloc (.cells #[.int .i64 (p : Int)] 3)).heap.size ≤ g) := Lib.hid (by
            rw [HVB.out]
            rcases HB4.out with h | h
            · exact .inl h
            · exact .inr ⟨_, h, Nat.le_refl _⟩)
          have KR := Lib.hid (Or.inr (a := (Value.slice (some ⟨g, o, none⟩) zs.length cap = .slice none 0 0 ∧ zs = [])) HSA.out)
          have HFF : Hid (∀ k, seen xs (p + 1) k = if k = k2 then zs ++ [p] else last16 (pls xs (p + 1 - 4096) p k)) := Lib.hid (fun k => by
            by_cases hk : k = k2
            · rw [if_pos hk, hk, HF3.out, if_pos ⟨by rw [HXL.out]; exact h3, rfl⟩, ← HZS.out, if_neg h16]
            · rw [if_neg hk, HF3.out, if_neg (fun h => hk h.2.symm)])
          refine bodyPost_end (results_none rfl _ _ _) rfl ?_
          exact ⟨rfl, _, (HGA.out.put k2 (by simp) (by rw [HVB.out]; exact HG4.out) HS4.out HBB.out HM5.out HG5.out).same (fun _ => rfl) HFF.out, HW3.out.trans ((Keep.ext (ext_alloc (Ext.rfl' w3) _) (by omega)).trans ((keep_row KR.out (by simp; omega) HG4.out).trans (keep_map HM4.out hbb HG5.out)))⟩
    · have HS1 : Hid (∀ k, seen xs (p + 1) k = last16 (pls xs (p + 1 - 4096) p k)) := Lib.hid (fun k => by rw [seen_hi, if_neg (fun hh => by rw [HXL.out] at hh; exact h3 hh.1)])
      refine (three_no A N c (p : Int) _ hN (by omega) (by omega) (.inr (by omega))).mono ?_
      rintro e w3 ⟨rfl, rfl⟩
      go_wp2_with fail
      refine bodyPost_ret (results_none rfl _ _ _) rfl ?_
      exact ⟨rfl, M2, HG2.out.same (fun _ => rfl) HS1.out, HW2.out⟩
end Go.Proofs.YtckjmabacibojaaDoor.Lz
namespace Go.Proofs.YtckjmabacibojaaDoor.Lz
open Go.ChangeShapes Go.WideShapes Go.ChangeAt Go.RowKit
open Go.Proofs.YtckjmabacibojaaDoor.Wire Go.Proofs.YtckjmabacibojaaDoor.Map32
set_option linter.unusedVariables false

/-- How many bytes match, k at most. -/
def mtU (xs : List Nat) (f a : Nat) : Nat → Nat
  | 0 => 0
  | k + 1 => if mtU xs f a k = k ∧ xs.getD (f + k) 0 = xs.getD (a + k) 0 then k + 1 else mtU xs f a k
theorem mtU_le (xs : List Nat) (f a k : Nat) : mtU xs f a k ≤ k := by
  induction k with
  | zero => exact Nat.le_refl _
  | succ k ih => rw [mtU]; split <;> omega
theorem mtU_ge {xs : List Nat} {f a : Nat} : ∀ k n, n ≤ k → (∀ j, j < n → xs.getD (f + j) 0 = xs.getD (a + j) 0) → n ≤ mtU xs f a k
  | 0, n, h, _ => by omega
  | k + 1, n, h, he => by
    rw [mtU]
    by_cases hn : n = k + 1
    · have h1 := mtU_ge k k (Nat.le_refl _) (fun j hj => he j (by omega))
      have h2 := mtU_le xs f a k
      rw [if_pos ⟨by omega, he k (by omega)⟩]; omega
    · have h1 := mtU_ge k n (by omega) he
      split <;> omega
theorem mtU_eq {xs : List Nat} {f a : Nat} : ∀ k j, j < mtU xs f a k → xs.getD (f + j) 0 = xs.getD (a + j) 0
  | 0, j, h => by rw [mtU] at h; omega
  | k + 1, j, h => by
    rw [mtU] at h
    split at h
    · rename_i hc
      by_cases hj : j = k
      · rw [hj]; exact hc.2
      · exact mtU_eq k j (by rw [hc.1]; omega)
    · exact mtU_eq k j h
def mt (xs : List Nat) (f a : Nat) : Nat := mtU xs f a (min 66 (xs.length - a))
theorem mt_le (xs : List Nat) (f a : Nat) : mt xs f a ≤ min 66 (xs.length - a) := mtU_le _ _ _ _
theorem mt_most {xs : List Nat} {f a n : Nat} (hn : n = min 66 (xs.length - a)) (h : ∀ j, j < n → xs.getD (f + j) 0 = xs.getD (a + j) 0) : mt xs f a = n := by
  have h1 := mtU_ge (min 66 (xs.length - a)) n (by omega) h
  have h2 := mt_le xs f a
  unfold mt at h2 ⊢; omega
theorem mt_stop {xs : List Nat} {f a n : Nat} (hn : n ≤ min 66 (xs.length - a)) (h : ∀ j, j < n → xs.getD (f + j) 0 = xs.getD (a + j) 0) (hne : xs.getD (f + n) 0 ≠ xs.getD (a + n) 0) : mt xs f a = n := by
  have h1 := mtU_ge (min 66 (xs.length - a)) n hn h
  have h2 : ¬ n < mtU xs f a (min 66 (xs.length - a)) := fun h' => hne (mtU_eq _ _ h')
  unfold mt; omega
/-- One more place looked at. -/
def pick (xs : List Nat) (a : Nat) (s : Nat × Nat) (f : Nat) : Nat × Nat := if s.2 < mt xs f a then (a - f, mt xs f a) else s
def scan (xs : List Nat) (a : Nat) (zs : List Nat) : Nat × Nat := zs.foldl (pick xs a) (0, 0)
/-- One of just 3 bytes is not taken from far. -/
def mask (s : Nat × Nat) : Nat × Nat := if s.2 = 3 ∧ 128 < s.1 then (0, 0) else s
def bst (xs : List Nat) (a : Nat) : Nat × Nat := if a + 3 ≤ xs.length then mask (scan xs a (seen xs a (key xs a)).reverse) else (0, 0)
theorem scan_snoc (xs : List Nat) (a : Nat) (zs : List Nat) (f : Nat) : scan xs a (zs ++ [f]) = pick xs a (scan xs a zs) f := by simp [scan]
theorem scan_most {xs : List Nat} {a : Nat} : ∀ (l : List Nat) (s : Nat × Nat), s.2 = min 66 (xs.length - a) → l.foldl (pick xs a) s = s
  | [], s, h => rfl
  | f :: l, s, h => by
    have h1 := mt_le xs f a
    rw [List.foldl_cons, show pick xs a s f = s from if_neg (by omega)]
    exact scan_most l s h
theorem scan_app {xs : List Nat} {a : Nat} {zs l : List Nat} (h : (scan xs a zs).2 = min 66 (xs.length - a)) : scan xs a (zs ++ l) = scan xs a zs := by
  unfold scan at h ⊢
  rw [List.foldl_append]; exact scan_most l _ h
theorem scan_le {xs : List Nat} {a : Nat} (zs : List Nat) (hz : ∀ f ∈ zs, a ≤ f + 4096) : (scan xs a zs).1 ≤ 4096 ∧ (scan xs a zs).2 ≤ 66 := by
  have : ∀ (l : List Nat) (s : Nat × Nat), s.1 ≤ 4096 → s.2 ≤ 66 → (∀ f ∈ l, a ≤ f + 4096) → (l.foldl (pick xs a) s).1 ≤ 4096 ∧ (l.foldl (pick xs a) s).2 ≤ 66 := by
    intro l
    induction l with
    | nil => intro s h1 h2 _; exact ⟨h1, h2⟩
    | cons f l ih =>
      intro s h1 h2 h3
      rw [List.foldl_cons]
      have hm := mt_le xs f a
      have hf := h3 f (List.mem_cons_self)
      apply ih
      · unfold pick; split
        · show a - f ≤ 4096; omega
        · exact h1
      · unfold pick; split
        · show mt xs f a ≤ 66; omega
        · exact h2
      · exact fun g hg => h3 g (List.mem_cons_of_mem _ hg)
  exact this zs (0, 0) (by simp) (by simp) hz
theorem rev_drop {zs : List Nat} {k : Nat} (h : k < zs.length) : (zs.drop k).reverse = (zs.drop (k + 1)).reverse ++ [zs.getD k 0] := by
  rw [List.drop_eq_getElem_cons h, List.reverse_cons, List.getD_eq_getElem?_getD, List.getElem?_eq_getElem h]; rfl
theorem rev_take (zs : List Nat) (k : Nat) : zs.reverse = (zs.drop k).reverse ++ (zs.take k).reverse := by
  rw [← List.reverse_append, List.take_append_drop]
end Go.Proofs.YtckjmabacibojaaDoor.Lz
namespace Go.Proofs.YtckjmabacibojaaDoor.Lz
open Go.ChangeShapes Go.WideShapes Go.ChangeAt Go.RowKit
open Go.Proofs.YtckjmabacibojaaDoor.Wire Go.Proofs.YtckjmabacibojaaDoor.Map32
set_option linter.unusedVariables false

theorem bs_cell {w : World} {b o n j : Nat} {xs : List Nat} (h : Bs w (some ⟨b, o, none⟩) n xs) (hj : j < n) : w.cell? ⟨b, o + j, none⟩ = some (.int .u8 (xs.getD j 0 : Nat)) := by
  obtain ⟨b', o', e, _, hc⟩ := h.2.2 (by omega)
  obtain ⟨rfl, rfl, _⟩ := Addr.mk.inj (Option.some.inj e)
  exact hc j hj
theorem still_skip {P : Program} {ops : Array Oper} {w : World} {Q : Act → Prop} {o : Oper} {rest : List Oper} {a : Act} (h : Region.wanted o (yielded ops a.tmps) = false) (k : wpStill P ops w Q rest (a.put o.dst undef)) : wpStill P ops w Q (o :: rest) a := by
  unfold wpStill
  rw [h]
  exact k
def BPost2 (w : World) (s : Nat × Nat) (e : Ending) (w' : World) : Prop := e = .returned (.tuple #[.int .i64 (s.1 : Int), .int .i64 (s.2 : Int)]) ∧ Ext w w'
def BRel (w : World) (xs : List Nat) (p : Nat) (zs : List Nat) (bv lv iv : Value) (wr : World) : Prop :=
  ∃ k : Nat, k ≤ zs.length ∧ iv = .int .i64 ((k : Int) - 1) ∧ bv = .int .i64 ((scan xs p (zs.drop k).reverse).1 : Nat) ∧ lv = .int .i64 ((scan xs p (zs.drop k).reverse).2 : Nat) ∧ Ext w wr
def NRel2 (w : World) (xs : List Nat) (p f most : Nat) (nv : Value) (wr : World) : Prop :=
  ∃ n : Nat, n ≤ most ∧ nv = .int .i64 (n : Int) ∧ (∀ j, j < n → xs.getD (f + j) 0 = xs.getD (p + j) 0) ∧ Ext w wr
set_option maxHeartbeats 16000000 in
set_option maxRecDepth 100000 in
theorem best (A : Option Addr) (N c p base b : Nat) (xs : List Nat) (M : Nat → Option Value) (w : World) (hB : Bs w A N xs) (hG : Groups w base 3 b M (seen xs p)) (hp : p < N) (hN : N ≤ 1000000) :
    Calls Tryd.prog 28 #[.slice A N c, .int .i64 (p : Int), .map (some b)] w (BPost2 w (bst xs p)) := by
  have hxl : xs.length = N := hB.1
  obtain ⟨bb, oo, rfl, _, _⟩ := hB.2.2 (by omega)
  obtain ⟨R, hR⟩ : ∃ R, R = bst xs p := ⟨_, rfl⟩
  rw [← hR]
  have HR := Lib.hid hR; clear hR
  have HB := Lib.hid hB; have HG := Lib.hid hG; have HXL := Lib.hid hxl
  clear hB hG hxl
  go_enter Tryd.func28, Tryd.ntmps28
  go_wp2_with fail
  go_step3
  go_wp2_with fail
  by_cases h3 : p + 3 ≤ N
  · refine (three_yes _ N c p xs _ HB.out hN h3).mono ?_
    rintro e w1 ⟨rfl, b1⟩
    have HG1 := Lib.hid (HG.out.ext b1)
    have HE1 := Lib.hid b1
    have HB1 := Lib.hid (HB.out.ext b1)
    have HRB : Hid (R = mask (scan xs p (seen xs p (key xs p)).reverse)) := Lib.hid (by rw [HR.out]; exact if_pos (by rw [HXL.out]; exact h3))
    have HSM := Lib.hid (fun f (h : f ∈ seen xs p (key xs p)) => seen_mem h)
    have HKI := Lib.hid (fun f => (key_inj HB.out.2.1 (p := f) (q := p)).1)
    have hn16 := seen_len xs p (key xs p)
    clear b1
    rcases HG1.out.look (key xs p) with ⟨hv, hs0⟩ | ⟨hv, hs0, hsl⟩
    · have hrun := run_look (P := Tryd.prog) HG1.out.map Tryd.underlying65 Tryd.underlying43 (zeroRow w1) (key xs p)
      rw [hv] at hrun
      rw [hs0] at HRB
      clear hv hs0 HSM hn16
      generalize key xs p = k1 at *
      obtain ⟨mo, hmo⟩ : ∃ mo, mo = min 66 (N - p) := ⟨_, rfl⟩
      have hmo1 : mo ≤ 66 := by omega
      have hmo2 : 3 ≤ mo := by omega
      have hmo3 : p + mo ≤ N := by omega
      go_upto_region 5 with fail
      go_cut [11] (fun mv wx => mv = .int .i64 (mo : Int) ∧ w1 = wx)
      case first =>
        by_cases hm : 66 ≤ N - p
        · have hm1 : (66 : Int) ≤ (N : Int) - (p : Int) := by omega
          go_wp2_with fail
          go_meet
          exact ⟨int_eq (by omega), rfl⟩
        · have hm1 : (N : Int) - (p : Int) < 66 := by omega
          go_wp2_with fail
          go_meet
          exact ⟨int_eq (by omega), rfl⟩
      case rest =>
      obtain ⟨rfl, rfl⟩ := hcut
      have HMO := Lib.hid hmo; clear hmo hrun
      go_wp2_with fail
      go_step3
      go_wp2_with fail
      go_loopw [12, 13, 14] (fun bv lv iv wr => bv = .int .i64 0 ∧ lv = .int .i64 0 ∧ iv = .int .i64 (-1) ∧ Ext w wr) (fun _ _ iv wr => (intOf iv + 1).toNat)
      case atStart => exact ⟨rfl, rfl, rfl, HE1.out⟩
      case round =>
        obtain ⟨rfl, rfl, rfl, hE⟩ := hrel
        have HE := Lib.hid hE; clear hE
        go_wp2_with fail
        rw [Exit.noGoto_ret]
        go_ret2
        exact ⟨by rw [HRB.out]; rfl, HE.out⟩
    · obtain ⟨g, o, cap, hve, hc1, hc2, hgb⟩ := hsl.shape
      have hrun := run_look (P := Tryd.prog) HG1.out.map Tryd.underlying65 Tryd.underlying43 (zeroRow w1) (key xs p)
      rw [hve] at hrun hsl
      clear hv hve hs0
      generalize hzs : seen xs p (key xs p) = zs at *
      generalize hk1 : key xs p = k1 at *
      have HK1 := Lib.hid hk1; have HSL := Lib.hid hsl
      clear hk1 hzs hsl
      obtain ⟨mo, hmo⟩ : ∃ mo, mo = min 66 (N - p) := ⟨_, rfl⟩
      have hmo1 : mo ≤ 66 := by omega
      have hmo2 : 3 ≤ mo := by omega
      have hmo3 : p + mo ≤ N := by omega
      go_upto_region 5 with fail
      go_cut [11] (fun mv wx => mv = .int .i64 (mo : Int) ∧ w1 = wx)
      case first =>
        by_cases hm : 66 ≤ N - p
        · have hm1 : (66 : Int) ≤ (N : Int) - (p : Int) := by omega
          go_wp2_with fail
          go_meet
          exact ⟨int_eq (by omega), rfl⟩
        · have hm1 : (N : Int) - (p : Int) < 66 := by omega
          go_wp2_with fail
          go_meet
          exact ⟨int_eq (by omega), rfl⟩
      case rest =>
      obtain ⟨rfl, rfl⟩ := hcut
      have HMO := Lib.hid hmo; clear hmo hrun
      go_wp2_with fail
      go_step3
      go_wp2_with fail
      go_loopw [12, 13, 14] (fun bv lv iv wr => BRel w1 xs p zs bv lv iv wr) (fun _ _ iv wr => (intOf iv + 1).toNat)
      case atStart => exact ⟨zs.length, Nat.le_refl _, rfl, by rw [List.drop_length]; rfl, by rw [List.drop_length]; rfl, Ext.rfl' _⟩
      case round =>
        obtain ⟨k, hk, rfl, rfl, rfl, hE⟩ := hrel
        have HE := Lib.hid hE; clear hE
        have hsl2 := scan_le (xs := xs) (a := p) (zs.drop k).reverse (fun f hf => (HSM.out f (List.mem_of_mem_drop (List.mem_reverse.1 hf))).2.1)
        obtain ⟨B, L, hBL⟩ : ∃ B L, scan xs p (zs.drop k).reverse = (B, L) := ⟨_, _, rfl⟩
        rw [hBL] at hsl2 ⊢
        simp only at hsl2 ⊢
        obtain ⟨hB4, hL6⟩ := hsl2
        have HSC := Lib.hid hBL; clear hBL
        cases k with
        | zero =>
          have HRF : Hid (R = mask (B, L)) := Lib.hid (by rw [HRB.out, ← HSC.out, List.drop_zero])
          simp only [Int.ofNat_zero, Int.zero_sub]
          by_cases hL : L = 3
          · have z1 : ((L : Int) == 3) = true := beq_iff_eq.2 (by omega)
            by_cases hBk : 128 < B
            · have z2 : (128 : Int) < (B : Int) := by omega
              have HRZ : Hid (R = (0, 0)) := Lib.hid (by rw [HRF.out]; exact if_pos ⟨hL, hBk⟩)
              clear hL
              go_wp2_with fail
              try rw [Exit.noGoto_ret]
              go_ret2
              exact ⟨by rw [HRZ.out]; rfl, ext_trans HE1.out HE.out⟩
            · have z2 : ¬ (128 : Int) < (B : Int) := by omega
              have HRZ : Hid (R = (B, L)) := Lib.hid (by rw [HRF.out]; exact if_neg (fun h => hBk h.2))
              clear hL
              go_wp2_with fail
              try rw [Exit.noGoto_ret]
              go_ret2
              exact ⟨by rw [HRZ.out]; rfl, ext_trans HE1.out HE.out⟩
          · have z1 : ((L : Int) == 3) = false := beq_eq_false_iff_ne.2 (by omega)
            have HRZ : Hid (R = (B, L)) := Lib.hid (by rw [HRF.out]; exact if_neg (fun h => hL h.1))
            clear hL
            go_wp2_with fail
            try rw [Exit.noGoto_ret]
            go_ret2
            exact ⟨by rw [HRZ.out]; rfl, ext_trans HE1.out HE.out⟩
        | succ k =>
          have hkl : k < zs.length := hk
          have hfm : zs.getD k 0 ∈ zs := by rw [List.getD_eq_getElem?_getD, List.getElem?_eq_getElem hkl]; exact List.getElem_mem _
          obtain ⟨f1, f2, f3, f4⟩ := HSM.out _ hfm
          have c0 := (HSL.out.ext HE.out).cells k hkl
          have f0 := (HSL.out.ext HE.out).frozen k hkl
          have k0 : (0 : Int) ≤ ((k + 1 : Nat) : Int) - 1 := by omega
          have k1' : ((k + 1 : Nat) : Int) - 1 < (zs.length : Int) := by omega
          have k2 : (((k + 1 : Nat) : Int) - 1).toNat = k := by omega
          have hki := HKI.out (zs.getD k 0) f4
          obtain ⟨f, hf⟩ : ∃ f, f = zs.getD k 0 := ⟨_, rfl⟩
          rw [← hf] at f1 f2 f3 f4 c0 hki
          have HF := Lib.hid hf; have HKE := Lib.hid hki
          clear hf hfm hki f4
          have k3 : ¬ (4096 : Int) < (p : Int) - (f : Int) := by omega
          go_wp2_with fail
          go_loopw [16] (fun nv wr2 => NRel2 w1 xs p f (mo) nv wr2) (fun nv wr2 => 66 - (intOf nv).toNat)
          case atStart => exact ⟨3, by omega, rfl, fun j hj => by
            obtain ⟨a0, a1, a2⟩ := HKE.out
            rcases (show j = 0 ∨ j = 1 ∨ j = 2 by omega) with rfl | rfl | rfl
            · simpa using a0
            · exact a1
            · exact a2, HE.out⟩
          case round =>
            obtain ⟨n, hn, rfl, hj, hE2⟩ := hrel
            have HJ := Lib.hid hj; have HE2 := Lib.hid hE2
            have hn66 : n ≤ 66 := by omega
            clear hj hE2
            go_wp2_with fail
            have hE3 : ∀ m, Ext w1 (wr.drewN m) := fun m => ext_drewN HE2.out m
            by_cases hlt : n < mo
            · have z0 : (n : Int) < (mo : Int) := by omega
              have qa := bs_cell (HB1.out.ext HE2.out) (j := f + n) (by omega)
              have qb := bs_cell (HB1.out.ext HE2.out) (j := p + n) (by omega)
              have HST := Lib.hid (fun h => mt_stop (xs := xs) (f := f) (a := p) (n := n) (by rw [HXL.out, ← HMO.out]; exact hn) HJ.out h)
              have s1 : (0 : Int) ≤ (f : Int) + (n : Int) := by omega
              have s2 : (f : Int) + (n : Int) < (N : Int) := by omega
              have s3 : ((f : Int) + (n : Int)).toNat = f + n := by omega
              have s4 : (0 : Int) ≤ (p : Int) + (n : Int) := by omega
              have s5 : (p : Int) + (n : Int) < (N : Int) := by omega
              have s6 : ((p : Int) + (n : Int)).toNat = p + n := by omega
              by_cases heq : xs.getD (f + n) 0 = xs.getD (p + n) 0
              · have HJ2 : Hid (∀ j, j < n + 1 → xs.getD (f + j) 0 = xs.getD (p + j) 0) := Lib.hid (fun j hj => by
                  by_cases h : j = n
                  · rw [h]; exact heq
                  · exact HJ.out j (by omega))
                generalize xs.getD (f + n) 0 = x at *
                generalize xs.getD (p + n) 0 = y at *
                have z5 : ((x : Int) == (y : Int)) = true := beq_iff_eq.2 (by omega)
                go_quiet (fail)
                clear s1 s2 s3 s4 s5 s6
                go_wp2_with fail
                exact ⟨⟨n + 1, by omega, by go_num, HJ2.out, hE3 _⟩, by simp only [intOf]; omega⟩
              · have hnm := HST.out heq
                clear HST
                generalize xs.getD (f + n) 0 = x at *
                generalize xs.getD (p + n) 0 = y at *
                have z5 : ((x : Int) == (y : Int)) = false := beq_eq_false_iff_ne.2 (by omega)
                go_quiet (fail)
                clear s1 s2 s3 s4 s5 s6 hlt qa qb
                have HNM : Hid (mt xs f p = n) := Lib.hid hnm
                clear hnm
                have HPK : Hid (scan xs p (zs.drop k).reverse = if L < n then (p - f, n) else (B, L)) := Lib.hid (by rw [rev_drop hkl, ← HF.out, scan_snoc, HSC.out]; unfold pick; rw [HNM.out])
                have HE3 := Lib.hid hE3; clear hE3
                by_cases hle : n ≤ L
                · have z1 : (n : Int) ≤ (L : Int) := by omega
                  go_wp2_with fail
                  go_roundw
                  case rel => exact ⟨k, by omega, by go_num, by rw [HPK.out, if_neg (by omega)], by rw [HPK.out, if_neg (by omega)], (HE3.out _)⟩
                  case measure => simp only [intOf]; omega
                · have z1 : ¬ (n : Int) ≤ (L : Int) := by omega
                  have z3 : ((p : Int) - (f : Int)) = ((p - f : Nat) : Int) := by omega
                  by_cases hmost : n = mo
                  · have z2 : ((n : Int) == (mo : Int)) = true := beq_iff_eq.2 (by omega)
                    obtain ⟨B2, hB2⟩ : ∃ B2, B2 = p - f := ⟨_, rfl⟩
                    have z4 : ((p : Int) - (f : Int)) = (B2 : Int) := by omega
                    have hB3 : B2 ≤ 4096 := by omega
                    have HRF : Hid (R = mask (B2, n)) := Lib.hid (by
                      rw [HRB.out, rev_take zs k, scan_app (by rw [HPK.out, if_pos (by omega), HXL.out, ← HMO.out]; exact hmost), HPK.out, if_pos (by omega), hB2])
                    clear z3 hB2 hmost
                    by_cases hL : n = 3
                    · have y1 : ((n : Int) == 3) = true := beq_iff_eq.2 (by omega)
                      by_cases hBk : 128 < B2
                      · have y2 : (128 : Int) < (p : Int) - (f : Int) := by omega
                        have HRZ : Hid (R = (0, 0)) := Lib.hid (by rw [HRF.out]; exact if_pos ⟨hL, hBk⟩)
                        clear hL
                        go_wp2_with fail
                        try rw [Exit.noGoto_ret]
                        go_ret2
                        exact ⟨by rw [HRZ.out]; rfl, ext_trans HE1.out (HE3.out _)⟩
                      · have y2 : ¬ (128 : Int) < (p : Int) - (f : Int) := by omega
                        have HRZ : Hid (R = (B2, n)) := Lib.hid (by rw [HRF.out]; exact if_neg (fun h => hBk h.2))
                        have HZ4 := Lib.hid z4; clear z4 hL
                        go_wp2_with fail
                        try rw [Exit.noGoto_ret]
                        go_ret2
                        exact ⟨by rw [HRZ.out, HZ4.out]; rfl, ext_trans HE1.out (HE3.out _)⟩
                    · have y1 : ((n : Int) == 3) = false := beq_eq_false_iff_ne.2 (by omega)
                      have HRZ : Hid (R = (B2, n)) := Lib.hid (by rw [HRF.out]; exact if_neg (fun h => hL h.1))
                      have HZ4 := Lib.hid z4; clear z4 hL
                      go_wp2_with fail
                      try rw [Exit.noGoto_ret]
                      go_ret2
                      exact ⟨by rw [HRZ.out, HZ4.out]; rfl, ext_trans HE1.out (HE3.out _)⟩
                  · have z2 : ((n : Int) == (mo : Int)) = false := beq_eq_false_iff_ne.2 (by omega)
                    have HZ3 := Lib.hid z3; clear z3 hmost
                    go_wp2_with fail
                    go_roundw
                    case rel => exact ⟨k, by omega, by go_num, by rw [HPK.out, if_pos (by omega), HZ3.out], by rw [HPK.out, if_pos (by omega)], (HE3.out _)⟩
                    case measure => simp only [intOf]; omega
            · have z0 : decide ((n : Int) < (mo : Int)) = false := decide_eq_false (by omega)
              have hnm := mt_most (xs := xs) (f := f) (a := p) (n := n) (by rw [HXL.out, ← HMO.out]; omega) HJ.out
              go_quiet (fail)
              have HNM : Hid (mt xs f p = n) := Lib.hid hnm
              clear hnm
              have HPK : Hid (scan xs p (zs.drop k).reverse = if L < n then (p - f, n) else (B, L)) := Lib.hid (by rw [rev_drop hkl, ← HF.out, scan_snoc, HSC.out]; unfold pick; rw [HNM.out])
              have HE3 := Lib.hid hE3; clear hE3
              by_cases hle : n ≤ L
              · have z1 : (n : Int) ≤ (L : Int) := by omega
                go_wp2_with fail
                go_roundw
                case rel => exact ⟨k, by omega, by go_num, by rw [HPK.out, if_neg (by omega)], by rw [HPK.out, if_neg (by omega)], (HE3.out _)⟩
                case measure => simp only [intOf]; omega
              · have z1 : ¬ (n : Int) ≤ (L : Int) := by omega
                have z3 : ((p : Int) - (f : Int)) = ((p - f : Nat) : Int) := by omega
                by_cases hmost : n = mo
                · have z2 : ((n : Int) == (mo : Int)) = true := beq_iff_eq.2 (by omega)
                  obtain ⟨B2, hB2⟩ : ∃ B2, B2 = p - f := ⟨_, rfl⟩
                  have z4 : ((p : Int) - (f : Int)) = (B2 : Int) := by omega
                  have hB3 : B2 ≤ 4096 := by omega
                  have HRF : Hid (R = mask (B2, n)) := Lib.hid (by
                    rw [HRB.out, rev_take zs k, scan_app (by rw [HPK.out, if_pos (by omega), HXL.out, ← HMO.out]; exact hmost), HPK.out, if_pos (by omega), hB2])
                  clear z3 hB2 hmost
                  by_cases hL : n = 3
                  · have y1 : ((n : Int) == 3) = true := beq_iff_eq.2 (by omega)
                    by_cases hBk : 128 < B2
                    · have y2 : (128 : Int) < (p : Int) - (f : Int) := by omega
                      have HRZ : Hid (R = (0, 0)) := Lib.hid (by rw [HRF.out]; exact if_pos ⟨hL, hBk⟩)
                      clear hL
                      go_wp2_with fail
                      try rw [Exit.noGoto_ret]
                      go_ret2
                      exact ⟨by rw [HRZ.out]; rfl, ext_trans HE1.out (HE3.out _)⟩
                    · have y2 : ¬ (128 : Int) < (p : Int) - (f : Int) := by omega
                      have HRZ : Hid (R = (B2, n)) := Lib.hid (by rw [HRF.out]; exact if_neg (fun h => hBk h.2))
                      have HZ4 := Lib.hid z4; clear z4 hL
                      go_wp2_with fail
                      try rw [Exit.noGoto_ret]
                      go_ret2
                      exact ⟨by rw [HRZ.out, HZ4.out]; rfl, ext_trans HE1.out (HE3.out _)⟩
                  · have y1 : ((n : Int) == 3) = false := beq_eq_false_iff_ne.2 (by omega)
                    have HRZ : Hid (R = (B2, n)) := Lib.hid (by rw [HRF.out]; exact if_neg (fun h => hL h.1))
                    have HZ4 := Lib.hid z4; clear z4 hL
                    go_wp2_with fail
                    try rw [Exit.noGoto_ret]
                    go_ret2
                    exact ⟨by rw [HRZ.out, HZ4.out]; rfl, ext_trans HE1.out (HE3.out _)⟩
                · have z2 : ((n : Int) == (mo : Int)) = false := beq_eq_false_iff_ne.2 (by omega)
                  have HZ3 := Lib.hid z3; clear z3 hmost
                  go_wp2_with fail
                  go_roundw
                  case rel => exact ⟨k, by omega, by go_num, by rw [HPK.out, if_pos (by omega), HZ3.out], by rw [HPK.out, if_pos (by omega)], (HE3.out _)⟩
                  case measure => simp only [intOf]; omega
  · refine (three_no _ N c (p : Int) _ hN (by omega) (by omega) (.inr (by omega))).mono ?_
    rintro e w3 ⟨rfl, rfl⟩
    have HRB : Hid (R = (0, 0)) := Lib.hid (by rw [HR.out]; exact if_neg (by rw [HXL.out]; exact h3))
    go_wp2_with fail
    rw [Exit.noGoto_ret]
    go_ret2
    exact ⟨by rw [HRB.out]; rfl, Ext.rfl' _⟩
end Go.Proofs.YtckjmabacibojaaDoor.Lz
namespace Go.Proofs.YtckjmabacibojaaDoor.Lz
open Go.ChangeShapes Go.WideShapes Go.ChangeAt Go.RowKit
open Go.Proofs.YtckjmabacibojaaDoor.Wire Go.Proofs.YtckjmabacibojaaDoor.Map32
set_option linter.unusedVariables false

/-- Literals, as tokens. -/
def litT (l : List Nat) : List Nat :=
  if h : l = [] then [] else (2 * (min 64 l.length - 1)) :: (l.take (min 64 l.length) ++ litT (l.drop (min 64 l.length)))
termination_by l.length
decreasing_by
  have : 0 < l.length := List.length_pos_iff.2 h
  rw [List.length_drop]; omega
theorem litT_nil : litT [] = [] := by rw [litT]; simp
theorem litT_step {l : List Nat} (h : 0 < l.length) : litT l = (2 * (min 64 l.length - 1)) :: (l.take (min 64 l.length) ++ litT (l.drop (min 64 l.length))) := by
  rw [litT, dif_neg (List.length_pos_iff.1 h)]
theorem litT_len : ∀ (n : Nat) (l : List Nat), l.length = n → (litT l).length = l.length + (l.length + 63) / 64 := by
  intro n
  induction n using Nat.strongRecOn with
  | ind n ih =>
    intro l hl
    by_cases h : 0 < l.length
    · rw [litT_step h, List.length_cons, List.length_append, List.length_take, ih (l.drop (min 64 l.length)).length (by rw [List.length_drop]; omega) _ rfl, List.length_drop]
      omega
    · obtain rfl : l = [] := List.eq_nil_of_length_eq_zero (by omega)
      rw [litT_nil]; rfl
theorem litT_small : ∀ (n : Nat) (l : List Nat), l.length = n → (∀ c ∈ l, c < 256) → ∀ c ∈ litT l, c < 256 := by
  intro n
  induction n using Nat.strongRecOn with
  | ind n ih =>
    intro l hl hs
    by_cases h : 0 < l.length
    · rw [litT_step h]
      intro c hc
      rcases List.mem_cons.1 hc with rfl | hc
      · omega
      · rcases List.mem_append.1 hc with hc | hc
        · exact hs c (List.mem_of_mem_take hc)
        · exact ih (l.drop (min 64 l.length)).length (by rw [List.length_drop]; omega) _ rfl (fun c hc => hs c (List.mem_of_mem_drop hc)) c hc
    · obtain rfl : l = [] := List.eq_nil_of_length_eq_zero (by omega)
      rw [litT_nil]; intro c hc; cases hc
/-- What holds of a match that was found. -/
def Good (xs : List Nat) (a : Nat) (s : Nat × Nat) : Prop :=
  s = (0, 0) ∨ (3 ≤ s.2 ∧ s.2 ≤ 66 ∧ a + s.2 ≤ xs.length ∧ 1 ≤ s.1 ∧ s.1 ≤ 4096 ∧ s.1 ≤ a ∧ ∀ j, j < s.2 → xs.getD (a - s.1 + j) 0 = xs.getD (a + j) 0)
theorem pick_good {xs : List Nat} {a f : Nat} {s : Nat × Nat} (h : Good xs a s) (hf : f < a) (hw : a ≤ f + 4096) (hm : 3 ≤ mt xs f a) : Good xs a (pick xs a s f) := by
  unfold pick
  split
  · have h1 := mt_le xs f a
    refine .inr ⟨hm, by simp only; omega, by simp only; omega, by simp only; omega, by simp only; omega, by simp only; omega, fun j hj => ?_⟩
    simp only at hj ⊢
    rw [show a - (a - f) + j = f + j from by omega]
    exact mtU_eq _ j hj
  · exact h
theorem scan_good {xs : List Nat} {a : Nat} : ∀ (l : List Nat) (s : Nat × Nat), Good xs a s → (∀ f ∈ l, f < a ∧ a ≤ f + 4096 ∧ 3 ≤ mt xs f a) → Good xs a (l.foldl (pick xs a) s)
  | [], s, h, _ => h
  | f :: l, s, h, hl => by
    obtain ⟨h1, h2, h3⟩ := hl f List.mem_cons_self
    exact scan_good l _ (pick_good h h1 h2 h3) (fun g hg => hl g (List.mem_cons_of_mem _ hg))
theorem seen_mt {xs : List Nat} (hx : ∀ j, xs.getD j 0 < 256) {a f : Nat} (ha : a + 3 ≤ xs.length) (h : f ∈ seen xs a (key xs a)) : f < a ∧ a ≤ f + 4096 ∧ 3 ≤ mt xs f a := by
  obtain ⟨h1, h2, h3, h4⟩ := seen_mem h
  obtain ⟨e0, e1, e2⟩ := (key_inj hx).1 h4
  refine ⟨h1, h2, mtU_ge _ 3 (by omega) (fun j hj => ?_)⟩
  rcases (show j = 0 ∨ j = 1 ∨ j = 2 by omega) with rfl | rfl | rfl
  · simpa using e0
  · exact e1
  · exact e2
theorem bst_good {xs : List Nat} (hx : ∀ j, xs.getD j 0 < 256) (a : Nat) : Good xs a (bst xs a) := by
  unfold bst
  by_cases ha : a + 3 ≤ xs.length
  · rw [if_pos ha]
    have h := scan_good (xs := xs) (a := a) (seen xs a (key xs a)).reverse (0, 0) (.inl rfl) (fun f hf => seen_mt hx ha (List.mem_reverse.1 hf))
    unfold mask
    split
    · exact .inl rfl
    · exact h
  · rw [if_neg ha]; exact .inl rfl
/-- What is packed from a place on, when the bytes from told on are still to tell. -/
def pk (xs : List Nat) (told a : Nat) : List Nat :=
  if h : a < xs.length then
    if h2 : (bst xs a).2 = 0 then pk xs told (a + 1)
    else litT ((xs.drop told).take (a - told)) ++ ((2 * ((bst xs a).2 - 3) + 1) :: (vb ((bst xs a).1 - 1) ++ pk xs (a + (bst xs a).2) (a + (bst xs a).2)))
  else litT (xs.drop told)
termination_by xs.length - a
decreasing_by all_goals omega
theorem pk_end {xs : List Nat} {told a : Nat} (h : xs.length ≤ a) : pk xs told a = litT (xs.drop told) := by rw [pk, dif_neg (by omega)]
theorem pk_lit {xs : List Nat} {told a : Nat} (h : a < xs.length) (h2 : (bst xs a).2 = 0) : pk xs told a = pk xs told (a + 1) := by rw [pk, dif_pos h, dif_pos h2]
theorem pk_match {xs : List Nat} {told a : Nat} (h : a < xs.length) (h2 : ¬ (bst xs a).2 = 0) : pk xs told a = litT ((xs.drop told).take (a - told)) ++ ((2 * ((bst xs a).2 - 3) + 1) :: (vb ((bst xs a).1 - 1) ++ pk xs (a + (bst xs a).2) (a + (bst xs a).2))) := by
  conv => lhs; rw [pk]
  rw [dif_pos h, dif_neg h2]
end Go.Proofs.YtckjmabacibojaaDoor.Lz
namespace Go.Proofs.YtckjmabacibojaaDoor.Com
open Go.ChangeShapes Go.WideShapes Go.ChangeAt Go.RowKit
set_option linter.unusedVariables false

theorem bytesRow_at (T : ByteArray) (cap j : Nat) (h : j < T.size) : (bytesRow T cap)[j]? = some (.int .u8 ((natsOf T).getD j 0 : Nat)) := by
  have h' : j < T.data.size := h
  unfold bytesRow natsOf
  rw [Array.getElem?_append_left (by simpa using h'), Array.getElem?_map, Array.getElem?_eq_getElem h', List.getD_eq_getElem?_getD, List.getElem?_map, List.getElem?_eq_getElem (by simpa using h')]
  simp
theorem conv_text (w : World) (T : ByteArray) (hT : T.size ≤ 100000000000) : ∃ c W, (convert 9 22 (.string T)).run Tryd.prog w = .ok (.slice (some ⟨w.heap.size, 0, none⟩) T.size c) W ∧ T.size ≤ c ∧ c ≤ 9223372036854775807 ∧ Bs W (some ⟨w.heap.size, 0, none⟩) T.size (natsOf T) ∧ Ext w W := by
  refine ⟨_, _, run_bytes_of_string (P := Tryd.prog) w 9 22 5 T Tryd.underlying9 Tryd.underlying22 Tryd.underlying5, grownCap_ge w T.size 0 _, ?_, ⟨natsOf_len T, natsOf_small T, fun _ => ⟨w.heap.size, 0, rfl, by simp, fun j hj => ?_⟩⟩, ext_alloc (ext_drew (Ext.rfl' w)) _⟩
  · have := grownCap_le_maxLen w T.size 0 5 (by unfold maxLen; omega)
    unfold maxLen at this; omega
  · rw [Nat.zero_add]
    have hg : (w.drew.alloc (.cells (bytesRow T (grownCap w T.size 0 5)) 5 ((bytesRow T (grownCap w T.size 0 5)).size, (bytesRow T (grownCap w T.size 0 5)).size + 1))).heap[w.heap.size]? = some (.cells (bytesRow T (grownCap w T.size 0 5)) 5 ((bytesRow T (grownCap w T.size 0 5)).size, (bytesRow T (grownCap w T.size 0 5)).size + 1)) := heap_alloc_new w.drew _
    rw [cell_of_row _ _ _ _ _ _ hg, bytesRow_at T _ j hj]
end Go.Proofs.YtckjmabacibojaaDoor.Com
