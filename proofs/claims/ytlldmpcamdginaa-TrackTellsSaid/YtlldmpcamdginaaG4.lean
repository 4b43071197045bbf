/- Tiles: how far they are apart, which are next to one, which are around (plain). -/
import Derived.Test.YtlldmpcamdginaaG1
import Derived.Test.YtlldmpcamdginaaRows
import Derived.WalkKit
import Derived.ProofKit
import Derived.OpenShut
import Derived.Outline
import Derived.Lib.Hide
import Derived.WalkLawsBesides
import Derived.BigQuiet
import Derived.Deep.QuietTactic
import Derived.IntWalk
import Derived.Maps.Keyed
import Derived.Maps.Own
import Derived.Maps.OwnOps
import Derived.BigFrame
import Derived.OrdersHeld
namespace Go.Proofs.Ytlldmpcamdginaa.Grid
set_option linter.unusedVariables false

/-- How far tiles are apart, of a map of W columns. -/
def far (W a b : Nat) : Nat := (a % W - b % W) + (b % W - a % W) + ((a / W - b / W) + (b / W - a / W))
theorem far_self (W a : Nat) : far W a a = 0 := by unfold far; omega
theorem far_comm (W a b : Nat) : far W a b = far W b a := by unfold far; omega
/-- The tiles below k that are not farther. -/
def upto (W t : Nat) (f : Int) (k : Nat) : List Nat := (List.range k).filter fun u => decide ((far W t u : Int) ≤ f)
theorem upto_zero (W t : Nat) (f : Int) : upto W t f 0 = [] := rfl
theorem upto_yes {W t k : Nat} {f : Int} (h : (far W t k : Int) ≤ f) : upto W t f (k + 1) = upto W t f k ++ [k] := by
  unfold upto; rw [List.range_succ, List.filter_append]; simp [h]
theorem upto_no {W t k : Nat} {f : Int} (h : ¬ (far W t k : Int) ≤ f) : upto W t f (k + 1) = upto W t f k := by
  unfold upto
  rw [List.range_succ, List.filter_append]
  have : List.filter (fun u => decide ((far W t u : Int) ≤ f)) [k] = [] := by rw [List.filter_eq_nil_iff]; intro a ha; rw [List.mem_singleton.1 ha]; simpa using h
  rw [this, List.append_nil]
theorem upto_skip {W t k : Nat} {f : Int} : ∀ m, k ≤ m → (∀ u, k ≤ u → u < m → ¬ (far W t u : Int) ≤ f) → upto W t f m = upto W t f k := by
  intro m
  induction m with
  | zero =>
    intro h _
    have e : k = 0 := by omega
    rw [e]
  | succ m ih =>
    intro h hn
    by_cases e : k = m + 1
    · rw [e]
    · rw [upto_no (hn m (by omega) (by omega)), ih (by omega) (fun u h1 h2 => hn u h1 (by omega))]
theorem upto_len (W t : Nat) (f : Int) (k : Nat) : (upto W t f k).length ≤ k := by
  unfold upto; have := List.length_filter_le (fun u => decide ((far W t u : Int) ≤ f)) (List.range k); rw [List.length_range] at this; exact this
theorem upto_mem {W t k u : Nat} {f : Int} : u ∈ upto W t f k ↔ u < k ∧ (far W t u : Int) ≤ f := by simp [upto, List.mem_filter]
theorem upto_neg {W t k : Nat} {f : Int} (h : f < 0) : upto W t f k = [] := by
  unfold upto; rw [List.filter_eq_nil_iff]; intro a _; simp; omega
theorem div_lt' {W H u : Nat} (hW : 0 < W) (h : u < W * H) : u / W < H := (Nat.div_lt_iff_lt_mul hW).2 (by rw [Nat.mul_comm]; exact h)
theorem far_le {W H a b : Nat} (hW : 0 < W) (ha : a < W * H) (hb : b < W * H) : far W a b + 2 ≤ W + H := by
  have h1 := Nat.mod_lt a hW; have h2 := Nat.mod_lt b hW
  have h3 := div_lt' hW ha; have h4 := div_lt' hW hb
  unfold far
  generalize a % W = x at *; generalize b % W = x2 at *; generalize a / W = y at *; generalize b / W = y2 at *
  omega
/-- A far limit is as a lower one. -/
theorem upto_min {W H t : Nat} {f : Int} (hW : 0 < W) (ht : t < W * H) : upto W t (min f ((W : Int) + (H : Int))) (W * H) = upto W t f (W * H) := by
  unfold upto
  refine List.filter_congr (fun u hu => ?_)
  have hu' := List.mem_range.1 hu
  have := far_le hW ht hu'
  rw [decide_eq_decide]
  omega
theorem rc_div {W r c : Nat} (h : c < W) : (r * W + c) / W = r := by
  rw [Nat.mul_comm, Nat.mul_add_div (by omega), Nat.div_eq_of_lt h, Nat.add_zero]
theorem rc_mod {W r c : Nat} (h : c < W) : (r * W + c) % W = c := by
  rw [Nat.mul_comm, Nat.mul_add_mod, Nat.mod_eq_of_lt h]
theorem far_rc {W t r c : Nat} (h : c < W) : far W t (r * W + c) = (t % W - c) + (c - t % W) + ((t / W - r) + (r - t / W)) := by
  unfold far; rw [rc_div h, rc_mod h]
theorem div_mod' (W u : Nat) : u = u / W * W + u % W := by have := Nat.div_add_mod u W; rw [Nat.mul_comm] at this; omega
/-- The tiles next to one, in order. -/
def nxt (W H t : Nat) : List Nat :=
  (if 0 < t / W then [t - W] else []) ++ (if t % W + 1 < W then [t + 1] else []) ++ (if t / W + 1 < H then [t + W] else []) ++ (if 0 < t % W then [t - 1] else [])
theorem sub_div {W t : Nat} : (t - W) / W = t / W - 1 := by have := Nat.sub_mul_div t W 1; rwa [Nat.mul_one] at this
theorem sub_mod {W t : Nat} (h : W ≤ t) : (t - W) % W = t % W := by have := Nat.sub_mul_mod (x := t) (n := W) (k := 1) (by omega); rwa [Nat.mul_one] at this
theorem row_pos {W t : Nat} (hW : 0 < W) : 0 < t / W ↔ W ≤ t := Nat.div_pos_iff.trans ⟨fun h => h.2, fun h => ⟨hW, h⟩⟩
theorem add_div' {W t : Nat} (hW : 0 < W) : (t + W) / W = t / W + 1 := Nat.add_div_right t hW
theorem row_more {W H t : Nat} (hW : 0 < W) : t / W + 1 < H ↔ t + W < W * H := by
  rw [← add_div' hW, Nat.div_lt_iff_lt_mul hW, Nat.mul_comm]
theorem right_same {W t : Nat} (hW : 0 < W) (h : t % W + 1 < W) : (t + 1) / W = t / W ∧ (t + 1) % W = t % W + 1 := by
  have e : t + 1 = t / W * W + (t % W + 1) := by have := div_mod' W t; omega
  rw [e, rc_div h, rc_mod h]; exact ⟨rfl, rfl⟩
theorem right_next {W t : Nat} (hW : 0 < W) (h : t % W + 1 = W) : (t + 1) / W = t / W + 1 ∧ (t + 1) % W = 0 := by
  have e : t + 1 = (t / W + 1) * W + 0 := by have := div_mod' W t; rw [Nat.add_mul]; omega
  rw [e, rc_div hW, rc_mod hW]; exact ⟨rfl, rfl⟩
theorem left_same {W t : Nat} (hW : 0 < W) (h : 0 < t % W) : (t - 1) / W = t / W ∧ (t - 1) % W = t % W - 1 := by
  have hl := Nat.mod_lt t hW
  have e : t - 1 = t / W * W + (t % W - 1) := by have := div_mod' W t; omega
  rw [e, rc_div (by omega), rc_mod (by omega)]; exact ⟨rfl, rfl⟩
theorem left_next {W t : Nat} (hW : 0 < W) (h : t % W = 0) (h0 : 0 < t) : (t - 1) / W + 1 = t / W ∧ (t - 1) % W = W - 1 := by
  have h1 := div_mod' W t
  have hr : 0 < t / W := by
    rcases Nat.eq_zero_or_pos (t / W) with e | e
    · rw [e, h] at h1; omega
    · exact e
  obtain ⟨k, hk⟩ : ∃ k, t / W = k + 1 := ⟨t / W - 1, by omega⟩
  have e : t - 1 = k * W + (W - 1) := by rw [hk, Nat.add_mul] at h1; omega
  rw [hk, e, rc_div (by omega), rc_mod (by omega)]; exact ⟨rfl, rfl⟩
/-- Which of the four are next to one. -/
theorem far_north {W t : Nat} (hW : 0 < W) (h : W ≤ t) : far W t (t - W) = 1 := by
  have := (row_pos hW).2 h
  unfold far; rw [sub_div, sub_mod h]; generalize t % W = x at *; generalize t / W = y at *; omega
theorem far_south {W t : Nat} (hW : 0 < W) : far W t (t + W) = 1 := by
  unfold far; rw [add_div' hW, Nat.add_mod_right]; generalize t % W = x at *; generalize t / W = y at *; omega
theorem far_east {W t : Nat} (hW : 4 ≤ W) : far W t (t + 1) = 1 ↔ t % W + 1 < W := by
  have hl := Nat.mod_lt t (show 0 < W by omega)
  unfold far
  by_cases h : t % W + 1 < W
  · obtain ⟨h1, h2⟩ := right_same (by omega) h
    rw [h1, h2]; generalize t % W = x at *; generalize t / W = y at *; omega
  · obtain ⟨h1, h2⟩ := right_next (by omega) (show t % W + 1 = W by omega)
    rw [h1, h2]; generalize t % W = x at *; generalize t / W = y at *; omega
theorem far_west {W t : Nat} (hW : 4 ≤ W) (h0 : 0 < t) : far W t (t - 1) = 1 ↔ 0 < t % W := by
  have hl := Nat.mod_lt t (show 0 < W by omega)
  unfold far
  by_cases h : 0 < t % W
  · obtain ⟨h1, h2⟩ := left_same (by omega) h
    rw [h1, h2]; generalize t % W = x at *; generalize t / W = y at *; omega
  · obtain ⟨h1, h2⟩ := left_next (by omega) (show t % W = 0 by omega) h0
    rw [h2]; generalize t % W = x at *; generalize (t - 1) / W = z at *; generalize t / W = y at *; omega
end Go.Proofs.Ytlldmpcamdginaa.Grid
namespace Go.Proofs.Ytlldmpcamdginaa.Grid
open Go.ChangeShapes Go.WideShapes Go.ChangeAt Go.RowKit
set_option linter.unusedVariables false

set_option maxHeartbeats 1000000 in
theorem on_zero (x : Int) (w : World) : Calls Try.prog 84 #[.agg #[.int .i64 0, .int .i64 0, .string ⟨#[]⟩], .int .i64 x] w fun e w' => e = .returned (.bool false) ∧ Ext w w' := by
  go_enter Try.func84, Try.ntmps84
  go_wp2_with fail
  go_ret
  exact ⟨rfl, ext_alloc (Ext.rfl' _) _⟩
set_option maxHeartbeats 1000000 in
theorem on_yes (W H x : Nat) (T : ByteArray) (w : World) (hW : 4 ≤ W) (hs : T.size ≤ 5000) (hx : x < T.size) : Calls Try.prog 84 #[.agg #[.int .i64 (W : Int), .int .i64 (H : Int), .string T], .int .i64 (x : Int)] w fun e w' => e = .returned (.bool true) ∧ Ext w w' := by
  have z0 : ((W : Int) == 0) = false := beq_eq_false_iff_ne.2 (by omega)
  have z1 : (0 : Int) ≤ (x : Int) := by omega
  have z2 : (x : Int) < (T.size : Int) := by omega
  go_enter Try.func84, Try.ntmps84
  go_wp2_with fail
  go_ret
  exact ⟨rfl, ext_alloc (Ext.rfl' _) _⟩
set_option maxHeartbeats 1000000 in
theorem on_no (W H : Nat) (x : Int) (T : ByteArray) (w : World) (hW : 4 ≤ W) (hs : T.size ≤ 5000) (hx : x < 0 ∨ (T.size : Int) ≤ x) : Calls Try.prog 84 #[.agg #[.int .i64 (W : Int), .int .i64 (H : Int), .string T], .int .i64 x] w fun e w' => e = .returned (.bool false) ∧ Ext w w' := by
  have z0 : ((W : Int) == 0) = false := beq_eq_false_iff_ne.2 (by omega)
  by_cases h : x < 0
  · have z1 : ¬ (0 : Int) ≤ x := by omega
    go_enter Try.func84, Try.ntmps84
    go_wp2_with fail
    go_ret
    exact ⟨rfl, ext_alloc (Ext.rfl' _) _⟩
  · have z1 : (0 : Int) ≤ x := by omega
    have z2 : ¬ x < (T.size : Int) := by omega
    go_enter Try.func84, Try.ntmps84
    go_wp2_with fail
    go_ret
    exact ⟨rfl, ext_alloc (Ext.rfl' _) _⟩
set_option maxHeartbeats 1000000 in
theorem is_yes (W H x : Nat) (T : ByteArray) (w : World) (hW : 4 ≤ W) (hs : T.size ≤ 5000) (hx : x < T.size) : Calls Try.prog 63 #[.agg #[.int .i64 (W : Int), .int .i64 (H : Int), .string T], .int .i64 (x : Int)] w fun e w' => e = .returned (.int .u8 (T[x].toNat : Int)) ∧ Ext w w' := by
  have z1 : (0 : Int) ≤ (x : Int) := by omega
  have z2 : (x : Int) < (T.size : Int) := by omega
  go_enter Try.func63, Try.ntmps63
  go_wp2_with fail
  refine (on_yes W H x T _ hW hs hx).mono ?_
  rintro e w1 ⟨rfl, b1⟩
  have hb := (Blk.new w 94 #[.int .i64 (W : Int), .int .i64 (H : Int), .string T]).ext b1
  have c2 := hb.cell 2
  simp only [List.getElem?_toArray, List.getElem?_cons_succ, List.getElem?_cons_zero] at c2
  have HE := Lib.hid (ext_trans (ext_alloc (Ext.rfl' w) _) b1)
  clear hb b1
  go_wp2_with fail
  go_ret
  exact ⟨rfl, HE.out⟩
set_option maxHeartbeats 1000000 in
theorem is_no (W H : Nat) (x : Int) (T : ByteArray) (w : World) (hW : 4 ≤ W) (hs : T.size ≤ 5000) (hx : x < 0 ∨ (T.size : Int) ≤ x) : Calls Try.prog 63 #[.agg #[.int .i64 (W : Int), .int .i64 (H : Int), .string T], .int .i64 x] w fun e w' => e = .returned (.int .u8 1) ∧ Ext w w' := by
  have HX := Lib.hid hx; clear hx
  go_enter Try.func63, Try.ntmps63
  go_wp2_with fail
  refine (on_no W H x T _ hW hs HX.out).mono ?_
  rintro e w1 ⟨rfl, b1⟩
  have HE := Lib.hid (ext_trans (ext_alloc (Ext.rfl' w) _) b1)
  clear b1
  go_wp2_with fail
  go_ret
  exact ⟨rfl, HE.out⟩
set_option maxHeartbeats 1000000 in
theorem walk_yes (W H x : Nat) (T : ByteArray) (w : World) (hW : 4 ≤ W) (hs : T.size ≤ 5000) (hx : x < T.size) : Calls Try.prog 36 #[.agg #[.int .i64 (W : Int), .int .i64 (H : Int), .string T], .int .i64 (x : Int)] w fun e w' => e = .returned (.bool (((T[x].toNat : Nat) : Int) == 0)) ∧ Ext w w' := by
  go_enter Try.func36, Try.ntmps36
  go_wp2_with fail
  refine (is_yes W H x T _ hW hs hx).mono ?_
  rintro e w1 ⟨rfl, b1⟩
  have HE := Lib.hid (ext_trans (ext_alloc (Ext.rfl' w) _) b1)
  clear b1
  go_wp2_with fail
  go_ret
  exact ⟨rfl, HE.out⟩
set_option maxHeartbeats 1000000 in
theorem walk_no (W H : Nat) (x : Int) (T : ByteArray) (w : World) (hW : 4 ≤ W) (hs : T.size ≤ 5000) (hx : x < 0 ∨ (T.size : Int) ≤ x) : Calls Try.prog 36 #[.agg #[.int .i64 (W : Int), .int .i64 (H : Int), .string T], .int .i64 x] w fun e w' => e = .returned (.bool false) ∧ Ext w w' := by
  have HX := Lib.hid hx; clear hx
  go_enter Try.func36, Try.ntmps36
  go_wp2_with fail
  refine (is_no W H x T _ hW hs HX.out).mono ?_
  rintro e w1 ⟨rfl, b1⟩
  have HE := Lib.hid (ext_trans (ext_alloc (Ext.rfl' w) _) b1)
  clear b1
  go_wp2_with fail
  go_ret
  exact ⟨rfl, HE.out⟩
theorem fields {w w1 : World} {t : TypeId} {a b c : Value} (h : Blk w w.heap.size t #[a, b, c]) (e : Ext w w1) : True := trivial
theorem map_cells {w1 : World} {g : Nat} {t : TypeId} {a b c : Value} (h : Blk w1 g t #[a, b, c]) : w1.cell? ⟨g, 0, none⟩ = some a ∧ w1.cell? ⟨g, 1, none⟩ = some b ∧ w1.cell? ⟨g, 2, none⟩ = some c := ⟨h.cell 0, h.cell 1, h.cell 2⟩
end Go.Proofs.Ytlldmpcamdginaa.Grid
namespace Go.Proofs.Ytlldmpcamdginaa.Grid
open Go.ChangeShapes Go.WideShapes Go.ChangeAt Go.RowKit
set_option linter.unusedVariables false

end Go.Proofs.Ytlldmpcamdginaa.Grid
namespace Go.Proofs.Ytlldmpcamdginaa.Grid
open Go.ChangeShapes Go.WideShapes Go.ChangeAt Go.RowKit
set_option linter.unusedVariables false

/-- There may be such a map. -/
def okm (w h : Int) (T : ByteArray) : Prop := 4 ≤ w ∧ w ≤ 64 ∧ 4 ≤ h ∧ h ≤ 64 ∧ (T.size : Int) = w * h ∧ ∀ i, (hi : i < T.size) → T[i].toNat ≤ 2
instance (w h : Int) (T : ByteArray) : Decidable (okm w h T) := by unfold okm; infer_instance
def mval (w h : Int) (T : ByteArray) : Value := .agg #[.int .i64 w, .int .i64 h, .string T]
def newR (w h : Int) (T : ByteArray) : Value := if okm w h T then .tuple #[mval w h T, .int .i64 0] else .tuple #[mval 0 0 ⟨#[]⟩, .int .i64 2]
def NewPost (w h : Int) (T : ByteArray) (W : World) (e : Ending) (W' : World) : Prop := e = .returned (newR w h T) ∧ Ext W W'
def MayPost (w h : Int) (T : ByteArray) (W : World) (e : Ending) (W' : World) : Prop := e = .returned (.bool (decide (okm w h T))) ∧ W = W'
def NwRel (W : World) (T : ByteArray) (iv : Value) (wr : World) : Prop := ∃ k : Nat, k ≤ T.size ∧ iv = .int .i64 (k : Int) ∧ (∀ i, (hi : i < T.size) → i < k → T[i].toNat ≤ 2) ∧ Blk wr W.heap.size 94 #[.int .i64 0, .int .i64 0, .string ⟨#[]⟩] ∧ Ext W wr
def MyRel (T : ByteArray) (iv : Value) : Prop := ∃ k : Nat, k ≤ T.size ∧ iv = .int .i64 (k : Int) ∧ (∀ i, (hi : i < T.size) → i < k → T[i].toNat ≤ 2)
set_option maxHeartbeats 4000000 in
theorem new_any (w h : Int) (T : ByteArray) (W : World) (hs : T.size ≤ 5000) (hw1 : -9223372036854775808 ≤ w) (hw2 : w ≤ 9223372036854775807) (hh1 : -9223372036854775808 ≤ h) (hh2 : h ≤ 9223372036854775807) :
    Calls Try.prog 35 #[.int .i64 w, .int .i64 h, .string T] W (NewPost w h T W) := by
  have HR := Lib.hid (show newR w h T = newR w h T from rfl)
  by_cases hr : 4 ≤ w ∧ w ≤ 64 ∧ 4 ≤ h ∧ h ≤ 64
  · obtain ⟨r1, r2, r3, r4⟩ := hr
    obtain ⟨a, rfl⟩ : ∃ a : Nat, w = (a : Int) := ⟨w.toNat, by omega⟩
    obtain ⟨b, rfl⟩ : ∃ b : Nat, h = (b : Int) := ⟨h.toNat, by omega⟩
    obtain ⟨P, hP⟩ : ∃ P, P = a * b := ⟨_, rfl⟩
    have hP1 : (a : Int) * (b : Int) = (P : Int) := by rw [hP]; exact (Int.natCast_mul a b).symm
    have hP2 : P ≤ 64 * 64 := by rw [hP]; exact Nat.mul_le_mul (by omega) (by omega)
    have z1 : ¬ (a : Int) < 4 := by omega
    have z2 : ¬ (64 : Int) < (a : Int) := by omega
    have z3 : ¬ (b : Int) < 4 := by omega
    have z4 : ¬ (64 : Int) < (b : Int) := by omega
    by_cases hsz : T.size = P
    · have z5 : (((T.size : Nat) : Int) != (P : Int)) = false := by rw [hsz]; simp
      have z6 : (((T.size : Nat) : Int) == (P : Int)) = true := by rw [hsz]; simp
      have HOK : Hid ((∀ i, (hi : i < T.size) → T[i].toNat ≤ 2) ↔ okm (a : Int) (b : Int) T) := Lib.hid ⟨fun hall => ⟨r1, r2, r3, r4, by rw [hP1, hsz], hall⟩, fun ho => ho.2.2.2.2.2⟩
      clear hP
      have HSZ := Lib.hid hsz; clear hsz
      have HP1 := Lib.hid hP1
      go_enter Try.func35, Try.ntmps35
      go_wp2_with fail
      go_loopw [34] (fun iv wr => NwRel W T iv wr) (fun iv _ => T.size - (intOf iv).toNat)
      case atStart => exact ⟨0, Nat.zero_le _, rfl, fun i _ h => by omega, Blk.new _ _ _, ext_alloc (Ext.rfl' _) _⟩
      case round =>
        obtain ⟨k, hk, rfl, hall, hB, hE⟩ := hrel
        have HALL := Lib.hid hall; have HB := Lib.hid hB; have HE := Lib.hid hE
        have hlt2 := hB.lt
        obtain ⟨c0, c1, c2⟩ := map_cells hB
        have f0 := hB.frozen 0; have f1 := hB.frozen 1; have f2 := hB.frozen 2
        clear hall hB hE
        by_cases hlt : k < T.size
        · have y0 : (k : Int) < (T.size : Int) := by omega
          have y1 : (0 : Int) ≤ (k : Int) := by omega
          by_cases hbad : 2 < T[k].toNat
          · have y2 : (2 : Int) < (T[k].toNat : Int) := by omega
            have HN : Hid (¬ okm (a : Int) (b : Int) T) := Lib.hid (fun ho => by have := HOK.out.2 ho k hlt; omega)
            clear hbad
            go_wp2_with fail
            exact bodyPost_ret (v := .tuple #[.agg #[.int .i64 0, .int .i64 0, .string ⟨#[]⟩], .int .i64 2]) (by simp [results, Try.results35, go_sem, *]) rfl ⟨by unfold newR; rw [if_neg HN.out]; rfl, ext_set (ext_set (ext_set HE.out (Nat.le_refl _) _) (Nat.le_refl _) _) (Nat.le_refl _) _⟩
          · have y2 : ¬ (2 : Int) < (T[k].toNat : Int) := by omega
            have HA2 : Hid (∀ i, (hi : i < T.size) → i < k + 1 → T[i].toNat ≤ 2) := Lib.hid (fun i hi hik => by
              by_cases e : i = k
              · subst e; omega
              · exact HALL.out i hi (by omega))
            clear hbad
            go_wp2_with fail
            go_roundw
            case rel => exact ⟨k + 1, by omega, by go_num, HA2.out, HB.out, HE.out⟩
            case measure => simp [intOf]; omega
        · have y0 : ¬ (k : Int) < (T.size : Int) := by omega
          have HN : Hid (okm (a : Int) (b : Int) T) := Lib.hid (HOK.out.1 (fun i hi => HALL.out i hi (by omega)))
          go_wp2_with fail
          exact bodyPost_ret (v := .tuple #[.agg #[.int .i64 (a : Int), .int .i64 (b : Int), .string T], .int .i64 0]) (by simp [results, Try.results35, go_sem, *]) rfl ⟨by unfold newR; rw [if_pos HN.out]; rfl, ext_set (ext_set (ext_set HE.out (Nat.le_refl _) _) (Nat.le_refl _) _) (Nat.le_refl _) _⟩
    · have z5 : (((T.size : Nat) : Int) != (P : Int)) = true := by simp; omega
      have z6 : (((T.size : Nat) : Int) == (P : Int)) = false := beq_eq_false_iff_ne.2 (by omega)
      have HN : Hid (¬ okm (a : Int) (b : Int) T) := Lib.hid (fun ho => by have := ho.2.2.2.2.1; rw [hP1] at this; omega)
      clear hP hsz
      go_enter Try.func35, Try.ntmps35
      go_wp2_with fail
      exact bodyPost_ret (v := .tuple #[.agg #[.int .i64 0, .int .i64 0, .string ⟨#[]⟩], .int .i64 2]) (by simp [results, Try.results35, go_sem]) rfl ⟨by unfold newR; rw [if_neg HN.out]; rfl, ext_alloc (Ext.rfl' _) _⟩
  · have HN : Hid (¬ okm w h T) := Lib.hid (fun ho => hr ⟨ho.1, ho.2.1, ho.2.2.1, ho.2.2.2.1⟩)
    by_cases r1 : w < 4
    · clear hr
      go_enter Try.func35, Try.ntmps35
      go_wp2_with fail
      exact bodyPost_ret (v := .tuple #[.agg #[.int .i64 0, .int .i64 0, .string ⟨#[]⟩], .int .i64 2]) (by simp [results, Try.results35, go_sem]) rfl ⟨by unfold newR; rw [if_neg HN.out]; rfl, ext_alloc (Ext.rfl' _) _⟩
    · by_cases r2 : 64 < w
      · clear hr
        go_enter Try.func35, Try.ntmps35
        go_wp2_with fail
        exact bodyPost_ret (v := .tuple #[.agg #[.int .i64 0, .int .i64 0, .string ⟨#[]⟩], .int .i64 2]) (by simp [results, Try.results35, go_sem]) rfl ⟨by unfold newR; rw [if_neg HN.out]; rfl, ext_alloc (Ext.rfl' _) _⟩
      · by_cases r3 : h < 4
        · clear hr
          go_enter Try.func35, Try.ntmps35
          go_wp2_with fail
          exact bodyPost_ret (v := .tuple #[.agg #[.int .i64 0, .int .i64 0, .string ⟨#[]⟩], .int .i64 2]) (by simp [results, Try.results35, go_sem]) rfl ⟨by unfold newR; rw [if_neg HN.out]; rfl, ext_alloc (Ext.rfl' _) _⟩
        · have r4 : 64 < h := by omega
          clear hr
          go_enter Try.func35, Try.ntmps35
          go_wp2_with fail
          exact bodyPost_ret (v := .tuple #[.agg #[.int .i64 0, .int .i64 0, .string ⟨#[]⟩], .int .i64 2]) (by simp [results, Try.results35, go_sem]) rfl ⟨by unfold newR; rw [if_neg HN.out]; rfl, ext_alloc (Ext.rfl' _) _⟩
end Go.Proofs.Ytlldmpcamdginaa.Grid
namespace Go.Proofs.Ytlldmpcamdginaa.Map64
open Go.ChangeShapes Go.WideShapes Go.ChangeAt Go.RowKit
set_option linter.unusedVariables false

def Ents (l : List MapEntry) (L : List (Int × Value)) : Prop := l.map (fun e => (e.key, e.val)) = L.map (fun p => (Value.int .i64 (p.1 : Int), p.2)) ∧ (L.map (·.1)).Nodup
/-- Block b is a map; F says what stands at each number. -/
def MapR (w : World) (b : Nat) (F : Int → Option Value) : Prop := ∃ es cl L, w.heap[b]? = some (.map es cl) ∧ Ents es.toList L ∧ ∀ k, F k = L.lookup k
theorem find64 (k : Int) : ∀ (l : List MapEntry) (L : List (Int × Value)) (i : Nat), l.map (fun e => (e.key, e.val)) = L.map (fun p => (Value.int .i64 (p.1 : Int), p.2)) →
    (Instr.findNow (.int .i64) (.int .i64 (k : Int)) l i = some none ∧ L.lookup k = none ∧ k ∉ L.map (·.1)) ∨
    ∃ q v, Instr.findNow (.int .i64) (.int .i64 (k : Int)) l i = some (some (i + q, v)) ∧ L[q]? = some (k, v) ∧ L.lookup k = some v
  | [], [], i, _ => .inl ⟨rfl, rfl, by simp⟩
  | [], _ :: _, _, h => by simp at h
  | _ :: _, [], _, h => by simp at h
  | e :: l, (k', v') :: L, i, h => by
    simp only [List.map_cons, List.cons.injEq, Prod.mk.injEq] at h
    obtain ⟨⟨h1, h2⟩, h3⟩ := h
    by_cases hk : k = k'
    · subst hk
      refine .inr ⟨0, v', ?_, rfl, ?_⟩
      · simp [Instr.findNow, h1, h2, Instr.sameNow]
      · simp [List.lookup]
    · have hne : ((k : Int) == (k' : Int)) = false := beq_eq_false_iff_ne.2 (by omega)
      have hne' : (k == k') = false := beq_eq_false_iff_ne.2 hk
      rcases find64 k l L (i + 1) h3 with ⟨a, b, c⟩ | ⟨q, v, a, b, c⟩
      · refine .inl ⟨?_, ?_, ?_⟩
        · rw [Instr.findNow, h1]; simp only [Instr.sameNow, if_true, hne, a]
        · simp only [List.lookup, hne', b]
        · simp only [List.map_cons, List.mem_cons, not_or]; exact ⟨hk, c⟩
      · refine .inr ⟨q + 1, v, ?_, ?_, ?_⟩
        · rw [Instr.findNow, h1]; simp only [Instr.sameNow, if_true, hne, a]; rw [show i + 1 + q = i + (q + 1) from by omega]
        · rw [List.getElem?_cons_succ, b]
        · simp only [List.lookup, hne', c]
theorem lookup_none {L : List (Int × Value)} {k : Int} (h : k ∉ L.map (·.1)) : L.lookup k = none := by
  induction L with
  | nil => rfl
  | cons p L ih =>
    obtain ⟨k', v'⟩ := p
    simp only [List.map_cons, List.mem_cons, not_or] at h
    simp only [List.lookup, beq_eq_false_iff_ne.2 h.1, ih h.2]
theorem lookup_app {L : List (Int × Value)} {k : Int} {v : Value} (h : k ∉ L.map (·.1)) (x : Int) : (L ++ [(k, v)]).lookup x = if x = k then some v else L.lookup x := by
  induction L with
  | nil => by_cases hx : x = k
           · simp [hx]
           · simp [List.lookup, hx, beq_eq_false_iff_ne.2 hx]
  | cons p L ih =>
    obtain ⟨k', v'⟩ := p
    simp only [List.map_cons, List.mem_cons, not_or] at h
    by_cases hx : x = k'
    · subst hx
      simp [List.lookup, Ne.symm h.1]
    · simp only [List.cons_append, List.lookup, beq_eq_false_iff_ne.2 hx, ih h.2]
theorem lookup_set : ∀ {L : List (Int × Value)} {k : Int} {q : Nat} {u v : Value} (h : (L.map (·.1)).Nodup) (hq : L[q]? = some (k, u)) (x : Int), (L.set q (k, v)).lookup x = if x = k then some v else L.lookup x
  | [], k, q, u, v, h, hq, x => by simp at hq
  | (k', v') :: L, k, 0, u, v, h, hq, x => by
    simp only [List.getElem?_cons_zero, Option.some.injEq, Prod.mk.injEq] at hq
    obtain ⟨rfl, rfl⟩ := hq
    by_cases hx : x = k'
    · simp [hx]
    · simp [List.lookup, hx, beq_eq_false_iff_ne.2 hx]
  | (k', v') :: L, k, q + 1, u, v, h, hq, x => by
    simp only [List.map_cons, List.nodup_cons] at h
    rw [List.getElem?_cons_succ] at hq
    have hne : k' ≠ k := fun e => h.1 (e ▸ List.mem_map_of_mem (f := (·.1)) (List.mem_of_getElem? hq))
    rw [List.set_cons_succ]
    by_cases hx : x = k'
    · subst hx
      simp [List.lookup, hne]
    · simp only [List.lookup, beq_eq_false_iff_ne.2 hx, lookup_set h.2 hq x]
theorem lookup_erase : ∀ {L : List (Int × Value)} {k : Int} {q : Nat} {u : Value} (h : (L.map (·.1)).Nodup) (hq : L[q]? = some (k, u)) (x : Int), (L.eraseIdx q).lookup x = if x = k then none else L.lookup x
  | [], k, q, u, h, hq, x => by simp at hq
  | (k', v') :: L, k, 0, u, h, hq, x => by
    simp only [List.getElem?_cons_zero, Option.some.injEq, Prod.mk.injEq] at hq
    obtain ⟨rfl, rfl⟩ := hq
    simp only [List.map_cons, List.nodup_cons] at h
    by_cases hx : x = k'
    · subst hx
      rw [if_pos rfl]; exact lookup_none h.1
    · simp [List.lookup, hx, beq_eq_false_iff_ne.2 hx]
  | (k', v') :: L, k, q + 1, u, h, hq, x => by
    simp only [List.map_cons, List.nodup_cons] at h
    rw [List.getElem?_cons_succ] at hq
    have hne : k' ≠ k := fun e => h.1 (e ▸ List.mem_map_of_mem (f := (·.1)) (List.mem_of_getElem? hq))
    rw [List.eraseIdx_cons_succ]
    by_cases hx : x = k'
    · subst hx
      simp [List.lookup, hne]
    · simp only [List.lookup, beq_eq_false_iff_ne.2 hx, lookup_erase h.2 hq x]
theorem nodup_set {L : List (Int × Value)} {k : Int} {q : Nat} {u v : Value} (h : (L.map (·.1)).Nodup) (hq : L[q]? = some (k, u)) : ((L.set q (k, v)).map (·.1)).Nodup := by
  have e : (L.set q (k, v)).map (·.1) = L.map (·.1) := by
    apply List.ext_getElem?
    intro j
    rw [List.getElem?_map, List.getElem?_map, List.getElem?_set]
    by_cases hj : q = j
    · subst hj
      rw [if_pos rfl, hq]
      have : q < L.length := (List.getElem?_eq_some_iff.1 hq).1
      simp [this]
    · rw [if_neg hj]
  rw [e]; exact h
/-- The world with another block. -/
def mset (w : World) (b : Nat) (o : Obj) : World := { w with heap := w.heap.setIfInBounds b o }
theorem mset_same {w : World} {b : Nat} {o o' : Obj} (h : w.heap[b]? = some o') : (mset w b o).heap[b]? = some o := by
  have : b < w.heap.size := (Array.getElem?_eq_some_iff.1 h).1
  simp [mset, this]
theorem mset_grown (w : World) (b : Nat) (o : Obj) : w.grownBy (mset w b o) (some b) :=
  ⟨rfl, rfl, rfl, by simp [mset], fun i _ hi => by
    simp only [mset, Array.getElem?_setIfInBounds]
    rw [if_neg (fun e => hi (by rw [e]))]⟩
section
variable {P : Program} {w : World} {b : Nat} {F : Int → Option Value} {t kt e : TypeId}
theorem MapR.new (w : World) : MapR (w.alloc (.map #[] 0)) w.heap.size (fun _ => none) := ⟨#[], 0, [], heap_alloc_new w _, ⟨rfl, List.nodup_nil⟩, fun k => rfl⟩
theorem MapR.kept {w' : World} {row : Option Nat} (h : MapR w b F) (hg : w.grownBy w' row) (hne : some b ≠ row) : MapR w' b F := by
  obtain ⟨es, cl, L, hb, hE, hF⟩ := h
  exact ⟨es, cl, L, (hg.block b (Array.getElem?_eq_some_iff.1 hb).1 hne).trans hb, hE, hF⟩
theorem MapR.lt (h : MapR w b F) : b < w.heap.size := by
  obtain ⟨es, cl, L, hb, hE, hF⟩ := h
  exact (Array.getElem?_eq_some_iff.1 hb).1
theorem run_look (h : MapR w b F) (ht : P.underlying t = some (.map kt e)) (hk : P.underlying kt = some (.int .i64)) {z : Value} (hz : (zeroValue e).run P w = .ok z w) (k : Int) :
    (Instr.lookup t (.map (some b)) (.int .i64 (k : Int)) false).run P w = .ok ((F k).getD z) w := by
  obtain ⟨es, cl, L, hb, ⟨hm, hn⟩, hF⟩ := h
  have hc := MapKept.run_checkKey (w := w) hk (k := .int .i64 (k : Int)) (by simp [MapKept.IsKey]) es.isEmpty 9999
  rcases find64 k es.toList L 0 hm with ⟨h1, h2, h3⟩ | ⟨q, v, h1, h2, h3⟩
  · simp [Instr.lookup, run_underlying ht, MapKept.run_getObj_map hb, hc, Instr.findKey, run_underlying hk, h1, hz, Result.andThen, hF, h2]
  · simp [Instr.lookup, run_underlying ht, MapKept.run_getObj_map hb, hc, Instr.findKey, run_underlying hk, h1, Result.andThen, hF, h3]
theorem run_put (h : MapR w b F) (ht : P.underlying t = some (.map kt e)) (hk : P.underlying kt = some (.int .i64)) (k : Int) (v : Value) :
    ∃ w', (Instr.mapUpdate t (.map (some b)) (.int .i64 (k : Int)) v).run P w = .ok () w' ∧ MapR w' b (fun x => if x = k then some v else F x) ∧ w.grownBy w' (some b) := by
  obtain ⟨es, cl, L, hb, ⟨hm, hn⟩, hF⟩ := h
  have hc := MapKept.run_checkKey (w := w) hk (k := .int .i64 (k : Int)) (by simp [MapKept.IsKey]) false 9999
  rcases find64 k es.toList L 0 hm with ⟨h1, h2, h3⟩ | ⟨q, u, h1, h2, h3⟩
  · refine ⟨mset w b (.map (es.push ⟨.int .i64 (k : Int), v, cl⟩) (cl + 1)), ?_, ⟨_, _, L ++ [(k, v)], mset_same hb, ⟨?_, ?_⟩, ?_⟩, mset_grown w b _⟩
    · simp [Instr.mapUpdate, run_underlying ht, MapKept.run_getObj_map hb, hc, Instr.findKey, run_underlying hk, h1, Result.andThen, MapKept.run_setObj_map _ hb, mset]
    · simp [hm]
    · rw [List.map_append, List.nodup_append]; refine ⟨hn, by simp, ?_⟩
      intro a ha c hc e
      simp only [List.map_cons, List.map_nil, List.mem_cons, List.not_mem_nil, or_false] at hc
      exact h3 (by rw [← hc, ← e]; exact ha)
    · intro x; rw [lookup_app h3, ← hF]
  · have hq := (List.getElem?_eq_some_iff.1 h2).1
    have hq' : q < es.size := by
      have := congrArg List.length hm
      simp only [List.length_map, Array.length_toList] at this
      omega
    have hkq : es[q].key = .int .i64 (k : Int) := by
      have := congrArg (fun l => l[q]?) hm
      simp only [List.getElem?_map, h2, Option.map_some] at this
      rw [List.getElem?_eq_getElem (by simpa using hq')] at this
      simp only [Option.map_some, Option.some.injEq, Prod.mk.injEq] at this
      simpa using this.1
    refine ⟨mset w b (.map (es.modify q fun e => { e with key := .int .i64 (k : Int), val := v }) cl), ?_, ⟨_, _, L.set q (k, v), mset_same hb, ⟨?_, nodup_set hn h2⟩, ?_⟩, mset_grown w b _⟩
    · simp [Instr.mapUpdate, run_underlying ht, MapKept.run_getObj_map hb, hc, Instr.findKey, run_underlying hk, h1, Result.andThen, MapKept.run_setObj_map _ hb, mset, hq', hkq, Instr.keyThatStays, Instr.sameBits]
    · apply List.ext_getElem?
      intro j
      rw [List.getElem?_map, List.getElem?_map, List.getElem?_set, Array.getElem?_toList, Array.getElem?_modify]
      have hj' := congrArg (fun l => l[j]?) hm
      simp only [List.getElem?_map, Array.getElem?_toList] at hj'
      by_cases hj : q = j
      · subst hj
        rw [if_pos rfl, if_pos rfl, if_pos hq]
        simp [hq']
      · rw [if_neg hj, if_neg hj]; exact hj'
    · intro x; rw [lookup_set hn h2, ← hF]
theorem run_del (h : MapR w b F) (ht : P.underlying t = some (.map kt e)) (hk : P.underlying kt = some (.int .i64)) (k : Int) (ats : Array TypeId) (ha : ats[0]? = some t) (ty : TypeId) :
    ∃ w', (Builtin.delete_ ats ty #[.map (some b), .int .i64 (k : Int)]).run P w = .ok (.tuple #[]) w' ∧ MapR w' b (fun x => if x = k then none else F x) ∧ w.grownBy w' (some b) := by
  obtain ⟨es, cl, L, hb, ⟨hm, hn⟩, hF⟩ := h
  have hc := MapKept.run_checkKey (w := w) hk (k := .int .i64 (k : Int)) (by simp [MapKept.IsKey]) es.isEmpty 9999
  rcases find64 k es.toList L 0 hm with ⟨h1, h2, h3⟩ | ⟨q, u, h1, h2, h3⟩
  · refine ⟨mset w b (.map es cl), ?_, ⟨_, _, L, mset_same hb, ⟨hm, hn⟩, ?_⟩, mset_grown w b _⟩
    · simp [Builtin.delete_, ha, run_underlying ht, MapKept.run_getObj_map hb, hc, Instr.findKey, run_underlying hk, h1, Result.andThen, MapKept.run_setObj_map _ hb, mset]
    · intro x
      by_cases hx : x = k
      · simp only [if_pos hx]; rw [hx, h2]
      · simp only [if_neg hx]; exact hF x
  · refine ⟨mset w b (.map (es.eraseIdxIfInBounds q) cl), ?_, ⟨_, _, L.eraseIdx q, mset_same hb, ⟨?_, ?_⟩, ?_⟩, mset_grown w b _⟩
    · simp [Builtin.delete_, ha, run_underlying ht, MapKept.run_getObj_map hb, hc, Instr.findKey, run_underlying hk, h1, Result.andThen, MapKept.run_setObj_map _ hb, mset]
    · rw [show (es.eraseIdxIfInBounds q).toList = es.toList.eraseIdx q from by simp [Array.eraseIdxIfInBounds]; split <;> simp_all [List.eraseIdx_of_length_le]]
      rw [ChangeMaps.map_eraseIdx, ChangeMaps.map_eraseIdx, hm]
    · exact hn.sublist ((List.eraseIdx_sublist L q).map _)
    · intro x; rw [lookup_erase hn h2, ← hF]
theorem MapR.ext {w' : World} (h : MapR w b F) (hg : Ext w w') : MapR w' b F := by
  obtain ⟨es, cl, L, hb, r⟩ := h
  exact ⟨es, cl, L, (hg.block b (Array.getElem?_eq_some_iff.1 hb).1).trans hb, r⟩
theorem MapR.blk {w' : World} (h : MapR w b F) (hg : w'.heap[b]? = w.heap[b]?) : MapR w' b F := by
  obtain ⟨es, cl, L, hb, r⟩ := h
  exact ⟨es, cl, L, hg.trans hb, r⟩
theorem run_look2 (h : MapR w b F) (ht : P.underlying t = some (.map kt e)) (hk : P.underlying kt = some (.int .i64)) {z : Value} (hz : (zeroValue e).run P w = .ok z w) (k : Int) :
    (Instr.lookup t (.map (some b)) (.int .i64 (k : Int)) true).run P w = .ok (.tuple #[(F k).getD z, .bool (F k).isSome]) w := by
  obtain ⟨es, cl, L, hb, ⟨hm, hn⟩, hF⟩ := h
  have hc := MapKept.run_checkKey (w := w) hk (k := .int .i64 (k : Int)) (by simp [MapKept.IsKey]) es.isEmpty 9999
  rcases find64 k es.toList L 0 hm with ⟨h1, h2, h3⟩ | ⟨q, v, h1, h2, h3⟩
  · simp [Instr.lookup, run_underlying ht, MapKept.run_getObj_map hb, hc, Instr.findKey, run_underlying hk, h1, hz, Result.andThen, hF, h2]
  · simp [Instr.lookup, run_underlying ht, MapKept.run_getObj_map hb, hc, Instr.findKey, run_underlying hk, h1, Result.andThen, hF, h3]
/-- How many there are. -/
theorem size_eq {es : Array MapEntry} {L : List (Int × Value)} {I : List Int} (hm : es.toList.map (fun e => (e.key, e.val)) = L.map (fun p => (Value.int .i64 (p.1 : Int), p.2))) (hn : (L.map (·.1)).Nodup) (hF : ∀ k, F k = L.lookup k) (hI : I.Nodup) (hIF : ∀ k, k ∈ I ↔ F k ≠ none) : es.size = I.length := by
  have h1 : es.size = (L.map (·.1)).length := by
    have := congrArg List.length hm
    simpa using this
  rw [h1]
  have hp : (L.map (·.1)).Perm I := (List.perm_ext_iff_of_nodup hn hI).2 (fun k => by
    rw [hIF, hF]
    constructor
    · intro hk hc
      obtain ⟨p, hp, rfl⟩ := List.mem_map.1 hk
      have := List.lookup_eq_none_iff.1 hc p hp
      simp at this
    · intro hc
      by_cases hk : k ∈ L.map (·.1)
      · exact hk
      · exact absurd (lookup_none hk) hc)
  exact hp.length_eq
theorem run_len (h : MapR w b F) (ht : P.underlying t = some (.map kt e)) (ty : TypeId) {I : List Int} (hI : I.Nodup) (hIF : ∀ k, k ∈ I ↔ F k ≠ none) :
    (Builtin.len_ #[t] ty #[.map (some b)]).run P w = .ok (.int .i64 (I.length : Int)) w := by
  obtain ⟨es, cl, L, hb, ⟨hm, hn⟩, hF⟩ := h
  have := size_eq hm hn hF hI hIF
  simp [Builtin.len_, run_underlying ht, MapKept.run_getObj_map hb, goInt, this]
variable {et : TypeId} {ops : Array Oper} {rest : List Oper} {o : Oper} {a : Act} {Q : Exit → Act → World → Prop}
theorem wpList_look (hw : Region.wanted o (yielded ops a.tmps) = true) (m x : Operand) (hop : o.op = Op.lookup t m x false) (ht : P.underlying t = some (.map kt et)) (hk : P.underlying kt = some (.int .i64)) {z : Value} (hz : (zeroValue et).run P w = .ok z w)
    (hm : a.eval m = .map (some b)) (h : MapR w b F) (k : Int) (hx : a.eval x = .int .i64 (k : Int)) (v : Value) (hv : (F k).getD z = v) (hK : wpList P ops Q rest (a.put o.dst v) w) : wpList P ops Q (o :: rest) a w := by
  refine BigFrame.wpList_want hw fun K' hK' => ?_
  have hrun := run_look (P := P) h ht hk hz k
  rw [hv] at hrun
  unfold Oper.wp
  simp [execOp, hop, hm, hx, hrun, Result.andThen]
  exact hK' _ _ hK
theorem wpList_look2 (hg : o.guard = none) (m x : Operand) (hop : o.op = Op.lookup t m x true) (ht : P.underlying t = some (.map kt et)) (hk : P.underlying kt = some (.int .i64)) {z : Value} (hz : (zeroValue et).run P w = .ok z w)
    (hm : a.eval m = .map (some b)) (h : MapR w b F) (k : Int) (hx : a.eval x = .int .i64 (k : Int)) (v : Value) (c : Bool) (hv : (F k).getD z = v) (hc : (F k).isSome = c) (hK : wpList P ops Q rest (a.put o.dst (.tuple #[v, .bool c])) w) : wpList P ops Q (o :: rest) a w := by
  refine wpList_plain hg fun K' hK' => ?_
  have hrun := run_look2 (P := P) h ht hk hz k
  rw [hv, hc] at hrun
  unfold Oper.wp
  simp [execOp, hop, hm, hx, hrun, Result.andThen]
  exact hK' _ _ hK
theorem wpList_len (hw : Region.wanted o (yielded ops a.tmps) = true) (m : Operand) (hop : o.op = .call { callee := .builtin .len, args := #[m], argTypes := #[t] }) (ht : P.underlying t = some (.map kt et))
    (hm : a.eval m = .map (some b)) (h : MapR w b F) (I : List Int) (hI : I.Nodup) (hIF : ∀ k, k ∈ I ↔ F k ≠ none) (n : Nat) (hn : I.length = n) (hK : wpList P ops Q rest (a.put o.dst (.int .i64 (n : Int))) w) : wpList P ops Q (o :: rest) a w := by
  refine BigFrame.wpList_want hw fun K' hK' => ?_
  have hrun := run_len (P := P) h ht o.type hI hIF
  rw [hn] at hrun
  unfold Oper.wp execOp
  simp only [hop, resolve, invoke, builtin, Sem.run_bind, Sem.run_pure, Result.andThen_ok, List.map_toArray, List.map_cons, List.map_nil, hm, hrun]
  exact hK' _ _ hK
theorem wpList_put (hg : o.guard = none) (m x v : Operand) (hop : o.op = Op.mapUpdate t m x v) (ht : P.underlying t = some (.map kt et)) (hk : P.underlying kt = some (.int .i64))
    (hm : a.eval m = .map (some b)) (h : MapR w b F) (k : Int) (val : Value) (hx : a.eval x = .int .i64 (k : Int)) (hv : a.eval v = val)
    (hK : ∀ w', MapR w' b (fun x => if x = k then some val else F x) → w.grownBy w' (some b) → wpList P ops Q rest (a.put o.dst undef) w') : wpList P ops Q (o :: rest) a w := by
  refine wpList_plain hg fun K' hK' => ?_
  obtain ⟨w', hrun, r1, r2⟩ := run_put (P := P) h ht hk k val
  unfold Oper.wp
  simp [execOp, hop, hm, hx, hv, hrun, Result.andThen]
  exact hK' _ _ (hK w' r1 r2)
theorem wpList_del (hg : o.guard = none) (m x : Operand) (tk : TypeId) (hop : o.op = .call { callee := .builtin .delete, args := #[m, x], argTypes := #[t, tk] }) (ht : P.underlying t = some (.map kt et)) (hk : P.underlying kt = some (.int .i64))
    (hm : a.eval m = .map (some b)) (h : MapR w b F) (k : Int) (hx : a.eval x = .int .i64 (k : Int))
    (hK : ∀ w', MapR w' b (fun x => if x = k then none else F x) → w.grownBy w' (some b) → wpList P ops Q rest (a.put o.dst (.tuple #[])) w') : wpList P ops Q (o :: rest) a w := by
  refine wpList_plain hg fun K' hK' => ?_
  obtain ⟨w', hrun, r1, r2⟩ := run_del (P := P) h ht hk k #[t, tk] rfl o.type
  unfold Oper.wp execOp
  simp only [hop, resolve, invoke, builtin, Sem.run_bind, Sem.run_pure, Result.andThen_ok, List.map_toArray, List.map_cons, List.map_nil, hm, hx, hrun]
  exact hK' _ _ (hK w' r1 r2)
end
end Go.Proofs.Ytlldmpcamdginaa.Map64
