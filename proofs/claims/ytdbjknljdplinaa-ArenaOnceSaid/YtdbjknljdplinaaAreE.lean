/- Contracts of package arena: Ids. -/
import Derived.Test.YtdbjknljdplinaaAreD
import Derived.Test.YtdbjknljdplinaaApp
namespace Go.Proofs.Ytdbjknljdplinaa.Arena
open Go.ChangeShapes Go.WideShapes Go.ChangeAt Go.RowKit
set_option linter.unusedVariables false

def u16s (zs : List Nat) : List Value := zs.map fun (z : Nat) => Value.int .u16 (z : Int)
theorem u16s_app (xs ys : List Nat) : u16s (xs ++ ys) = u16s xs ++ u16s ys := by simp [u16s]
theorem info16 : (Try.prog.info? 43).map (fun i => (i.zero, i.size, i.bytes)) = some (some (.int .u16 0), 1, 2) := by kernel_rfl
theorem src16 (w : World) (y : Nat) : Src Try.prog 1 99 (.slice (some ⟨w.heap.size, 0, none⟩) 1 1) [y].length (u16s [y]) (w.alloc (.cells #[.int .u16 (y : Int)] 43)) :=
  Src.ofSlice (w.alloc (.cells #[.int .u16 (y : Int)] 43)) Try.underlying99 ⟨w.heap.size, 0, none⟩ [y].length 1 (u16s [y]) rfl (fun j u hj => by
    match j, hj with
    | 0, hj => simp [u16s] at hj; subst hj; simp [Addr.add]) (fun u hu => by simp [u16s] at hu; subst hu; rfl)
/-- The ids of the first slots. -/
def idk (g : Nat → Nat) (t : Nat → Bool) (k : Nat) : List Nat := ((List.range k).filter t).map fun i => i + 128 * g i
theorem idk_yes {g : Nat → Nat} {t : Nat → Bool} {k : Nat} (h : t k = true) : idk g t (k + 1) = idk g t k ++ [k + 128 * g k] := by
  unfold idk; rw [List.range_succ, List.filter_append]; simp [h]
theorem idk_no {g : Nat → Nat} {t : Nat → Bool} {k : Nat} (h : t k = false) : idk g t (k + 1) = idk g t k := by
  unfold idk; rw [List.range_succ, List.filter_append]; simp [h]
theorem idk_len (g : Nat → Nat) (t : Nat → Bool) (k : Nat) : (idk g t k).length ≤ k := by
  unfold idk; rw [List.length_map]; have := List.length_filter_le t (List.range k); rwa [List.length_range] at this
def Row16 (base : Nat) (w : World) (v : Value) (zs : List Nat) : Prop := w.ownsRow base 43 1 v zs.length (u16s zs)
theorem Row16.ext {base : Nat} {w w' : World} {v : Value} {zs : List Nat} (h : Row16 base w v zs) (e : Ext w w') : Row16 base w' v zs := by
  rcases h with ⟨hl, hq | ⟨g, cap, cur, hv, hb, hg, hr⟩⟩
  · exact ⟨hl, .inl hq⟩
  · exact ⟨hl, .inr ⟨g, cap, cur, hv, hb, (e.block g (Array.getElem?_eq_some_iff.1 hg).1).trans hg, hr⟩⟩
def IdPost (w : World) (zs : List Nat) (e : Ending) (w' : World) : Prop := ∃ v, e = .returned v ∧ Row16 w.heap.size w' v zs ∧ Ext w w'
def IdRel (w : World) (n0 : Nat) (g : Nat → Nat) (t : Nat → Bool) (CS : Array Value) (ov iv : Value) (wr : World) : Prop :=
  ∃ k : Nat, k ≤ 128 ∧ iv = .int .i64 ((k : Nat) : Int) ∧ Row16 (n0 + 1) wr ov (idk g t k) ∧ Blk wr n0 78 CS ∧ Ext w wr
theorem blk_grown {w w' : World} {g : Nat} {t : TypeId} {cs : Array Value} (h : Blk w g t cs) {row : Option Nat} (hg : w.grownBy w' row) (hne : row ≠ some g) : Blk w' g t cs :=
  (hg.block g h.lt (fun e => hne e.symm)).trans h
theorem row_low {base base' : Nat} {w : World} {v : Value} {zs : List Nat} (h : Row16 base w v zs) (hb : base' ≤ base) : Row16 base' w v zs := by
  rcases h with ⟨hl, hq | ⟨g, cap, cur, hv, hb2, hr⟩⟩
  · exact ⟨hl, .inl hq⟩
  · exact ⟨hl, .inr ⟨g, cap, cur, hv, Nat.le_trans hb hb2, hr⟩⟩
set_option maxHeartbeats 4000000 in
set_option maxRecDepth 100000 in
theorem ids (g : Nat → Nat) (t : Nat → Bool) (x : Nat → Int) (w : World) (hg : ∀ i, i < 128 → t i = true → g i ≤ 511) :
    Calls Try.prog 59 #[.agg (cA g t x)] w (IdPost w (idk g t 128)) := by
  have HG := Lib.hid hg
  clear hg
  obtain ⟨i0, hi0, hz0, hz1, hz2⟩ := info_parts info16
  have HI := Lib.hid (And.intro hi0 (And.intro hz0 (And.intro hz1 hz2))); clear hi0 hz0 hz1 hz2
  obtain ⟨CS, hCS⟩ : ∃ CS, CS = cA g t x := ⟨_, rfl⟩
  have HT : Hid (∀ k, k < 128 → CS[k * 3 + 1]? = some (.bool (t k))) := Lib.hid (fun k hk => by rw [hCS]; exact cA_t hk)
  have HC : Hid (∀ k, k < 128 → CS[k * 3]? = some (.int .u16 ((g k : Nat) : Int))) := Lib.hid (fun k hk => by rw [hCS]; exact cA_g hk)
  rw [← hCS]
  clear hCS
  go_enter Try.func59, Try.ntmps59
  go_wp2_with fail
  have HR0 : Hid (IdRel w w.heap.size g t CS (.slice none 0 0) (.int .i64 0) (w.alloc (.cells CS 78))) := Lib.hid ⟨0, by omega, rfl, World.ownsRow_nil _ _ _ _, Blk.new _ _ _, ext_alloc (Ext.rfl' w) _⟩
  go_loopw [3, 6] (fun ov iv wr => IdRel w w.heap.size g t CS ov iv wr) (fun _ iv _ => 128 - (intOf iv).toNat)
  case atStart => exact HR0.out
  case round =>
    obtain ⟨k, hk, rfl, hR, hB, hE⟩ := hrel
    obtain ⟨wi, rfl⟩ : ∃ wi : World, wi = wr := ⟨_, rfl⟩
    have HR := Lib.hid hR; have HB := Lib.hid hB; have HE := Lib.hid hE
    have hbs := hB.lt
    clear hR hB hE HR0
    by_cases hlt : k < 128
    · have q1 : (0 : Int) ≤ (k : Int) := by omega
      have q2 : (k : Int) < 128 := by omega
      have c0 := (HB.out.cell (k * 3)).trans (HC.out k hlt)
      have c1 := (HB.out.cell (k * 3 + 1)).trans (HT.out k hlt)
      cases htk : t k with
      | false =>
        have HL := Lib.hid (idk_no (g := g) htk)
        rw [htk] at c1
        clear htk c0
        go_wp2_with fail
        go_roundw
        case rel => exact ⟨k + 1, by omega, by go_num, by rw [HL.out]; exact HR.out, HB.out, HE.out⟩
        case measure => simp [intOf]; omega
      | true =>
        have hgk := HG.out k hlt htk
        have HL := Lib.hid (idk_yes (g := g) htk)
        have hll := idk_len g t k
        rw [htk] at c1
        clear htk
        generalize g k = n at c0 hgk HL
        obtain ⟨y, hy⟩ : ∃ y, y = k + 128 * n := ⟨_, rfl⟩
        rw [← hy] at HL
        have r2 : IntKind.u16.wrap (128 * (n : Int)) = 128 * (n : Int) := IntWalk.u16_in _ (by omega)
        have r3 : IntKind.u16.wrap ((k : Int) + 128 * (n : Int)) = (k : Int) + 128 * (n : Int) := IntWalk.u16_in _ (by omega)
        have r4 : (k : Int) + 128 * (n : Int) = (y : Int) := by omega
        have hy2 : y ≤ 65535 := by omega
        have HSR := Lib.hid (src16 wi y)
        have HXE := Lib.hid (ext_alloc (Ext.rfl' wi) (.cells #[.int .u16 (y : Int)] 43))
        have HR1 := Lib.hid (HR.out.ext HXE.out); have HB1 := Lib.hid (HB.out.ext HXE.out); have HE1 := Lib.hid (ext_trans HE.out HXE.out)
        have hsz1 : w.heap.size + 1 ≤ (wi.alloc (.cells #[.int .u16 (y : Int)] 43)).heap.size := by simp; omega
        have HSZ := Lib.hid hsz1
        generalize idk g t k = L at HR1 HL hll HR ⊢
        clear hy hsz1
        go_wp2_with (at_builtin; refine wpList_app_own rfl (.tmp 16) (.tmp 25) 99 99 rfl 43 i0 (.int .u16 0) 1 2 Try.underlying99 HI.out.1 HI.out.2.1 HI.out.2.2.1 HI.out.2.2.2 rfl (w.heap.size + 1) _ _ L.length (u16s L) rfl rfl HR1.out [y].length (u16s [y]) HSR.out (by unfold maxLen; simp; try omega) (by simp; try omega) HSZ.out ?_; intro v9 w9 hown9 hgr9; have HO9 := Lib.hid hown9; have HG9 := Lib.hid hgr9; clear hown9 hgr9)
        have hnb := own_ge HR1.out
        have HR9 : Hid (Row16 (w.heap.size + 1) w9 v9 (idk g t (k + 1))) := Lib.hid (by rw [HL.out]; unfold Row16; rw [List.length_append, u16s_app]; exact HO9.out)
        have HB9 := Lib.hid (blk_grown HB1.out HG9.out (fun e => by have := hnb _ e; omega))
        have HE9 := Lib.hid (ext_grown HE1.out HG9.out (fun n e => by have := hnb _ e; omega))
        clear hnb HO9 HG9
        go_roundw
        case rel => exact ⟨k + 1, by omega, by go_num, HR9.out, HB9.out, HE9.out⟩
        case measure => simp [intOf]; omega
    · obtain rfl : k = 128 := by omega
      go_wp2_with fail
      go_ret
      exact ⟨_, rfl, row_low HR.out (by omega), HE.out⟩
end Go.Proofs.Ytdbjknljdplinaa.Arena
