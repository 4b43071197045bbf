/- Two rows are the same; the known map. -/
import Derived.Test.YtdbjknljdplinaaGrdJ
namespace Go.Proofs.Ytdbjknljdplinaa.Grid
open Go.ChangeShapes Go.WideShapes Go.ChangeAt Go.RowKit Go.Shelf
set_option linter.unusedVariables false

/-- A slice reads as these numbers. -/
def Ns (w : World) (A : Option Addr) (n : Nat) (zs : List Nat) : Prop :=
  zs.length = n ∧ (0 < n → ∃ b o, A = some ⟨b, o, none⟩ ∧ b < w.heap.size ∧ ∀ j, j < n → w.cell? ⟨b, o + j, none⟩ = some (.int .i64 ((zs.getD j 0 : Nat) : Int)))
theorem Ns.ext {w w' : World} {A : Option Addr} {n : Nat} {zs : List Nat} (h : Ns w A n zs) (e : Ext w w') : Ns w' A n zs :=
  ⟨h.1, fun hn => by
    obtain ⟨b, o, he, hl, hc⟩ := h.2 hn
    exact ⟨b, o, he, Nat.lt_of_lt_of_le hl e.size, fun j hj => (e.cell (p := ⟨b, o + j, none⟩) hl).trans (hc j hj)⟩⟩
theorem Row.ns {W w : World} {A : Option Addr} {n c : Nat} {zs : List Nat} (h : Row W w (.slice A n c) zs) : n = zs.length ∧ Ns w A zs.length zs := by
  have hl : (nums zs).length = zs.length := by simp [nums]
  rcases h.2 with ⟨hv, hq⟩ | ⟨g, cap, cur, hv, hb, hg, h1, h2, h3, h4⟩
  · obtain ⟨h1, h2, h3⟩ := Value.slice.inj hv
    have hz : zs.length = 0 := hq
    exact ⟨by omega, rfl, fun h0 => by omega⟩
  · obtain ⟨e1, e2, e3⟩ := Value.slice.inj hv
    refine ⟨e2, rfl, fun h0 => ⟨g, 0, e1, (Array.getElem?_eq_some_iff.1 hg).1, fun j hj => ?_⟩⟩
    rw [Nat.zero_add, cell_of_row w g j cur _ (0, 0) hg]
    have := congrArg (fun l => l[j]?) h4
    rw [Nat.mul_one] at this
    simp only [List.getElem?_take, if_pos hj] at this
    rw [← Array.getElem?_toList, this]
    simp [nums, List.getD_eq_getElem?_getD, List.getElem?_eq_getElem hj]
def SmRel (w : World) (zs : List Nat) (iv : Value) (wr : World) : Prop := ∃ k : Nat, k ≤ zs.length ∧ iv = .int .i64 (k : Int) ∧ Ext w wr
set_option maxHeartbeats 4000000 in
set_option maxRecDepth 100000 in
theorem same_yes (A B : Option Addr) (c c2 : Nat) (zs : List Nat) (w : World) (hA : Ns w A zs.length zs) (hB : Ns w B zs.length zs) (hn : zs.length ≤ 5000) :
    Calls Try.prog 46 #[.slice A zs.length c, .slice B zs.length c2] w fun e w' => e = .returned (.bool true) ∧ Ext w w' := by
  have HA := Lib.hid hA; have HB := Lib.hid hB; clear hA hB
  go_enter Try.func46, Try.ntmps46
  go_wp2_with fail
  go_loopw [5] (fun iv wr => SmRel w zs iv wr) (fun iv _ => zs.length - (intOf iv).toNat)
  case atStart => exact ⟨0, Nat.zero_le _, rfl, Ext.rfl' _⟩
  case round =>
    obtain ⟨k, hk, rfl, hE⟩ := hrel
    have HE := Lib.hid hE
    by_cases hlt : k < zs.length
    · obtain ⟨b1, o1, rfl, _, h1⟩ := (HA.out.ext hE).2 (by omega)
      obtain ⟨b2, o2, rfl, _, h2⟩ := (HB.out.ext hE).2 (by omega)
      have c1 := h1 k hlt
      have c2' := h2 k hlt
      clear h1 h2 hE
      generalize zs.getD k 0 = z at *
      have y0 : (k : Int) < (zs.length : Int) := by omega
      have y1 : (0 : Int) ≤ (k : Int) := by omega
      go_wp2_with fail
      go_quiet (fail)
      go_wp2_with fail
      go_roundw
      case rel => exact ⟨k + 1, by omega, by go_num, ext_drewN HE.out _⟩
      case measure => simp [intOf]; omega
    · have y0 : ¬ (k : Int) < (zs.length : Int) := by omega
      clear hE
      go_wp2_with fail
      go_ret
      exact ⟨rfl, HE.out⟩
end Go.Proofs.Ytdbjknljdplinaa.Grid
