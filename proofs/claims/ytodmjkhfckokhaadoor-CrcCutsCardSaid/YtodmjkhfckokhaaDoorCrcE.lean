/- The table of halves, read; slices of bytes, opened. -/
import Derived.Test.YtodmjkhfckokhaaDoorCrcD
import Derived.LaidMore
import Derived.LaidLaws
import Derived.Lib.LaidTab
import Derived.ProofKit
import Derived.OpenShut
import Derived.ShutString
import Derived.ChangeOld
namespace Go.Proofs.YtodmjkhfckokhaaDoor.Crc
open Go.ChangeShapes Go.WideShapes Go.ChangeAt Go.RowKit
set_option linter.unusedVariables false

theorem gHalves : Tryd.prog.globalNamed "rematch/crc.halves" = some 0 := by kernel_rfl
theorem gHalvesType : (Tryd.prog.globals[0]?).map (·.type) = some 32 := by kernel_rfl
theorem cellsTab : Tryd.prog.cellsOf 32 = 16 := by kernel_rfl
theorem cellsU32 : Tryd.prog.cellsOf 24 = 1 := by kernel_rfl
theorem at_of {H : Type} {xs : List (DataW H × List MemPlace)} {l : List (DataW H)} {i : Nat} {d : DataW H} (hd : l = xs.map (·.1)) (hi : l[i]? = some d) : ∃ q, xs[i]? = some (d, q) := by
  rw [hd, List.getElem?_map, Option.map_eq_some_iff] at hi
  obtain ⟨⟨a, q⟩, hy, rfl⟩ := hi
  exact ⟨q, hy⟩
theorem one_of {cs : List Value} {i : Nat} {v : Value} (h : (cs.drop i).take 1 = [v]) : cs[i]? = some v := by
  have := congrArg (·[0]?) h
  simpa [List.getElem?_take, List.getElem?_drop] using this
theorem tab_of {W : World} (h : laidMetH Tryd.prog Rows.crcSumsRow.laid W) : Tab W := by
  obtain ⟨ps, ⟨g', t', cs, fuel, p, q, hg', ht', hvar, hd, _, _⟩, _⟩ := (show laidMet Tryd.prog Rows.crcSumsRow.laid W from h)
  obtain rfl := Option.some.inj (gHalves.symm.trans hg')
  obtain rfl := Option.some.inj (gHalvesType.symm.trans ht')
  obtain ⟨cs⟩ := cs
  obtain ⟨xs, n, rfl, hx, hl, hxl, hf⟩ := DataW.trod_array (cs := cs) Tryd.underlying32 hd
  rw [cellsTab] at hl
  rw [cellsU32] at hf
  simp only [Rows.laid_rematch_crc_halves, Prod.mk.injEq, DataW.agg.injEq] at hx
  have hd2 := hx.1
  intro i hi
  have hcell := World.var?_cell gHalves hvar i
  have key : ∃ q, xs[i]? = some (.lit (.int .u32 ((hw i).toNat : Int)), q) := by
    have : i = 0 ∨ i = 1 ∨ i = 2 ∨ i = 3 ∨ i = 4 ∨ i = 5 ∨ i = 6 ∨ i = 7 ∨ i = 8 ∨ i = 9 ∨ i = 10 ∨ i = 11 ∨ i = 12 ∨ i = 13 ∨ i = 14 ∨ i = 15 := by omega
    rcases this with rfl | rfl | rfl | rfl | rfl | rfl | rfl | rfl | rfl | rfl | rfl | rfl | rfl | rfl | rfl | rfl <;> exact at_of hd2 rfl
  obtain ⟨q2, hq⟩ := key
  have h2 := hf i hi
  rw [hq, Nat.mul_one] at h2
  obtain ⟨z, hc, he, _⟩ := DataW.trod_int Tryd.underlying24 h2
  simp only [Prod.mk.injEq, DataW.lit.injEq, Lit.int.injEq, true_and] at he
  have hz : z = ((hw i).toNat : Int) := by simpa using he.1.symm
  subst hz
  rw [hcell]
  have := one_of hc
  simpa using this
/-- A slice of bytes that came in. -/
def IsRow (w : World) (a : Option Addr) (len cap : Nat) (zs : List Int) : Prop :=
  (a = none ∧ len = 0 ∧ cap = 0 ∧ zs = []) ∨
  ∃ x, a = some x ∧ len ≤ cap ∧ cap ≤ maxLen ∧ zs.length = cap ∧ (∀ i, i < zs.length → w.cell? (x.add i) = some (.int .u8 (zs.getD i 0))) ∧ ∀ n ∈ zs, (Lit.int .u8 n).wf = true
theorem rd_of_row {w : World} {a : Option Addr} {len cap : Nat} {zs : List Int} (h : IsRow w a len cap zs) : ∃ xs, Rd w a len xs := by
  rcases h with ⟨rfl, rfl, rfl, rfl⟩ | ⟨x, rfl, hl, hm, hz, hcell, hwz⟩
  · exact ⟨[], rd_nil w⟩
  · have bd : ∀ j, 0 ≤ zs.getD j 0 ∧ zs.getD j 0 ≤ 255 := fun j => by
      rw [List.getD_eq_getElem?_getD]
      by_cases hj : j < zs.length
      · rw [List.getElem?_eq_getElem hj]
        have := bounds_u8 (hwz _ (List.getElem_mem hj))
        simp only [Option.getD_some]; omega
      · rw [List.getElem?_eq_none (by omega)]; simp
    have gd : ∀ j, j < len → ((zs.take len).map Int.toNat).getD j 0 = (zs.getD j 0).toNat := fun j hj => by
      simp [List.getD_eq_getElem?_getD, hj, List.getElem?_eq_getElem (show j < zs.length by omega)]
    refine ⟨(zs.take len).map Int.toNat, by simp; omega, fun j => ?_, fun hn => ?_⟩
    · by_cases hj : j < len
      · rw [gd j hj]; have := bd j; omega
      · rw [List.getD_eq_getElem?_getD, List.getElem?_eq_none (by simp; omega)]; simp
    · obtain ⟨b, o, spot⟩ := x
      have hspot : spot = none := by
        have := hcell 0 (by omega)
        simpa [Addr.add] using World.cell?_spot this
      subst hspot
      have hadd : ∀ j, (⟨b, o, none⟩ : Addr).add j = ⟨b, o + j, none⟩ := fun j => by unfold Addr.add; split <;> simp_all
      have c0 := hcell 0 (by omega)
      rw [hadd] at c0
      refine ⟨b, o, rfl, World.block_lt_of_cell? w _ c0, fun j hj => ?_⟩
      have := hcell j (by omega)
      rw [hadd] at this
      rw [this, gd j hj, Int.toNat_of_nonneg (bd j).1]
end Go.Proofs.YtodmjkhfckokhaaDoor.Crc
