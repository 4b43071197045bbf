/- The table of kinds: what its cells hold; the contract of rules.Of. -/
import Derived.Test.YtdbjknljdplinaaDoorRows
import Derived.Test.YtdbjknljdplinaaDoorBase
import Derived.LaidLaws
import Derived.Lib.LaidTab
namespace Go.Proofs.YtdbjknljdplinaaDoor.Rul
open Go.ChangeShapes Go.WideShapes Go.ChangeAt Go.RowKit
set_option linter.unusedVariables false

theorem gKinds : Tryd.prog.globalNamed "rematch/rules.kinds" = some 0 := by kernel_rfl
theorem gKindsType : (Tryd.prog.globals[0]?).map (·.type) = some 31 := by kernel_rfl
theorem cellsTab : Tryd.prog.cellsOf 31 = 66 := by kernel_rfl
theorem cellsRule : Tryd.prog.cellsOf 23 = 11 := by kernel_rfl
theorem cellsInt : Tryd.prog.cellsOf 3 = 1 := by kernel_rfl
theorem cellsU8 : Tryd.prog.cellsOf 5 = 1 := by kernel_rfl
theorem cellsBool : Tryd.prog.cellsOf 4 = 1 := by kernel_rfl
section
variable {H : Type} {enc : TypeId × Value → H} {w : World} {base : Nat} {sp : Nat → Bool} {held : Bool}
theorem one_of {cs : List Value} {i : Nat} {v : Value} (h : (cs.drop i).take 1 = [v]) : cs[i]? = some v := by
  have := congrArg (·[0]?) h
  simpa [List.getElem?_take, List.getElem?_drop] using this
/-- The cells of a rule that reads as this datum. -/
theorem row_cells {fuel : Nat} {cs : List Value} {a0 a1 a2 a3 a4 a5 a6 a7 a8 m : Int} {b : Bool} {p : List MemPlace}
    (h : DataW.trod enc Tryd.prog w base sp held fuel 23 cs = some (.agg [.lit (.int .i64 a0), .lit (.int .i64 a1), .lit (.int .i64 a2), .lit (.int .i64 a3), .lit (.int .i64 a4), .lit (.int .i64 a5), .lit (.int .i64 a6), .lit (.int .i64 a7), .lit (.int .i64 a8), .lit (.int .u8 m), .lit (.bool b)], p)) :
    cs = [.int .i64 a0, .int .i64 a1, .int .i64 a2, .int .i64 a3, .int .i64 a4, .int .i64 a5, .int .i64 a6, .int .i64 a7, .int .i64 a8, .int .u8 m, .bool b] := by
  obtain ⟨xs, n, rfl, hx, hl, hxl, hf⟩ := DataW.trod_struct Tryd.underlying23 h
  rw [cellsRule] at hl
  simp only [Prod.mk.injEq, DataW.agg.injEq] at hx
  have hd := hx.1
  have fi : ∀ (i : Nat) (a : Int) (f : Field), xs[i]? = xs[i]? → (xs.map (·.1))[i]? = some (.lit (.int .i64 a)) → DataW.trod enc Tryd.prog w base sp held n 3 ((cs.drop i).take 1) = xs[i]? → cs[i]? = some (.int .i64 a) := by
    intro i a f _ h1 h2
    obtain ⟨y, hy, hya⟩ : ∃ y, xs[i]? = some y ∧ y.1 = .lit (.int .i64 a) := by simpa using h1
    rw [hy] at h2
    obtain ⟨z, hc, rfl, _⟩ := DataW.trod_int Tryd.underlying3 h2
    simp only [DataW.lit.injEq, Lit.int.injEq, true_and] at hya
    subst hya
    exact one_of hc
  have k : ∀ i : Nat, (xs.map (·.1))[i]? = ([.lit (.int .i64 a0), .lit (.int .i64 a1), .lit (.int .i64 a2), .lit (.int .i64 a3), .lit (.int .i64 a4), .lit (.int .i64 a5), .lit (.int .i64 a6), .lit (.int .i64 a7), .lit (.int .i64 a8), .lit (.int .u8 m), .lit (.bool b)] : List (DataW H))[i]? := fun i => by rw [← hd]
  have c0 := fi 0 a0 default rfl (k 0) (by have := (show DataW.trod enc Tryd.prog w base sp held n 3 ((cs.drop 0).take (Tryd.prog.cellsOf 3)) = xs[0]? from hf 0 _ rfl); rwa [cellsInt] at this)
  have c1 := fi 1 a1 default rfl (k 1) (by have := (show DataW.trod enc Tryd.prog w base sp held n 3 ((cs.drop 1).take (Tryd.prog.cellsOf 3)) = xs[1]? from hf 1 _ rfl); rwa [cellsInt] at this)
  have c2 := fi 2 a2 default rfl (k 2) (by have := (show DataW.trod enc Tryd.prog w base sp held n 3 ((cs.drop 2).take (Tryd.prog.cellsOf 3)) = xs[2]? from hf 2 _ rfl); rwa [cellsInt] at this)
  have c3 := fi 3 a3 default rfl (k 3) (by have := (show DataW.trod enc Tryd.prog w base sp held n 3 ((cs.drop 3).take (Tryd.prog.cellsOf 3)) = xs[3]? from hf 3 _ rfl); rwa [cellsInt] at this)
  have c4 := fi 4 a4 default rfl (k 4) (by have := (show DataW.trod enc Tryd.prog w base sp held n 3 ((cs.drop 4).take (Tryd.prog.cellsOf 3)) = xs[4]? from hf 4 _ rfl); rwa [cellsInt] at this)
  have c5 := fi 5 a5 default rfl (k 5) (by have := (show DataW.trod enc Tryd.prog w base sp held n 3 ((cs.drop 5).take (Tryd.prog.cellsOf 3)) = xs[5]? from hf 5 _ rfl); rwa [cellsInt] at this)
  have c6 := fi 6 a6 default rfl (k 6) (by have := (show DataW.trod enc Tryd.prog w base sp held n 3 ((cs.drop 6).take (Tryd.prog.cellsOf 3)) = xs[6]? from hf 6 _ rfl); rwa [cellsInt] at this)
  have c7 := fi 7 a7 default rfl (k 7) (by have := (show DataW.trod enc Tryd.prog w base sp held n 3 ((cs.drop 7).take (Tryd.prog.cellsOf 3)) = xs[7]? from hf 7 _ rfl); rwa [cellsInt] at this)
  have c8 := fi 8 a8 default rfl (k 8) (by have := (show DataW.trod enc Tryd.prog w base sp held n 3 ((cs.drop 8).take (Tryd.prog.cellsOf 3)) = xs[8]? from hf 8 _ rfl); rwa [cellsInt] at this)
  have c9 : cs[9]? = some (.int .u8 m) := by
    obtain ⟨y, hy, hya⟩ : ∃ y, xs[9]? = some y ∧ y.1 = .lit (.int .u8 m) := by simpa using k 9
    have h2 := (show DataW.trod enc Tryd.prog w base sp held n 5 ((cs.drop 9).take (Tryd.prog.cellsOf 5)) = xs[9]? from hf 9 _ rfl)
    rw [cellsU8, hy] at h2
    obtain ⟨z, hc, rfl, _⟩ := DataW.trod_int Tryd.underlying5 h2
    simp only [DataW.lit.injEq, Lit.int.injEq, true_and] at hya
    subst hya
    exact one_of hc
  have c10 : cs[10]? = some (.bool b) := by
    obtain ⟨y, hy, hya⟩ : ∃ y, xs[10]? = some y ∧ y.1 = .lit (.bool b) := by simpa using k 10
    have h2 := (show DataW.trod enc Tryd.prog w base sp held n 4 ((cs.drop 10).take (Tryd.prog.cellsOf 4)) = xs[10]? from hf 10 _ rfl)
    rw [cellsBool, hy] at h2
    obtain ⟨z, hc, rfl⟩ := DataW.trod_bool Tryd.underlying4 h2
    simp only [DataW.lit.injEq, Lit.bool.injEq] at hya
    subst hya
    exact one_of hc
  apply List.ext_getElem?
  intro i
  match i with
  | 0 => rw [c0]; rfl
  | 1 => rw [c1]; rfl
  | 2 => rw [c2]; rfl
  | 3 => rw [c3]; rfl
  | 4 => rw [c4]; rfl
  | 5 => rw [c5]; rfl
  | 6 => rw [c6]; rfl
  | 7 => rw [c7]; rfl
  | 8 => rw [c8]; rfl
  | 9 => rw [c9]; rfl
  | 10 => rw [c10]; rfl
  | (j + 11) => rw [List.getElem?_eq_none (by omega)]; rfl
end
/-- The rules, row by row, as memory has them. -/
def tab : List Value := [.int .i64 0, .int .i64 0, .int .i64 0, .int .i64 0, .int .i64 0, .int .i64 0, .int .i64 0, .int .i64 0, .int .i64 0, .int .u8 0, .bool false,
  .int .i64 60, .int .i64 0, .int .i64 0, .int .i64 0, .int .i64 0, .int .i64 100, .int .i64 30, .int .i64 5, .int .i64 0, .int .u8 0, .bool false,
  .int .i64 10, .int .i64 3, .int .i64 1, .int .i64 1, .int .i64 4, .int .i64 10, .int .i64 6, .int .i64 3, .int .i64 0, .int .u8 1, .bool false,
  .int .i64 20, .int .i64 2, .int .i64 1, .int .i64 4, .int .i64 4, .int .i64 20, .int .i64 8, .int .i64 4, .int .i64 0, .int .u8 5, .bool false,
  .int .i64 12, .int .i64 2, .int .i64 4, .int .i64 3, .int .i64 6, .int .i64 25, .int .i64 10, .int .i64 5, .int .i64 1, .int .u8 5, .bool true,
  .int .i64 40, .int .i64 0, .int .i64 0, .int .i64 0, .int .i64 0, .int .i64 40, .int .i64 12, .int .i64 3, .int .i64 0, .int .u8 2, .bool false]
theorem at_of {H : Type} {xs : List (DataW H × List MemPlace)} {l : List (DataW H)} {i : Nat} {d : DataW H} (hd : l = xs.map (·.1)) (hi : l[i]? = some d) : ∃ q, xs[i]? = some (d, q) := by
  rw [hd, List.getElem?_map, Option.map_eq_some_iff] at hi
  obtain ⟨⟨a, q⟩, hy, rfl⟩ := hi
  exact ⟨q, hy⟩
theorem var_of {W : World} (h : laidMetH Tryd.prog Rows.rulesTellRow.laid W) : W.var? Tryd.prog "rematch/rules.kinds" = some tab.toArray := by
  obtain ⟨ps, ⟨g', t', cs, fuel, p, q, hg', ht', hvar, hd, _, _⟩, _⟩ := (show laidMet Tryd.prog Rows.rulesTellRow.laid W from h)
  obtain rfl := Option.some.inj (gKinds.symm.trans hg')
  obtain rfl := Option.some.inj (gKindsType.symm.trans ht')
  rw [hvar]
  clear hvar
  obtain ⟨cs⟩ := cs
  obtain ⟨xs, n, rfl, hx, hl, hxl, hf⟩ := DataW.trod_array (cs := cs) Tryd.underlying31 hd
  rw [cellsTab] at hl
  rw [cellsRule] at hf
  simp only [Rows.laid_rematch_rules_kinds, Prod.mk.injEq, DataW.agg.injEq] at hx
  have hd := hx.1
  have e0 : (cs.drop 0).take 11 = [.int .i64 0, .int .i64 0, .int .i64 0, .int .i64 0, .int .i64 0, .int .i64 0, .int .i64 0, .int .i64 0, .int .i64 0, .int .u8 0, .bool false] := by
    obtain ⟨y, hy⟩ := at_of hd (i := 0) rfl
    have h2 := hf 0 (by omega)
    rw [hy] at h2
    exact row_cells h2
  have e1 : (cs.drop 11).take 11 = [.int .i64 60, .int .i64 0, .int .i64 0, .int .i64 0, .int .i64 0, .int .i64 100, .int .i64 30, .int .i64 5, .int .i64 0, .int .u8 0, .bool false] := by
    obtain ⟨y, hy⟩ := at_of hd (i := 1) rfl
    have h2 := hf 1 (by omega)
    rw [hy] at h2
    exact row_cells h2
  have e2 : (cs.drop 22).take 11 = [.int .i64 10, .int .i64 3, .int .i64 1, .int .i64 1, .int .i64 4, .int .i64 10, .int .i64 6, .int .i64 3, .int .i64 0, .int .u8 1, .bool false] := by
    obtain ⟨y, hy⟩ := at_of hd (i := 2) rfl
    have h2 := hf 2 (by omega)
    rw [hy] at h2
    exact row_cells h2
  have e3 : (cs.drop 33).take 11 = [.int .i64 20, .int .i64 2, .int .i64 1, .int .i64 4, .int .i64 4, .int .i64 20, .int .i64 8, .int .i64 4, .int .i64 0, .int .u8 5, .bool false] := by
    obtain ⟨y, hy⟩ := at_of hd (i := 3) rfl
    have h2 := hf 3 (by omega)
    rw [hy] at h2
    exact row_cells h2
  have e4 : (cs.drop 44).take 11 = [.int .i64 12, .int .i64 2, .int .i64 4, .int .i64 3, .int .i64 6, .int .i64 25, .int .i64 10, .int .i64 5, .int .i64 1, .int .u8 5, .bool true] := by
    obtain ⟨y, hy⟩ := at_of hd (i := 4) rfl
    have h2 := hf 4 (by omega)
    rw [hy] at h2
    exact row_cells h2
  have e5 : (cs.drop 55).take 11 = [.int .i64 40, .int .i64 0, .int .i64 0, .int .i64 0, .int .i64 0, .int .i64 40, .int .i64 12, .int .i64 3, .int .i64 0, .int .u8 2, .bool false] := by
    obtain ⟨y, hy⟩ := at_of hd (i := 5) rfl
    have h2 := hf 5 (by omega)
    rw [hy] at h2
    exact row_cells h2
  have hcs : cs = (cs.drop 0).take 11 ++ ((cs.drop 11).take 11 ++ ((cs.drop 22).take 11 ++ ((cs.drop 33).take 11 ++ ((cs.drop 44).take 11 ++ (cs.drop 55).take 11)))) := by
    have z : (cs.drop 55).take 11 = cs.drop 55 := List.take_of_length_le (by simp [hl])
    rw [z]
    have st : ∀ j : Nat, (cs.drop j).take 11 ++ cs.drop (j + 11) = cs.drop j := fun j => by
      rw [← List.drop_drop]; exact List.take_append_drop 11 _
    rw [st 44, st 33, st 22, st 11, st 0]; rfl
  rw [hcs, e0, e1, e2, e3, e4, e5]
  rfl
end Go.Proofs.YtdbjknljdplinaaDoor.Rul
