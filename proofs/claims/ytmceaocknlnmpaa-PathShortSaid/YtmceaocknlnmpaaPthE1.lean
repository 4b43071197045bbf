/- Path: those who are busy, as they came in. -/
import Derived.Test.YtmceaocknlnmpaaPthB1
import Derived.Test.YtmceaocknlnmpaaP1
namespace Go.Proofs.Ytmceaocknlnmpaa.Pth
open Go.ChangeShapes Go.WideShapes Go.ChangeAt Go.RowKit
open Go.Proofs.Ytmceaocknlnmpaa.Rec
set_option linter.unusedVariables false
section
variable {H : Type} {enc : TypeId × Value → H} {w : World} {base : Nat} {spare : Nat → Bool} {held : Bool}
theorem ints_of {fuel : Nat} {a : Option Addr} {len cap : Nat} {x : DataW H × List MemPlace} (h : DataW.trod enc Try.prog w base spare held fuel 22 [.slice a len cap] = some x) :
    ∃ ls : List Int, RowR w a len 1 cZ ls ∧ (∀ y ∈ ls, True) ∧ cap ≤ maxLen ∧ len ≤ cap :=
  recs_of (good := fun _ => True) Try.underlying22 (by kernel_rfl) (by decide) cZ_len (fun _ cs _ h _ => by
    obtain ⟨n, e, _, w⟩ := DataW.trod_int Try.underlying3 h
    exact ⟨n, e, trivial⟩) h
end
end Go.Proofs.Ytmceaocknlnmpaa.Pth
