/- Contracts: bytes are the same, or not. -/
import Derived.Test.YtodmjkhfckokhaaDelO
namespace Go.Proofs.Ytodmjkhfckokhaa.Delta
open Go.ChangeShapes Go.WideShapes Go.ChangeAt Go.RowKit
open Go.Proofs.Ytodmjkhfckokhaa.Wire
set_option linter.unusedVariables false

theorem same_yes (A B : Option Addr) (n c m d : Nat) (xs : List Nat) (w : World) (hA : Bs w A n xs) (hB : Bs w B m xs) :
    Calls Try.prog 57 #[.slice A n c, .slice B m d] w fun e w' => e = .returned (.bool true) ∧ w = w' := by
  have h1 := hA.conv (P := Try.prog) 22 5 9 Try.underlying22 Try.underlying5 Try.underlying9 c
  have h2 := hB.conv (P := Try.prog) 22 5 9 Try.underlying22 Try.underlying5 Try.underlying9 d
  clear hA hB
  generalize strOf xs = S at *
  go_enter Try.func57, Try.ntmps57
  go_wp2_with fail
  go_ret
  exact ⟨rfl, rfl⟩
theorem same_no (A B : Option Addr) (n c m d : Nat) (xs ys : List Nat) (w : World) (hA : Bs w A n xs) (hB : Bs w B m ys) (hne : xs ≠ ys) :
    Calls Try.prog 57 #[.slice A n c, .slice B m d] w fun e w' => e = .returned (.bool false) ∧ w = w' := by
  have h1 := hA.conv (P := Try.prog) 22 5 9 Try.underlying22 Try.underlying5 Try.underlying9 c
  have h2 := hB.conv (P := Try.prog) 22 5 9 Try.underlying22 Try.underlying5 Try.underlying9 d
  have h3 : ((strOf xs).toList == (strOf ys).toList) = false := beq_eq_false_iff_ne.2 (str_ne (fun e => hne (strOf_inj hA.2.1 hB.2.1 e)))
  clear hA hB hne
  generalize strOf xs = S at *
  generalize strOf ys = T at *
  go_enter Try.func57, Try.ntmps57
  go_wp2_with fail
  go_ret
  exact ⟨rfl, rfl⟩
end Go.Proofs.Ytodmjkhfckokhaa.Delta
