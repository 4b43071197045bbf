/-
  DERIVED. GIVEN WITH THE SEED: THE CARDS: each row of YtbopblbhjcemaaaGreatDoorRows.lean that lists a variable, with what it lists TIED to the program's text (the seventh form; the later family's looks); each row that meets fmt, with fmt's text TOLD by the authors' own Lean function (tested against real Go, not proved from fmt's source: count such statements apart). THE CARD IS WHAT COUNTS. Prove the row's statement (the work); the ties are given (YtbopblbhjcemaaaGreatDoorTie.lean); close each card by the builder's one call (the guide's Derived/Test/ToyasCard.lean, 'card_holds'). Laid BY PROGRAM, IN A SANDBOX (cutbox-door.mjs). By AI agents, Wed Nov 11 2026. No macro, syntax, notation, axiom, sorry.
-/
import Derived.Test.YtbopblbhjcemaaaGreatDoorRows
import GoSem.ClaimSeven
namespace Go.Proofs.YtbopblbhjcemaaaGreatDoor
namespace Rows

/-- THE TIED CARD OF 'rematchlaw24.ResaveNil'. -/
def resaveNilCard : Claim7 := { stood := { row := resaveNilRow, standIns := [], harness := (true, "4f93278b5c0a0074f87477d9384a3e5f83d7a803a5b58e52bacecc95044ce7ca"), looks := true }, kinds := [], alts := [], laidByText := true, laidKinds := [.data], laidTests := true, laidLooks := .later }
def ResaveNilCardSaid : Prop := Claim7.holds Tryz.pinned (.plain (OpenSpec.ofChange resaveNilSpec)) resaveNilCard

/-- THE SECOND FORM's CARD OF 'rematchlaw24.ResaveNil'. -/
def resaveNilUptoCard : Claim7 := { stood := { row := resaveNilUptoRow, standIns := [], harness := (true, "4f93278b5c0a0074f87477d9384a3e5f83d7a803a5b58e52bacecc95044ce7ca"), looks := true }, kinds := [], alts := [], laidByText := true, laidKinds := [.data], laidTests := true, laidLooks := .later }
def ResaveNilUptoCardSaid : Prop := Claim7.holds Tryz.pinned (.plain (OpenSpec.upto resaveNilSpec)) resaveNilUptoCard
end Rows
end Go.Proofs.YtbopblbhjcemaaaGreatDoor
