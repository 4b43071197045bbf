/-
  DERIVED. GIVEN WITH THE SEED: THE CARDS: each row of YtidnboeihkeljaaGreatDoorRows.lean that lists a variable, with what it lists TIED to the program's text (the seventh form; the later family's looks); each row that meets fmt, with fmt's text TOLD by the authors' own Lean function (tested against real Go, not proved from fmt's source: count such statements apart). THE CARD IS WHAT COUNTS. Prove the row's statement (the work); the ties are given (YtidnboeihkeljaaGreatDoorTie.lean); close each card by the builder's one call (the guide's Derived/Test/ToyasCard.lean, 'card_holds'). Laid BY PROGRAM, IN A SANDBOX (cutbox-door.mjs). By AI agents, Wed Nov 11 2026. No macro, syntax, notation, axiom, sorry.
-/
import Derived.Test.YtidnboeihkeljaaGreatDoorRows
import GoSem.ClaimSeven
namespace Go.Proofs.YtidnboeihkeljaaGreatDoor
namespace Rows

/-- THE TIED CARD OF 'rematchlaw20.FileBuilds'. -/
def fileBuildsCard : Claim7 := { stood := { row := fileBuildsRow, standIns := [], harness := (true, "c36b2a10fd5196fbd15607233276522387fc6fc528f828fdc07a5928dc1157c7"), looks := true }, kinds := [], alts := [], laidByText := true, laidKinds := [.data], laidTests := true, laidLooks := .later }
def FileBuildsCardSaid : Prop := Claim7.holds Tryz.pinned (.plain (OpenSpec.ofChange fileBuildsSpec)) fileBuildsCard

/-- THE TIED CARD OF 'rematchlaw20.FileNil'. -/
def fileNilCard : Claim7 := { stood := { row := fileNilRow, standIns := [], harness := (true, "c36b2a10fd5196fbd15607233276522387fc6fc528f828fdc07a5928dc1157c7"), looks := true }, kinds := [], alts := [], laidByText := true, laidKinds := [.data], laidTests := true, laidLooks := .later }
def FileNilCardSaid : Prop := Claim7.holds Tryz.pinned (.plain (OpenSpec.ofChange fileNilSpec)) fileNilCard

/-- THE TIED CARD OF 'rematchlaw20.FileBack'. -/
def fileBackCard : Claim7 := { stood := { row := fileBackRow, standIns := [], harness := (true, "c36b2a10fd5196fbd15607233276522387fc6fc528f828fdc07a5928dc1157c7"), looks := true }, kinds := [], alts := [], laidByText := true, laidKinds := [.data], laidTests := true, laidLooks := .later }
def FileBackCardSaid : Prop := Claim7.holds Tryz.pinned (.plain (OpenSpec.ofChange fileBackSpec)) fileBackCard

/-- THE SECOND FORM's CARD OF 'rematchlaw20.FileBuilds'. -/
def fileBuildsUptoCard : Claim7 := { stood := { row := fileBuildsUptoRow, standIns := [], harness := (true, "c36b2a10fd5196fbd15607233276522387fc6fc528f828fdc07a5928dc1157c7"), looks := true }, kinds := [], alts := [], laidByText := true, laidKinds := [.data], laidTests := true, laidLooks := .later }
def FileBuildsUptoCardSaid : Prop := Claim7.holds Tryz.pinned (.plain (OpenSpec.upto fileBuildsSpec)) fileBuildsUptoCard

/-- THE SECOND FORM's CARD OF 'rematchlaw20.FileNil'. -/
def fileNilUptoCard : Claim7 := { stood := { row := fileNilUptoRow, standIns := [], harness := (true, "c36b2a10fd5196fbd15607233276522387fc6fc528f828fdc07a5928dc1157c7"), looks := true }, kinds := [], alts := [], laidByText := true, laidKinds := [.data], laidTests := true, laidLooks := .later }
def FileNilUptoCardSaid : Prop := Claim7.holds Tryz.pinned (.plain (OpenSpec.upto fileNilSpec)) fileNilUptoCard

/-- THE SECOND FORM's CARD OF 'rematchlaw20.FileBack'. -/
def fileBackUptoCard : Claim7 := { stood := { row := fileBackUptoRow, standIns := [], harness := (true, "c36b2a10fd5196fbd15607233276522387fc6fc528f828fdc07a5928dc1157c7"), looks := true }, kinds := [], alts := [], laidByText := true, laidKinds := [.data], laidTests := true, laidLooks := .later }
def FileBackUptoCardSaid : Prop := Claim7.holds Tryz.pinned (.plain (OpenSpec.upto fileBackSpec)) fileBackUptoCard
end Rows
end Go.Proofs.YtidnboeihkeljaaGreatDoor
