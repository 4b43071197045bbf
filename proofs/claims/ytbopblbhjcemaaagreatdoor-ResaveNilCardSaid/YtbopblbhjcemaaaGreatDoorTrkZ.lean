/- Tracks: the document's May, walked. -/
import Derived.Test.YtbopblbhjcemaaaGreatDoorTrkS
import Derived.Deep.DeepCutAuto
set_option maxHeartbeats 16000000
set_option maxRecDepth 100000
set_option linter.all false
open Go.ChangeShapes Go.WideShapes Go.ChangeAt Go.RowKit
namespace Go.Proofs.YtbopblbhjcemaaaGreatDoor.Trk
open Rec
open Log (hmxL)
end Go.Proofs.YtbopblbhjcemaaaGreatDoor.Trk
