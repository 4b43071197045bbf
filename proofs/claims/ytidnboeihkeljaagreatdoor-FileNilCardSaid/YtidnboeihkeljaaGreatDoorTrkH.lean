/- Tracks: slices cloned; a track copied. -/
import Derived.Test.YtidnboeihkeljaaGreatDoorTrkG
import Derived.Lib.SliceRun
set_option maxHeartbeats 16000000
set_option maxRecDepth 100000
set_option linter.all false
open Go.ChangeShapes Go.WideShapes Go.ChangeAt Go.RowKit
namespace Go.Proofs.YtidnboeihkeljaaGreatDoor.Trk
open Rec
section
variable {α : Type}
end
def ClPost {α : Type} (w : World) (e : TypeId) (k : Nat) (f : α → List Value) (xs : List α) (r : Ending) (w' : World) : Prop :=
 ∃ v, r = .returned v ∧ OwnR w.heap.size w' e k f v xs ∧ Ext w w'
end Go.Proofs.YtidnboeihkeljaaGreatDoor.Trk
