/- The document's chunk: Put, walked. -/
import Derived.Test.YtidnboeihkeljaaGreatDoorF08
import Derived.Test.YtidnboeihkeljaaGreatDoorLzV
set_option maxHeartbeats 16000000
set_option maxRecDepth 100000
set_option linter.all false
open Go.ChangeShapes Go.WideShapes Go.ChangeAt Go.RowKit
namespace Go.Proofs.YtidnboeihkeljaaGreatDoor.Chk
open Wire
def SE (w w':World):Prop:=Ext w w'
end Go.Proofs.YtidnboeihkeljaaGreatDoor.Chk
