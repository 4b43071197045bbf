/- The document's difference, walked. -/
import Derived.Test.YtidnboeihkeljaaGreatDoorF17
set_option maxHeartbeats 16000000
set_option maxRecDepth 100000
set_option linter.all false
open Go.ChangeShapes Go.WideShapes Go.ChangeAt Go.RowKit
namespace Go.Proofs.YtidnboeihkeljaaGreatDoor.Delta
open Wire
def ORel (w:World) (L head:List Nat) (sv av:Value) (wr:World):Prop:=
 ∃(k:Nat) (E:List Nat),k≤L.length∧av= .int .i64 (k:Int)∧sv= .string (strOf (head++E))∧E++enc (L.drop k)=enc L∧Ext w wr∧E.length≤21*k
def F1Rel (L:List Nat) (k:Nat) (fv:Value):Prop:=∃j:Nat,k≤j∧j≤L.length∧j-k≤zr (L.drop k)∧fv= .int .i64 (j:Int)
def F2Rel (L:List Nat) (j:Nat) (ev:Value):Prop:=∃i:Nat,j≤i∧i≤L.length∧lit (L.drop j)=(i-j)+lit (L.drop i)∧ev= .int .i64 (i:Int)
end Go.Proofs.YtidnboeihkeljaaGreatDoor.Delta
