/- Law 20: the document's file. -/
import Derived.Test.YtidnboeihkeljaaGreatDoorF26
import Derived.Test.YtidnboeihkeljaaGreatDoorFilZ
import Derived.Test.YtidnboeihkeljaaGreatDoorDelS
set_option maxHeartbeats 16000000
set_option maxRecDepth 100000
set_option linter.all false
open Go.ChangeShapes Go.WideShapes Go.ChangeAt Go.RowKit
namespace Go.Proofs.YtidnboeihkeljaaGreatDoor.Fil
open Wire
open Rec
open Trk (Sl Tv Tk mayT encT RfV)
open Log (Hv Ev cH cV mayH putL encH)
def GRel (w0:World) (LD:List Nat) (fs:List (List Nat)) (k m gh:Nat) (sv av iv:Value) (wr:World):Prop:=
 ∃(i:Nat),i+gh=m∧iv= .int .i64 (i:Int)∧sv= .string (strOf (LD++frs k 0 [] (fs.take i)))∧OwnR w0.heap.size wr 3 1 cN av (pls k 0 [] LD.length (fs.take i))∧Ext w0 wr
end Go.Proofs.YtidnboeihkeljaaGreatDoor.Fil
