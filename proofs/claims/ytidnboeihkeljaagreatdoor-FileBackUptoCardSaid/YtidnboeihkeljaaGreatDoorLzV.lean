/- The document's Pack, walked. -/
import Derived.Test.YtidnboeihkeljaaGreatDoorF06
set_option maxHeartbeats 16000000
set_option maxRecDepth 100000
set_option linter.all false
namespace Go.Proofs.YtidnboeihkeljaaGreatDoor.Lz
open Go.ChangeShapes Go.WideShapes Go.ChangeAt Go.RowKit Go.Shelf
open Wire Go.Proofs.YtidnboeihkeljaaGreatDoor.Map32
def RPRel (w:World) (xs R:List Nat) (N:Nat) (ov pv av:Value) (wr:World):Prop:=
 ∃(a plain:Nat) (E:List Nat),a≤N∧plain≤a∧av= .int .i64 (a:Int)∧pv= .int .i64 (plain:Int)∧ov= .string (strOf E)∧E++pk xs plain a=R∧Ext w wr
end Go.Proofs.YtidnboeihkeljaaGreatDoor.Lz
