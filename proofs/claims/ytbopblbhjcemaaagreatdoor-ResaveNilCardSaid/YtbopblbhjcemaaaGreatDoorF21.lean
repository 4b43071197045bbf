
import Derived.Test.YtbopblbhjcemaaaGreatDoorF18
set_option maxHeartbeats 16000000
set_option maxRecDepth 100000
set_option linter.all false
open Go.ChangeShapes Go.WideShapes Go.ChangeAt Go.RowKit
namespace Go.Proofs.YtbopblbhjcemaaaGreatDoor.Log
open Wire
open Rec
open Grid (okm)
def PRel (w:World) (B2 lb eb nb:Nat) (n:Int) (evs:List Ev) (T:Option (List Nat)) (gh:Nat) (bv lv iv:Value) (wr:World):Prop:=
 ∃(k:Nat) (last:Int) (each:Nat) (zs:List Nat),k+gh=evs.length∧iv= .int .i64 (k:Int)∧lv= .int .i64 last∧0≤last∧last≤4096∧each≤32∧OwnB B2 wr bv zs∧(∀c∈zs,c<256)∧zs.length≤50*k+10∧
  Boxes wr lb eb nb last each n∧B2≤wr.heap.size∧Ext w wr∧T=if pacedB n last each (evs.drop k)=true then some (zs++encV last (evs.drop k))else none
def WRel (w:World) (B2 lb eb nb:Nat) (n last:Int) (each:Nat) (zs ws:List Nat) (sb ab:Nat) (cs ds:Array Value) (gh:Nat) (bv iv:Value) (wr:World):Prop:=
 ∃(k:Nat),k+gh=3∧iv= .int .i64 (k:Int)∧OwnB B2 wr bv (zs++(ws.take k).flatMap vb)∧Blk wr sb 116 cs∧Blk wr ab 112 ds∧Off bv sb∧Off bv ab∧Boxes wr lb eb nb last each n∧B2≤wr.heap.size∧Ext w wr
end Go.Proofs.YtbopblbhjcemaaaGreatDoor.Log
