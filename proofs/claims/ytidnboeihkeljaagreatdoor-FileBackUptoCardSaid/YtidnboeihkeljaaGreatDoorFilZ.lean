/- Law 20: the document's track as bytes. -/
import Derived.Test.YtidnboeihkeljaaGreatDoorFilY
import Derived.Test.YtidnboeihkeljaaGreatDoorTrkS
set_option maxHeartbeats 16000000
set_option maxRecDepth 100000
set_option linter.all false
open Go.ChangeShapes Go.WideShapes Go.ChangeAt Go.RowKit
namespace Go.Proofs.YtidnboeihkeljaaGreatDoor.Fil
open Wire
open Rec
open Trk (Sl Tv Tk mayT encT RfV Pt Mk cR cM mayC mayM mayCam okP okM encC encP encM encMs sl_get lt5)
def CRel (w0:World) (x:Tk) (n:Int) (Z:List Nat) (gh:Nat) (sv iv:Value) (wr:World):Prop:=
 ∃(p:Nat) (P:List Nat),p+gh=4∧iv= .int .i64 (p:Int)∧sv= .string (strOf P)∧P++((x.cams.drop p).flatMap encC++encM x.marks)=Z∧P.length≤2000*p∧(x.cams.drop p).all (mayCam n)=true∧Ext w0 wr
def DRel (w0:World) (c:List Pt) (n:Int) (Y Z:List Nat) (B nl gh:Nat) (sv lv iv:Value) (wr:World):Prop:=
 ∃(i:Nat) (last lo:Int) (P:List Nat),i+gh=nl∧iv= .int .i64 (i:Int)∧lv= .int .i64 last∧sv= .string (strOf P)∧0≤last∧last≤lo+1∧last≤4096∧P++(encP last (c.drop i)++Y)=Z∧P.length≤B+30*i∧mayC n lo (c.drop i)=true∧Ext w0 wr
def ERel (w0:World) (ms:List Mk) (n:Int) (Z:List Nat) (nm gh:Nat) (sv lv iv:Value) (wr:World):Prop:=
 ∃(i:Nat) (last:Int) (P:List Nat),i+gh=nm∧iv= .int .i64 (i:Int)∧lv= .int .i64 last∧sv= .string (strOf P)∧0≤last∧last≤4096∧P++encMs last (ms.drop i)=Z∧P.length≤8010+60*i∧mayM n last (ms.drop i)=true∧Ext w0 wr
end Go.Proofs.YtidnboeihkeljaaGreatDoor.Fil
