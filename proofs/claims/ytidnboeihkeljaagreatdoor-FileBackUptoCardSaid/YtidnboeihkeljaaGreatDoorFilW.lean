/- Law 20: the document's header. -/
import Derived.Test.YtidnboeihkeljaaGreatDoorF22
set_option maxHeartbeats 16000000
set_option maxRecDepth 100000
set_option linter.all false
open Go.ChangeShapes Go.WideShapes Go.ChangeAt Go.RowKit
namespace Go.Proofs.YtidnboeihkeljaaGreatDoor.Fil
open Wire
open Rec
open Log (Hv Sv cS cH mayH encH encS mayB_tiles)
theorem rnum17 (n:Nat) (h:n≤9223372036854775807) (w:World):Calls Tryz.prog 68 #[.int .i64 (n:Int)] w fun e w'=>e= .returned (.string (strOf (vb n)))∧Ext w w':=by
 have HV:=zh (fun W=>Wire.refVarint n (by omega) W);have hw:IntKind.u64.wrap (n:Int)=(n:Int):=by rw[IntKind.wrap_u64];omega
 go_enter Tryz.func68,Tryz.ntmps68;go_wp2_with fail;refine(HV.out _).mono ?_;rintro e w1 ⟨rfl,hE⟩;go_wp2_with fail;go_ret;exact⟨rfl,hE⟩
def HRel (w:World) (us:List Sv) (Z:List Nat) (m gh:Nat) (sv iv:Value) (wr:World):Prop:=
 ∃(i:Nat) (P:List Nat),i+gh=m∧iv= .int .i64 (i:Int)∧sv= .string (strOf P)∧P++encS ((us.drop i).map Log.Sv.st)=Z∧P.length≤6000+30*i∧Ext w wr
end Go.Proofs.YtidnboeihkeljaaGreatDoor.Fil
