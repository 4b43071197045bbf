
import Derived.Test.YtbopblbhjcemaaaGreatDoorFilQ
set_option maxHeartbeats 16000000
set_option maxRecDepth 100000
set_option linter.all false
open Go.ChangeShapes Go.WideShapes Go.ChangeAt Go.RowKit
namespace Go.Proofs.YtbopblbhjcemaaaGreatDoor.Fil
open Wire
open Rec
open Trk (Sl Tv Tk TkV mayT encT takeT RfV Room)
open Log (Hv Ev En cH cS cV mayH putL encH OwnR_mono' OwnR_keep)
def Lit (x:Hv) (evs:List Ev) (tr:Tk) (ts:List ByteArray):Prop:=
 x.tiles.size≤4200∧x.starts.length≤200∧evs.length≤200∧ts.length≤40∧Trk.Small tr∧∀s∈ts,s.size≤500
def LPost (w:World) (x:Hv) (evs:List Ev) (tr:Tk) (ts:List ByteArray) (e:Ending) (w':World):Prop:=
 ∃b,e= .returned (.bool b)∧Ext w w'∧(b=false→Lit x evs tr ts)
def x0:Hv:=⟨4,4,1,0,⟨#[0,0,0,0,0,0,0,0,0,0,0,0,0,0,0,0]⟩,[]⟩
def tr0:Tk:=⟨[],[],[],[],[]⟩
def ts0:List ByteArray:=[⟨#[97,98,99]⟩,⟨#[97,98,100]⟩,⟨#[120]⟩]
def r0:Rc:=⟨x0,[],2,2,tr0,[[97,98,99],[97,98,100],[120]]⟩
open Com (conv8)
end Go.Proofs.YtbopblbhjcemaaaGreatDoor.Fil
