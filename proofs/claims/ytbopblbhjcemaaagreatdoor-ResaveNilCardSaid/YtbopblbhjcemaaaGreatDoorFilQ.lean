/- Law 20: the known recording, as the program has it. -/
import Derived.Test.YtbopblbhjcemaaaGreatDoorF25
import Derived.Test.YtbopblbhjcemaaaGreatDoorTrkS
set_option maxHeartbeats 16000000
set_option maxRecDepth 100000
set_option linter.all false
open Go.ChangeShapes Go.WideShapes Go.ChangeAt Go.RowKit
namespace Go.Proofs.YtbopblbhjcemaaaGreatDoor.Fil
open Wire
open Rec
open Trk (Sl Tv Tk TkV mayT encT takeT RfV Room)
open Log (Hv Ev En cH cS cV mayH putL encH OwnR_mono' OwnR_keep)
theorem set15 {w:World} {g:Nat} {t:TypeId} {z0 z1 z2 z3 z4 z5 z6 z7 z8 z9 z10 z11 z12 z13 z14:Value} (h:Blk w g t #[z0,z1,z2,z3,z4,z5,z6,z7,z8,z9,z10,z11,z12,z13,z14]) (c0 c1 c2 c3 c4 c5 c6 c7 c8 c9 c10 c11 c12 c13 c14:Value):∃w',w'=(((((((((((((((w.setCell ⟨g,0,none⟩ c0).setCell ⟨g,1,none⟩ c1).setCell ⟨g,2,none⟩ c2).setCell ⟨g,3,none⟩ c3).setCell ⟨g,4,none⟩ c4).setCell ⟨g,5,none⟩ c5).setCell ⟨g,6,none⟩ c6).setCell ⟨g,7,none⟩ c7).setCell ⟨g,8,none⟩ c8).setCell ⟨g,9,none⟩ c9).setCell ⟨g,10,none⟩ c10).setCell ⟨g,11,none⟩ c11).setCell ⟨g,12,none⟩ c12).setCell ⟨g,13,none⟩ c13).setCell ⟨g,14,none⟩ c14)∧Blk w' g t #[c0,c1,c2,c3,c4,c5,c6,c7,c8,c9,c10,c11,c12,c13,c14]∧w.grownBy w' (some g):=by
 have h1:=Blk.set_ h 0 c0;simp only[zzA,zzB,zzC]at h1;have h2:=Blk.set_ h1 1 c1;simp only[zzA,zzB,zzC]at h2;have h3:=Blk.set_ h2 2 c2;simp only[zzA,zzB,zzC]at h3;have h4:=Blk.set_ h3 3 c3;simp only[zzA,zzB,zzC]at h4;have h5:=Blk.set_ h4 4 c4;simp only[zzA,zzB,zzC]at h5;have h6:=Blk.set_ h5 5 c5;simp only[zzA,zzB,zzC]at h6;have h7:=Blk.set_ h6 6 c6;simp only[zzA,zzB,zzC]at h7;have h8:=Blk.set_ h7 7 c7;simp only[zzA,zzB,zzC]at h8;have h9:=Blk.set_ h8 8 c8;simp only[zzA,zzB,zzC]at h9;have h10:=Blk.set_ h9 9 c9;simp only[zzA,zzB,zzC]at h10;have h11:=Blk.set_ h10 10 c10;simp only[zzA,zzB,zzC]at h11;have h12:=Blk.set_ h11 11 c11;simp only[zzA,zzB,zzC]at h12;have h13:=Blk.set_ h12 12 c12;simp only[zzA,zzB,zzC]at h13;have h14:=Blk.set_ h13 13 c13;simp only[zzA,zzB,zzC]at h14;have h15:=Blk.set_ h14 14 c14;simp only[zzA,zzB,zzC]at h15;exact⟨_,rfl,h15,(gb_trans (gb_trans (gb_trans (gb_trans (gb_trans (gb_trans (gb_trans (gb_trans (gb_trans (gb_trans (gb_trans (gb_trans (gb_trans (gb_trans (gb_set w g 0 c0) (gb_set _ g 1 c1)) (gb_set _ g 2 c2)) (gb_set _ g 3 c3)) (gb_set _ g 4 c4)) (gb_set _ g 5 c5)) (gb_set _ g 6 c6)) (gb_set _ g 7 c7)) (gb_set _ g 8 c8)) (gb_set _ g 9 c9)) (gb_set _ g 10 c10)) (gb_set _ g 11 c11)) (gb_set _ g 12 c12)) (gb_set _ g 13 c13)) (gb_set _ g 14 c14))⟩
def zPa:Array Value:= #[.int .i64 0,.int .i64 0,.int .i64 0,.int .u32 0,.string ⟨#[]⟩,.slice none 0 0,.slice none 0 0,.int .i64 0,.int .i64 0,.slice none 0 0,.slice none 0 0,.slice none 0 0,.slice none 0 0,.slice none 0 0,.slice none 0 0]
def cT (s:ByteArray):List Value:=[.string s]
def RfP (w:World) (p:Pv) (x:Hv) (evs:List Ev) (tr:Tk) (ts:List ByteArray):Prop:=
 RowR w p.A x.starts.length 3 cS x.starts∧RowR w p.Al evs.length 7 cV evs∧RfV w p.t tr∧RowR w p.Af ts.length 1 cT ts
def FsW (wl wr:World) (g:Nat) (cs:Value→Array Value) (ts:List ByteArray) (i:Nat) (fv:Value):Prop:=
 ∃ss:List Sl,Blk wr g 71 (cs fv)∧OwnR wl.heap.size wr 22 1 cF fv ss∧ss.length=i∧wl.grownBy wr (some g)∧g<wl.heap.size∧
  ∀j (h:j<ss.length),BsV wr ss[j] (natsOf (ts.getD j ⟨#[]⟩))∧∀a,ss[j].A=some a→wl.heap.size≤a.block∧a.block<wr.heap.size∧fv.ownBlock≠some a.block
section
variable {wl wr w' : World} {g : Nat} {cs : Value → Array Value} {ts : List ByteArray} {i : Nat} {fv : Value}
end
def O2Post (w:World) (p:Pv) (x:Hv) (evs:List Ev) (N K:Int) (tr:Tk) (ts:List ByteArray) (e:Ending) (w':World):Prop:=
 Ext w w'∧∃(p':Pv) (b:Bool),e= .returned (.tuple #[.agg (p'.cells ⟨x,evs,N,K,tr,ts.map natsOf⟩),.bool b])∧(b=true→PaV w' p' ⟨x,evs,N,K,tr,ts.map natsOf⟩∧∀c∈tr.cams,∀q∈c,Trk.Within q)∧((∀c∈tr.cams,∀q∈c,Trk.Within q)→b=true)
def ckR (wB wx:World) (w0:Nat) (x:Hv) (sv:Value) (N K:Int) (t:Tv) (evs:List Ev) (s6:Value):Prop:=
 ∃(g:Nat) (A:Option Addr) (n c:Nat),s6= .pointer (some ⟨g,0,none⟩)∧Blk wx g 71 (cPa x sv (.slice A n c) N K t (.slice none 0 0))∧OwnR w0 wx 116 7 cV (.slice A n c) evs∧(∀q,(Value.slice A n c).ownBlock=some q→q≠g)∧Ext wB wx∧wB.heap.size≤g∧g<wx.heap.size
end Go.Proofs.YtbopblbhjcemaaaGreatDoor.Fil
