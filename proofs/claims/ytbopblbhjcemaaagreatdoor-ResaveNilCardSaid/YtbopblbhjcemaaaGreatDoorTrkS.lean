/- Tracks: the law's Of, walked. -/
import Derived.Test.YtbopblbhjcemaaaGreatDoorF26
set_option maxHeartbeats 16000000
set_option maxRecDepth 100000
set_option linter.all false
open Go.ChangeShapes Go.WideShapes Go.ChangeAt Go.RowKit
namespace Go.Proofs.YtbopblbhjcemaaaGreatDoor.Trk
open Wire
open Rec
open Log (results_cell2 OwnR_keep hmxL)
def upd (ss:Nat→Sl) (p:Nat) (s:Sl):Nat→Sl:=fun j=>if j=p then s else ss j
def cS5 (ss:Nat→Sl):Array Value:= #[.slice (ss 0).A (ss 0).n (ss 0).c,.slice (ss 1).A (ss 1).n (ss 1).c,.slice (ss 2).A (ss 2).n (ss 2).c,.slice (ss 3).A (ss 3).n (ss 3).c,.slice (ss 4).A (ss 4).n (ss 4).c]
theorem lt5 {p:Nat} (h:p<5):p=0∨p=1∨p=2∨p=3∨p=4:=by omega
def Tk.cam (x:Tk):Nat→List Pt
 | 0=>x.c0 | 1=>x.c1 | 2=>x.c2 | 3=>x.c3 | _=>[]
def Tv.sl (t:Tv):Nat→Sl
 | 0=>t.s0 | 1=>t.s1 | 2=>t.s2 | 3=>t.s3 | _=>t.sm
theorem sl_get (t:Tv) (p:Nat) (h:p<5):t.cells[p]? =some (.slice (t.sl p).A (t.sl p).n (t.sl p).c):=by
 rcases lt5 h with rfl | rfl | rfl | rfl | rfl<;>rfl
theorem RfV.cam {w:World} {t:Tv} {x:Tk} (h:RfV w t x) (p:Nat) (hp:p<4):PtsR w (t.sl p).A (t.sl p).n (t.sl p).c (x.cam p):=by
 rcases lt5 (show p<5 by omega)with rfl | rfl | rfl | rfl | rfl
 ·exact h.1
 ·exact h.2.1
 ·exact h.2.2.1
 ·exact h.2.2.2.1
 ·omega
def Within (p:Pt):Prop:=(-1073741824≤p.x∧p.x≤1073741824)∧ -1073741824≤p.y∧p.y≤1073741824
def Room (x:Tk):Prop:=(∀c∈x.cams,c.length*24≤140737488351232)∧x.marks.length*24≤140737488351232
def OW (w:World) (hb rb ob:Nat) (tc cs:Array Value) (W:World):Prop:=Blk W hb 102 tc∧Blk W rb 37 zeroT∧Blk W ob 37 cs∧Ext w W∧w.heap.size≤hb∧hb<rb∧rb<ob
def IW {α:Type} (w wi:World) (hb rb ob Bi:Nat) (tc:Array Value) (e:TypeId) (k:Nat) (f:α→List Value) (ss:Nat→Sl) (v:Value) (ds:List α) (W:World):Prop:=
 OW w hb rb ob tc (cS5 ss) W∧OwnR Bi W e k f v ds∧(∀j,ob<j→j<Bi→W.heap[j]? =wi.heap[j]?)∧Bi≤W.heap.size∧ob<Bi
section
variable {α : Type} {w wi W W' : World} {hb rb ob Bi : Nat} {tc : Array Value} {e : TypeId} {k : Nat} {f : α → List Value} {ss : Nat → Sl} {v : Value} {ds : List α}
end
structure MC (tb:Nat) (tc:Array Value) (bm om:Nat) (tk:Int) (s:ByteArray) (W:World):Prop where
 t:Blk W tb 102 tc
 c0:W.cell? ⟨bm,om,none⟩=some (.int .i64 tk)
 c1:W.cell? ⟨bm,om+1,none⟩=some (.string s)
 lt:bm<tb
def OfPost (w:World) (x:Tk) (e:Ending) (w':World):Prop:=
 Ext w w'∧∃(t:Tv) (b:Bool),e= .returned (.tuple #[.agg t.cells,.bool b])∧(b=true→TkV w' t x∧∀c∈x.cams,∀p∈c,Within p)
def ORel (w:World) (hb rb ob:Nat) (tc:Array Value) (x:Tk) (p:Nat) (wr:World):Prop:=
 ∃ss:Nat→Sl,OW w hb rb ob tc (cS5 ss) wr∧(∀j,p≤j→ss j=⟨none,0,0⟩)∧(∀j,j<p→PtsV wr (ss j).A (ss j).n (ss j).c (x.cam j)∧∀a,(ss j).A=some a→ob<a.block)∧(∀j,j<p→∀q∈x.cam j,Within q)∧ob<wr.heap.size
def Of2Post (w:World) (x:Tk) (e:Ending) (w':World):Prop:=
 Ext w w'∧∃(t:Tv) (b:Bool),e= .returned (.tuple #[.agg t.cells,.bool b])∧(b=true→TkV w' t x∧(∀c∈x.cams,∀p∈c,Within p)∧
  (∀a,(t.s0.A=some a∨t.s1.A=some a∨t.s2.A=some a∨t.s3.A=some a)→w.heap.size≤a.block)∧∀a,t.sm.A=some a→0<t.sm.n→w.heap.size≤a.block)∧((∀c∈x.cams,∀p∈c,Within p)→b=true)
end Go.Proofs.YtbopblbhjcemaaaGreatDoor.Trk
