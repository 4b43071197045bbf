/- Tracks: the law's Of, walked. -/
import Derived.Test.YtidnboeihkeljaaGreatDoorF27
set_option maxHeartbeats 16000000
set_option maxRecDepth 100000
set_option linter.all false
open Go.ChangeShapes Go.WideShapes Go.ChangeAt Go.RowKit
namespace Go.Proofs.YtidnboeihkeljaaGreatDoor.Trk
open Wire
open Rec
open Log (results_cell2 OwnR_keep hmxL)
theorem run_rec2 {α:Type} {P:Program} {w:World} {base:Nat} (t e ty:TypeId) (k bytes:Nat) (z:Value) (f:α→List Value)
  (ht:P.underlying t=some (.slice e)) (hi:(P.info? e).map (fun i=>(i.zero,i.size,i.bytes))=some (some z,k,bytes)) (hzs:z.cells.size=k) (v vx:Value) (xs:List α) (y:α) (hO:OwnR base w e k f v xs) (hbase:base≤w.heap.size)
  (hsrc:Src P k t vx 1 (f y) w) (hb:xs.length+1≤maxLen∧(xs.length+1)*bytes≤140737488355328):∃v' w',(Builtin.append_ #[t,t] ty #[v,vx]).run P w= .ok v' w'∧OwnR base w' e k f v' (xs++[y])∧w.grownBy w' v.ownBlock:=by
 obtain⟨i0,hi0,hq⟩:=Option.map_eq_some_iff.1 hi;simp only[Prod.mk.injEq]at hq;obtain⟨hz0,hz1,hz2⟩:=hq;obtain⟨v',w',r1,r2,r3⟩:=run_app_own (P:=P) t t ty e i0 z k bytes ht hi0 hz0 hz1 hz2 hzs base v xs.length (xs.flatMap f) hO vx 1 (f y) hsrc hb.1 hb.2 hbase;refine⟨v',w',r1,?_,r3⟩;unfold OwnR;rw[zw0,List.flatMap_append]
 simpa using r2
def upd (ss:Nat→Sl) (p:Nat) (s:Sl):Nat→Sl:=fun j=>if j=p then s else ss j
theorem upd_same (ss:Nat→Sl) (p:Nat) (s:Sl):upd ss p s p=s:=by simp[upd]
theorem upd_ne (ss:Nat→Sl) {p j:Nat} (s:Sl) (h:j≠p):upd ss p s j=ss j:=by simp[upd,h]
theorem upd_nil {ss:Nat→Sl} {p:Nat} {s:Sl} (h:ss p=s):upd ss p s=ss:=by
 funext j;simp only[upd];split
 ·rename_i e;rw[e,h]
 ·rfl
theorem upd_upd (ss:Nat→Sl) (p:Nat) (s s':Sl):upd (upd ss p s) p s'=upd ss p s':=by funext j;simp only[upd];split<;>rfl
def cS5 (ss:Nat→Sl):Array Value:= #[.slice (ss 0).A (ss 0).n (ss 0).c,.slice (ss 1).A (ss 1).n (ss 1).c,.slice (ss 2).A (ss 2).n (ss 2).c,.slice (ss 3).A (ss 3).n (ss 3).c,.slice (ss 4).A (ss 4).n (ss 4).c]
theorem lt5 {p:Nat} (h:p<5):p=0∨p=1∨p=2∨p=3∨p=4:=by omega
theorem cS5_get (ss:Nat→Sl) (p:Nat) (h:p<5):(cS5 ss)[p]? =some (.slice (ss p).A (ss p).n (ss p).c):=by
 rcases lt5 h with rfl | rfl | rfl | rfl | rfl<;>rfl
theorem cS5_set (ss:Nat→Sl) (p:Nat) (h:p<5) (s:Sl):(cS5 ss).setIfInBounds p (.slice s.A s.n s.c)=cS5 (upd ss p s):=by
 rcases lt5 h with rfl | rfl | rfl | rfl | rfl<;>rfl
def Tk.cam (x:Tk):Nat→List Pt
 | 0=>x.c0 | 1=>x.c1 | 2=>x.c2 | 3=>x.c3 | _=>[]
def Tv.sl (t:Tv):Nat→Sl
 | 0=>t.s0 | 1=>t.s1 | 2=>t.s2 | 3=>t.s3 | _=>t.sm
theorem sl_get (t:Tv) (p:Nat) (h:p<5):t.cells[p]? =some (.slice (t.sl p).A (t.sl p).n (t.sl p).c):=by
 rcases lt5 h with rfl | rfl | rfl | rfl | rfl<;>rfl
theorem RfV.cam {w:World} {t:Tv} {x:Tk} (h:RfV w t x) (p:Nat) (hp:p<4):PtsR w (t.sl p).A (t.sl p).n (t.sl p).c (x.cam p):=by
 rcases lt5 (show p<5 by omega)with rfl | rfl | rfl | rfl | rfl
 ·exact h.1
 ·exact h.2.1
 ·exact h.2.2.1
 ·exact h.2.2.2.1
 ·omega
theorem cam_mem (x:Tk) (p:Nat) (hp:p<4):x.cam p∈x.cams:=by
 rcases lt5 (show p<5 by omega)with rfl | rfl | rfl | rfl | rfl<;>first | (exfalso;omega) | simp[Tk.cam,Tk.cams]
def Within (p:Pt):Prop:=(-1073741824≤p.x∧p.x≤1073741824)∧ -1073741824≤p.y∧p.y≤1073741824
def Room (x:Tk):Prop:=(∀c∈x.cams,c.length*24≤140737488351232)∧x.marks.length*24≤140737488351232
def OW (w:World) (hb rb ob:Nat) (tc cs:Array Value) (W:World):Prop:=Blk W hb 31 tc∧Blk W rb 40 zeroT∧Blk W ob 40 cs∧Ext w W∧w.heap.size≤hb∧hb<rb∧rb<ob
theorem OW.ext {w W W':World} {hb rb ob:Nat} {tc cs:Array Value} (h:OW w hb rb ob tc cs W) (e:Ext W W'):OW w hb rb ob tc cs W':=⟨h.1.ext e,h.2.1.ext e,h.2.2.1.ext e,zxt h.2.2.2.1 e,h.2.2.2.2⟩
def IW {α:Type} (w wi:World) (hb rb ob Bi:Nat) (tc:Array Value) (e:TypeId) (k:Nat) (f:α→List Value) (ss:Nat→Sl) (v:Value) (ds:List α) (W:World):Prop:=
 OW w hb rb ob tc (cS5 ss) W∧OwnR Bi W e k f v ds∧(∀j,ob<j→j<Bi→W.heap[j]? =wi.heap[j]?)∧Bi≤W.heap.size∧ob<Bi
section
variable {α : Type} {w wi W W' : World} {hb rb ob Bi : Nat} {tc : Array Value} {e : TypeId} {k : Nat} {f : α → List Value} {ss : Nat → Sl} {v : Value} {ds : List α}
theorem IW.ext (h:IW w wi hb rb ob Bi tc e k f ss v ds W) (he:Ext W W'):IW w wi hb rb ob Bi tc e k f ss v ds W':=
 ⟨h.1.ext he,h.2.1.ext he,fun j h1 h2=>(he.block j (zw9 h2 h.2.2.2.1)).trans (h.2.2.1 j h1 h2),zw10 h.2.2.2.1 he.size,h.2.2.2.2⟩
theorem IW.app {v':Value} {ds':List α} (h:IW w wi hb rb ob Bi tc e k f ss v ds W) (hO:OwnR Bi W' e k f v' ds') (hG:W.grownBy W' v.ownBlock):IW w wi hb rb ob Bi tc e k f ss v' ds' W':=by
 have hob:∀q,v.ownBlock=some q→Bi≤q:=fun q e=>(zw23 h.2.1 q e).1;obtain⟨⟨q1,q2,q3,q4,q5,q6,q7⟩,h2,h3,h4,h5⟩:=h;have hk:∀q,q<Bi→W'.heap[q]? =W.heap[q]? :=fun q hq=>hG.block q (zw9 hq h4) (fun e=>by have:=hob q e.symm;omega);exact⟨⟨(hk hb (by omega)).trans q1,(hk rb (by omega)).trans q2,(hk ob (by omega)).trans q3,ext_grown q4 hG (fun q e=>by have:=hob q e;omega),q5,q6,q7⟩,hO,fun j h6 h7=>(hk j h7).trans (h3 j h6 h7),zw10 h4 hG.size,h5⟩
theorem IW.store (h:IW w wi hb rb ob Bi tc e k f ss v ds W) {q:Nat} (hq:q<5) (s:Sl):IW w wi hb rb ob Bi tc e k f (upd ss q s) v ds (W.setCell ⟨ob,q,none⟩ (.slice s.A s.n s.c)):=by
 obtain⟨⟨q1,q2,q3,q4,q5,q6,q7⟩,h2,h3,h4,h5⟩:=h;refine⟨⟨q1.far (by show hb≠ob;omega) _,q2.far (by show rb≠ob;omega) _,?_,ext_set q4 (by show w.heap.size≤ob;omega) _,q5,q6,q7⟩,OwnR_keep h2 (fun j hj _=>zw46 W ⟨ob,q,none⟩ _ j (by show j≠ob;omega)),fun j k1 k2=>(zw46 W ⟨ob,q,none⟩ _ j (by show j≠ob;omega)).trans (h3 j k1 k2),by simpa [World.setCell]using h4,h5⟩;rw[←cS5_set ss q hq s];exact q3.set_ q _
end
theorem blk_off {W W':World} {g:Nat} {t:TypeId} {cs:Array Value} (h:Blk W g t cs) {v:Value} (hG:W.grownBy W' v.ownBlock) (ho:∀q,v.ownBlock=some q→q<g):Blk W' g t cs:=
 (hG.block g h.lt (fun e=>by have:=ho g e.symm;omega)).trans h
theorem blk_set {W:World} {g:Nat} {t:TypeId} {cs:Array Value} (h:Blk W g t cs) {ob:Nat} (ho:ob<g) (q:Nat) (v:Value):Blk (W.setCell ⟨ob,q,none⟩ v) g t cs:=h.far (by show g≠ob;omega) v
structure MC (tb:Nat) (tc:Array Value) (bm om:Nat) (tk:Int) (s:ByteArray) (W:World):Prop where
 t:Blk W tb 31 tc
 c0:W.cell? ⟨bm,om,none⟩=some (.int .i64 tk)
 c1:W.cell? ⟨bm,om+1,none⟩=some (.string s)
 lt:bm<tb
theorem MC.ext {tb:Nat} {tc:Array Value} {bm om:Nat} {tk:Int} {s:ByteArray} {W W':World} (h:MC tb tc bm om tk s W) (e:Ext W W'):MC tb tc bm om tk s W':=⟨h.t.ext e,kc e h.c0,kc e h.c1,h.lt⟩
theorem MC.off {tb:Nat} {tc:Array Value} {bm om:Nat} {tk:Int} {s:ByteArray} {W W':World} (h:MC tb tc bm om tk s W) {v:Value} (hG:W.grownBy W' v.ownBlock) (ho:∀q,v.ownBlock=some q→tb<q):MC tb tc bm om tk s W':=by
 have hk:∀q,q≤tb→W'.heap[q]? =W.heap[q]? :=fun q hq=>hG.block q (zw11 hq h.t.lt) (fun e=>by have:=ho q e.symm;omega);have hl:=h.lt;exact⟨(hk tb (zw8 _)).trans h.t,(World.cell?_of_block (a:=⟨bm,om,none⟩) (hk bm (by omega))).trans h.c0,(World.cell?_of_block (a:=⟨bm,om+1,none⟩) (hk bm (by omega))).trans h.c1,hl⟩
theorem MC.set {tb:Nat} {tc:Array Value} {bm om:Nat} {tk:Int} {s:ByteArray} {W:World} (h:MC tb tc bm om tk s W) {ob:Nat} (ho:tb<ob) (q:Nat) (v:Value):MC tb tc bm om tk s (W.setCell ⟨ob,q,none⟩ v):=by
 have hk:∀q',q'≤tb→(W.setCell ⟨ob,q,none⟩ v).heap[q']? =W.heap[q']? :=fun q' hq=>zw46 W ⟨ob,q,none⟩ v q' (by show q'≠ob;omega);have hl:=h.lt;exact⟨(hk tb (zw8 _)).trans h.t,(World.cell?_of_block (a:=⟨bm,om,none⟩) (hk bm (by omega))).trans h.c0,(World.cell?_of_block (a:=⟨bm,om+1,none⟩) (hk bm (by omega))).trans h.c1,hl⟩
def OfPost (w:World) (x:Tk) (e:Ending) (w':World):Prop:=
 Ext w w'∧∃(t:Tv) (b:Bool),e= .returned (.tuple #[.agg t.cells,.bool b])∧(b=true→TkV w' t x∧∀c∈x.cams,∀p∈c,Within p)
def ORel (w:World) (hb rb ob:Nat) (tc:Array Value) (x:Tk) (p:Nat) (wr:World):Prop:=
 ∃ss:Nat→Sl,OW w hb rb ob tc (cS5 ss) wr∧(∀j,p≤j→ss j=⟨none,0,0⟩)∧(∀j,j<p→PtsV wr (ss j).A (ss j).n (ss j).c (x.cam j)∧∀a,(ss j).A=some a→ob<a.block)∧(∀j,j<p→∀q∈x.cam j,Within q)∧ob<wr.heap.size
def Of2Post (w:World) (x:Tk) (e:Ending) (w':World):Prop:=
 Ext w w'∧∃(t:Tv) (b:Bool),e= .returned (.tuple #[.agg t.cells,.bool b])∧(b=true→TkV w' t x∧(∀c∈x.cams,∀p∈c,Within p)∧
  (∀a,(t.s0.A=some a∨t.s1.A=some a∨t.s2.A=some a∨t.s3.A=some a)→w.heap.size≤a.block)∧∀a,t.sm.A=some a→0<t.sm.n→w.heap.size≤a.block)∧((∀c∈x.cams,∀p∈c,Within p)→b=true)
theorem of_tr2 (t:Tv) (x:Tk) (w:World) (hB:RfV w t x) (hz:Room x):Calls Tryz.prog 18 #[.agg t.cells] w (Of2Post w x):=by
 have z1:(w.alloc (.cells t.cells 31)).heap.size=w.heap.size+1:=zw22 _ _;have z2:((w.alloc (.cells t.cells 31)).alloc (.cells zeroT 40)).heap.size=w.heap.size+1+1:=by rw[zw22,z1]
 have z3:(((w.alloc (.cells t.cells 31)).alloc (.cells zeroT 40)).alloc (.cells zeroT 40)).heap.size=w.heap.size+1+1+1:=by rw[zw22,z2]
 have b1:=((Blk.new w 31 t.cells).alloc (.cells zeroT 40)).alloc (.cells zeroT 40);have b2:=(Blk.new (w.alloc (.cells t.cells 31)) 40 zeroT).alloc (.cells zeroT 40);have b3:=Blk.new ((w.alloc (.cells t.cells 31)).alloc (.cells zeroT 40)) 40 zeroT;rw[z1]at b2;rw[z2]at b3;have HE0:=zh (zxa (zxa (zxa (zxr w) (.cells t.cells 31)) (.cells zeroT 40)) (.cells zeroT 40));have HO0:Hid (OW w w.heap.size (w.heap.size+1) (w.heap.size+1+1) t.cells (cS5 (fun _=>⟨none,0,0⟩)) (((w.alloc (.cells t.cells 31)).alloc (.cells zeroT 40)).alloc (.cells zeroT 40))):=zh ⟨b1,b2,b3,HE0.out,by omega,by omega,by omega⟩;have HSZ:=zh z3;have HB:=zh hB;have HR:=zh hz;have HSL:=zh (sl_get t);clear b1 b2 b3 z1 z2 z3 hB hz;obtain⟨tc,htc⟩:∃q,q=t.cells:=⟨_,rfl⟩;rw[←htc]at HE0 HO0 HSL HSZ ⊢;have HTC:=zh htc;obtain⟨⟨⟨A0,n0,c0⟩,⟨A1,n1,c1⟩,⟨A2,n2,c2⟩,⟨A3,n3,c3⟩,⟨Am,nm,cm⟩⟩,ht⟩:∃q,q=t:=⟨_,rfl⟩;rw[←ht]at htc;simp only[Tv.cells]at htc;clear ht;rw[htc]at HE0 HO0 HSL HSZ HTC ⊢;simp only[zeroT]at HE0 HO0 HSZ;go_enter Tryz.func18,Tryz.ntmps18;go_upto_region 2 with fail;obtain⟨w3,hw3⟩:∃q,q=(((w.alloc (.cells #[.slice A0 n0 c0,.slice A1 n1 c1,.slice A2 n2 c2,.slice A3 n3 c3,.slice Am nm cm] 31)).alloc (.cells #[.slice none 0 0,.slice none 0 0,.slice none 0 0,.slice none 0 0,.slice none 0 0] 40)).alloc (.cells #[.slice none 0 0,.slice none 0 0,.slice none 0 0,.slice none 0 0,.slice none 0 0] 40)):=⟨_,rfl⟩;rw[←hw3]at HE0 HO0 HSZ ⊢;clear hw3;rw[←htc]at HO0 HSL HTC;obtain⟨ob,hob⟩:∃q,q=w.heap.size+1+1:=⟨_,rfl⟩;obtain⟨rb,hrb⟩:∃q,q=w.heap.size+1:=⟨_,rfl⟩
 obtain⟨hb,hhb⟩:∃q,q=w.heap.size:=⟨_,rfl⟩;rw[←hob,←hrb,←hhb]at HO0 ⊢;rw[←hob]at HSZ;clear hob hrb hhb;replace htc:=zh htc;have hlt2:hb<rb:=HO0.out.2.2.2.2.2.1;have hlt3:rb<ob:=HO0.out.2.2.2.2.2.2;replace hlt2:=zh hlt2;replace hlt3:=zh hlt3;go_wp2_with fail
 go_loopg [5] 4 (fun gh iv wr=>∃(p:Nat),p+gh=4∧iv= .int .i64 (p:Int)∧ORel w hb rb ob tc x p wr)
 case atStart=>exact⟨0,rfl,rfl,_,HO0.out,fun j _=>rfl,fun j hj=>absurd hj (by omega),fun j hj=>absurd hj (by omega),by rw[HSZ.out];omega⟩
 case round=>
  obtain⟨p,hp,rfl,ss,hOW,hnil,hpre,hwth,hsz⟩:=hrel;obtain⟨wi,rfl⟩:∃wi:World,wi=wr:=⟨_,rfl⟩;obtain⟨gh,rfl⟩:∃gh:Nat,gh=gk:=⟨_,rfl⟩;have HOW:=zh hOW;have HNIL:=zh hnil;have HPRE:=zh hpre;have HWT:=zh hwth;have HSI:=zh hsz;clear hOW hnil hpre hwth hsz HO0;have y1:(0:Int)≤(p:Int):=by omega
  by_cases hlt:p<4
  ·have y2:(p:Int)<4:=by omega
   have HPT:=zh ((HB.out.cam p hlt).ext HOW.out.2.2.2.1);have HP0:=zh (HB.out.cam p hlt);have HSP:=zh (HSL.out p (by omega));have HRM:Hid ((x.cam p).length*24≤140737488351232):=zh (HR.out.1 _ (cam_mem x p hlt));obtain⟨⟨Ad,nd,cd⟩,hsl⟩:∃q,q=t.sl p:=⟨_,rfl⟩;rw[←hsl]at HPT HSP HP0;simp only at HPT HSP HP0;clear hsl;obtain⟨Bi,hBi⟩:∃q,q=wi.heap.size:=⟨_,rfl⟩;have HST:Hid (IW w wi hb rb ob Bi tc 110 3 cP (upd ss p ⟨none,0,0⟩) (.slice none 0 0) ([]:List Pt) wi):=zh (by
    have e:upd ss p ⟨none,0,0⟩=ss:=upd_nil (HNIL.out p (zw8 _));rw[e];exact⟨HOW.out,OwnR.nil _ _ _ _ _,fun _ _ _=>rfl,by rw[hBi];omega,by rw[hBi];exact HSI.out⟩)
   replace hBi:=zh hBi;go_wp2_with fail
   go_loopg [6] nd (fun gi iv wr=>∃(i:Nat) (A:Option Addr) (c:Nat),i+gi=nd∧iv= .int .i64 (i:Int)∧IW w wi hb rb ob Bi tc 110 3 cP (upd ss p ⟨A,i,c⟩) (.slice A i c) ((x.cam p).take i) wr∧(∀j (hj:j<(x.cam p).length),j<i→Within (x.cam p)[j])∧i≤c∧c≤maxLen∧(A=none→i=0∧c=0)∧∀a,A=some a→Bi≤a.block)
   case atStart=>exact⟨0,none,0,by omega,rfl,HST.out,fun j _ h=>absurd h (by omega),by omega,by unfold maxLen;omega,fun _=>⟨rfl,rfl⟩,fun a h=>by cases h⟩
   case round=>
    obtain⟨i,A,c,hi,rfl,hIW,hwi,hl1,hl2,hl3,hl4⟩:=hrel;obtain⟨wk,rfl⟩:∃wi:World,wi=wr:=⟨_,rfl⟩;obtain⟨gi,rfl⟩:∃gh:Nat,gh=gk:=⟨_,rfl⟩;have HIW:=zh hIW;have HWI:=zh hwi;have HL:=zh (And.intro hl1 (And.intro hl2 (And.intro hl3 hl4)));clear hIW hwi hl1 hl2 hl3 hl4 HST;have z1:(0:Int)≤(i:Int):=by omega
    have t6:=(HIW.out.1.1.cell p).trans HSP.out;have HLEN:=zh HPT.out.1.1;have z3:nd≤9223372036854775807:=zw10 HPT.out.2.1 HPT.out.2.2.1;by_cases hli:i<nd
    ·have z2:(i:Int)<(nd:Int):=by omega
     have hke:i<(x.cam p).length:=by rw[HLEN.out];exact hli
     obtain⟨bd,od,rfl,hbw,hc⟩:=HPT.out.1.2 (by omega);have hbk:wk.heap[bd]? =wi.heap[bd]? :=by
      have e1:Ext w wi:=HOW.out.2.2.2.1;have e2:Ext w wk:=HIW.out.1.2.2.2.1;have hbw0:bd<w.heap.size:=by
       obtain⟨b2,o2,e,h2,_⟩:=HP0.out.1.2 (by omega);cases e;exact h2
      rw[e1.block bd hbw0,e2.block bd hbw0]
     have q:=fun l hl=>(World.cell?_of_block (a:=⟨bd,od+i*3+l,none⟩) hbk).trans (hc i hke l hl);have HTK:Hid ((x.cam p).take (i+1)=(x.cam p).take i++[(x.cam p)[i]]):=zh (zw36 hke).symm;have HLD:Hid (((x.cam p).take i).length=i):=zh (by rw[zw2];omega);have HNX:Hid (Within (x.cam p)[i]→∀j (hj:j<(x.cam p).length),j<i+1→Within (x.cam p)[j]):=zh (fun h j hj hji=>by
      by_cases hji2:j=i
      ·subst hji2;exact h
      ·exact HWI.out j hj (by omega))
     have HALL:Hid ((∀cc∈x.cams,∀q∈cc,Within q)→Within (x.cam p)[i]):=zh (fun h=>h _ (cam_mem x p hlt) _ (zw25 hke));obtain⟨u,hu⟩:∃q,q=(x.cam p)[i]:=⟨_,rfl⟩;rw[←hu]at q HTK HNX HALL;clear hu;obtain⟨tk,px,py⟩:=u;have a0:=q 0 (by omega);have a1:=q 1 (by omega);have a2:=q 2 (by omega);simp only[cR,Nat.add_zero,List.getElem?_cons_zero,List.getElem?_cons_succ]at a0 a1 a2;have HXB0:=zh (Blk.new wk 115 #[.int .i64 tk,.int .i64 px,.int .i64 py]);have HIX:=zh (HIW.out.ext (zxa (zxr wk) (.cells #[.int .i64 tk,.int .i64 px,.int .i64 py] 115)));have HOB:Hid (∀q,(Value.slice A i c).ownBlock=some q→q<wk.heap.size):=zh (fun q e=>(zw23 HIW.out.2.1 q e).2);have HXB:Hid (ob<wk.heap.size):=zh (zw9 HIW.out.2.2.2.2 HIW.out.2.2.2.1);clear hc q hke hbk HLEN HWI;go_upto_region 9 with fail;clear a0 a1 a2 t6;obtain⟨wx,hwx⟩:∃q,q=wk.alloc (.cells #[.int .i64 tk,.int .i64 px,.int .i64 py] 115):=⟨_,rfl⟩;rw[←hwx]at HXB0 HIX ⊢;clear hwx;obtain⟨xb,hxb⟩:∃q,q=wk.heap.size:=⟨_,rfl⟩;rw[←hxb]at HXB0 HOB HXB ⊢;clear hxb HIW;obtain⟨ds,hds⟩:∃q,q=(x.cam p).take i:=⟨_,rfl⟩;rw[←hds]at HTK HLD HIX;have HDL:Hid (ds.length+1≤maxLen∧(ds.length+1)*16≤140737488355328):=zh (by
      have h1:=HRM.out;have h2:=HLD.out;have h3:=HPT.out.1.1;unfold maxLen;constructor<;>omega)
     obtain⟨ss',hss⟩:∃q,q=upd ss p ⟨A,i,c⟩:=⟨_,rfl⟩;rw[←hss]at HIX;have HGET:Hid ((cS5 ss')[p]? =some (.slice A i c)):=zh (by rw[cS5_get _ _ (by omega),hss,upd_same]);have HSS:=zh hss;clear hds hss;have q0:=HXB0.out.cell 0;have q1:=HXB0.out.cell 1;have q2:=HXB0.out.cell 2;simp only[zzD,zzE,zzF]at q0 q1 q2;obtain⟨s0,s1,s2,s3,s4,hcs⟩:∃s0 s1 s2 s3 s4:Sl,cS5 ss'= #[.slice s0.A s0.n s0.c,.slice s1.A s1.n s1.c,.slice s2.A s2.n s2.c,.slice s3.A s3.n s3.c,.slice s4.A s4.n s4.c]:=⟨_,_,_,_,_,rfl⟩;have HOX:=zh HIX.out.1.2.2.1;rw[hcs]at HOX;have HRX:=zh HIX.out.1.2.1;have HEX:=zh HIX.out.1.2.2.2.1;have HWR:Hid (w.heap.size≤rb):=zh (by have:=HIX.out.1.2.2.2.2.1;have:=hlt2.out;omega);simp only[zeroT]at HRX;have o0:=HOX.out.cell 0;have o1:=HOX.out.cell 1;have o2:=HOX.out.cell 2;have o3:=HOX.out.cell 3;have o4:=HOX.out.cell 4;simp only[zzD,zzE,zzF]at o0 o1 o2 o3 o4;have f:=fun i=>HRX.out.frozen i;have f':=fun i=>HRX.out.cell i;clear hcs;by_cases g1:px< -1073741824
     ·go_wp2_with fail
      have hb1:=((((HRX.out.set_ 0 (.slice s0.A s0.n s0.c)).set_ 1 (.slice s1.A s1.n s1.c)).set_ 2 (.slice s2.A s2.n s2.c)).set_ 3 (.slice s3.A s3.n s3.c)).set_ 4 (.slice s4.A s4.n s4.c);refine bodyPost_ret (v:= .tuple #[.agg (Tv.cells ⟨s0,s1,s2,s3,s4⟩),.bool false]) (results_cell2 Tryz.results18 _ _ rb 40 _ (0,0) _ rfl hb1 _ rfl Tryz.underlying40 rfl (by kernel_rfl)) rfl ?_;have hwr:w.heap.size≤rb:=HWR.out;refine⟨ext_set (ext_set (ext_set (ext_set (ext_set HEX.out hwr _) hwr _) hwr _) hwr _) hwr _,⟨s0,s1,s2,s3,s4⟩,false,rfl,fun h=>(by cases h),fun hw=>by have hx:=HALL.out hw;unfold Within at hx;simp only at hx;omega⟩
     by_cases g2:1073741824<px
     ·go_wp2_with fail
      have hb1:=((((HRX.out.set_ 0 (.slice s0.A s0.n s0.c)).set_ 1 (.slice s1.A s1.n s1.c)).set_ 2 (.slice s2.A s2.n s2.c)).set_ 3 (.slice s3.A s3.n s3.c)).set_ 4 (.slice s4.A s4.n s4.c);refine bodyPost_ret (v:= .tuple #[.agg (Tv.cells ⟨s0,s1,s2,s3,s4⟩),.bool false]) (results_cell2 Tryz.results18 _ _ rb 40 _ (0,0) _ rfl hb1 _ rfl Tryz.underlying40 rfl (by kernel_rfl)) rfl ?_;have hwr:w.heap.size≤rb:=HWR.out;refine⟨ext_set (ext_set (ext_set (ext_set (ext_set HEX.out hwr _) hwr _) hwr _) hwr _) hwr _,⟨s0,s1,s2,s3,s4⟩,false,rfl,fun h=>(by cases h),fun hw=>by have hx:=HALL.out hw;unfold Within at hx;simp only at hx;omega⟩
     by_cases g3:py< -1073741824
     ·go_wp2_with fail
      have hb1:=((((HRX.out.set_ 0 (.slice s0.A s0.n s0.c)).set_ 1 (.slice s1.A s1.n s1.c)).set_ 2 (.slice s2.A s2.n s2.c)).set_ 3 (.slice s3.A s3.n s3.c)).set_ 4 (.slice s4.A s4.n s4.c);refine bodyPost_ret (v:= .tuple #[.agg (Tv.cells ⟨s0,s1,s2,s3,s4⟩),.bool false]) (results_cell2 Tryz.results18 _ _ rb 40 _ (0,0) _ rfl hb1 _ rfl Tryz.underlying40 rfl (by kernel_rfl)) rfl ?_;have hwr:w.heap.size≤rb:=HWR.out;refine⟨ext_set (ext_set (ext_set (ext_set (ext_set HEX.out hwr _) hwr _) hwr _) hwr _) hwr _,⟨s0,s1,s2,s3,s4⟩,false,rfl,fun h=>(by cases h),fun hw=>by have hx:=HALL.out hw;unfold Within at hx;simp only at hx;omega⟩
     by_cases g4:1073741824<py
     ·go_wp2_with fail
      have hb1:=((((HRX.out.set_ 0 (.slice s0.A s0.n s0.c)).set_ 1 (.slice s1.A s1.n s1.c)).set_ 2 (.slice s2.A s2.n s2.c)).set_ 3 (.slice s3.A s3.n s3.c)).set_ 4 (.slice s4.A s4.n s4.c);refine bodyPost_ret (v:= .tuple #[.agg (Tv.cells ⟨s0,s1,s2,s3,s4⟩),.bool false]) (results_cell2 Tryz.results18 _ _ rb 40 _ (0,0) _ rfl hb1 _ rfl Tryz.underlying40 rfl (by kernel_rfl)) rfl ?_;have hwr:w.heap.size≤rb:=HWR.out;refine⟨ext_set (ext_set (ext_set (ext_set (ext_set HEX.out hwr _) hwr _) hwr _) hwr _) hwr _,⟨s0,s1,s2,s3,s4⟩,false,rfl,fun h=>(by cases h),fun hw=>by have hx:=HALL.out hw;unfold Within at hx;simp only at hx;omega⟩
     have HNX2:=zh (HNX.out ⟨⟨by simp only;omega,by simp only;omega⟩,by simp only;omega,by simp only;omega⟩);replace HNX:=HNX2;clear HNX2;clear o0 o1 o2 o3 o4 f f' HOX HRX HEX HWR;go_upto_region 11 with fail;clear q0 q1 q2;have W1:IntKind.i32.wrap px=px:=IntWalk.i32_in _ (by omega);have W2:IntKind.i32.wrap py=py:=IntWalk.i32_in _ (by omega);clear g1 g2 g3 g4;have HX:=zh (And.intro (HIX.out.ext (zxd (zxr wx))) (Blk.drew HXB0.out));refine zw38 (S:=fun W=>Blk W xb 115 #[.int .i64 tk,.int .i64 px,.int .i64 py]) hmxL HX.out.2 (fun _=>?_);generalize wx.drew=WA at*;clear HIX HXB0
     (refine tq (i:=0) (oi:=⟨some 48,.move (.tmp 5),3,_,_,none⟩) (v:=?_) HX.out.2 ?_ ?_);rotate_left
     ·(intro w' hSw;have q0:=hSw.cell 0;have q1:=hSw.cell 1;have q2:=hSw.cell 2;simp only[zzD,zzE,zzF]at q0 q1 q2;go_simp;try rfl)
     (try simp only[Act.put,zzA,zzB,zzC])
     (refine tq (i:=1) (oi:=⟨some 49,.move (.tmp 5),3,_,_,none⟩) (v:=?_) HX.out.2 ?_ ?_);rotate_left
     ·(intro w' hSw;have q0:=hSw.cell 0;have q1:=hSw.cell 1;have q2:=hSw.cell 2;simp only[zzD,zzE,zzF]at q0 q1 q2;go_simp;try rfl)
     (try simp only[Act.put,zzA,zzB,zzC])
     (refine tq (i:=2) (oi:=⟨some 50,.fieldAddr 40 (.tmp 4) 0,0,_,_,none⟩) (v:=?_) HX.out.2 ?_ ?_);rotate_left
     ·(intro w' hSw;have q0:=hSw.cell 0;have q1:=hSw.cell 1;have q2:=hSw.cell 2;simp only[zzD,zzE,zzF]at q0 q1 q2;go_simp;try rfl)
     (try simp only[Act.put,zzA,zzB,zzC])
     (refine tq (i:=3) (oi:=⟨some 51,.indexAddr 37 (.tmp 50) (.tmp 49),0,_,_,none⟩) (v:=?_) HX.out.2 ?_ ?_);rotate_left
     ·(intro w' hSw;have q0:=hSw.cell 0;have q1:=hSw.cell 1;have q2:=hSw.cell 2;simp only[zzD,zzE,zzF]at q0 q1 q2;go_simp;try rfl)
     (try simp only[Act.put,zzA,zzB,zzC])
     (refine tq (i:=5) (oi:=⟨some 53,.fieldAddr 115 (.tmp 7) 0,0,_,_,none⟩) (v:=?_) HX.out.2 ?_ ?_);rotate_left
     ·(intro w' hSw;have q0:=hSw.cell 0;have q1:=hSw.cell 1;have q2:=hSw.cell 2;simp only[zzD,zzE,zzF]at q0 q1 q2;go_simp;try rfl)
     (try simp only[Act.put,zzA,zzB,zzC])
     (refine tq (i:=6) (oi:=⟨some 54,.load 3 (.tmp 53),3,_,_,none⟩) (v:=?_) HX.out.2 ?_ ?_);rotate_left
     ·(intro w' hSw;have q0:=hSw.cell 0;have q1:=hSw.cell 1;have q2:=hSw.cell 2;simp only[zzD,zzE,zzF]at q0 q1 q2;go_simp;try rfl)
     (try simp only[Act.put,zzA,zzB,zzC])
     (refine tq (i:=7) (oi:=⟨some 55,.fieldAddr 115 (.tmp 7) 1,0,_,_,none⟩) (v:=?_) HX.out.2 ?_ ?_);rotate_left
     ·(intro w' hSw;have q0:=hSw.cell 0;have q1:=hSw.cell 1;have q2:=hSw.cell 2;simp only[zzD,zzE,zzF]at q0 q1 q2;go_simp;try rfl)
     (try simp only[Act.put,zzA,zzB,zzC])
     (refine tq (i:=8) (oi:=⟨some 56,.load 3 (.tmp 55),3,_,_,none⟩) (v:=?_) HX.out.2 ?_ ?_);rotate_left
     ·(intro w' hSw;have q0:=hSw.cell 0;have q1:=hSw.cell 1;have q2:=hSw.cell 2;simp only[zzD,zzE,zzF]at q0 q1 q2;go_simp;try rfl)
     (try simp only[Act.put,zzA,zzB,zzC])
     (refine tq (i:=9) (oi:=⟨some 57,.convert 3 106 (.tmp 56),106,_,_,none⟩) (v:=?_) HX.out.2 ?_ ?_);rotate_left
     ·(intro w' hSw;have q0:=hSw.cell 0;have q1:=hSw.cell 1;have q2:=hSw.cell 2;simp only[zzD,zzE,zzF]at q0 q1 q2;go_simp;try rfl)
     (try simp only[Act.put,zzA,zzB,zzC])
     (refine tq (i:=10) (oi:=⟨some 58,.fieldAddr 115 (.tmp 7) 2,0,_,_,none⟩) (v:=?_) HX.out.2 ?_ ?_);rotate_left
     ·(intro w' hSw;have q0:=hSw.cell 0;have q1:=hSw.cell 1;have q2:=hSw.cell 2;simp only[zzD,zzE,zzF]at q0 q1 q2;go_simp;try rfl)
     (try simp only[Act.put,zzA,zzB,zzC])
     (refine tq (i:=11) (oi:=⟨some 59,.load 3 (.tmp 58),3,_,_,none⟩) (v:=?_) HX.out.2 ?_ ?_);rotate_left
     ·(intro w' hSw;have q0:=hSw.cell 0;have q1:=hSw.cell 1;have q2:=hSw.cell 2;simp only[zzD,zzE,zzF]at q0 q1 q2;go_simp;try rfl)
     (try simp only[Act.put,zzA,zzB,zzC])
     (refine tq (i:=12) (oi:=⟨some 60,.convert 3 106 (.tmp 59),106,_,_,none⟩) (v:=?_) HX.out.2 ?_ ?_);rotate_left
     ·(intro w' hSw;have q0:=hSw.cell 0;have q1:=hSw.cell 1;have q2:=hSw.cell 2;simp only[zzD,zzE,zzF]at q0 q1 q2;go_simp;try rfl)
     (try simp only[Act.put,zzA,zzB,zzC])
     (refine tq (i:=13) (oi:=⟨some 61,.build 108 #[(0,.tmp 57),(1,.tmp 60)],108,_,_,none⟩) (v:=?_) HX.out.2 ?_ ?_);rotate_left
     ·(intro w' hSw;have q0:=hSw.cell 0;have q1:=hSw.cell 1;have q2:=hSw.cell 2;simp only[zzD,zzE,zzF]at q0 q1 q2;go_simp;try rfl)
     (try simp only[Act.put,zzA,zzB,zzC])
     (refine tq (i:=14) (oi:=⟨some 62,.build 110 #[(0,.tmp 54),(1,.tmp 61)],110,_,_,none⟩) (v:=?_) HX.out.2 ?_ ?_);rotate_left
     ·(intro w' hSw;have q0:=hSw.cell 0;have q1:=hSw.cell 1;have q2:=hSw.cell 2;simp only[zzD,zzE,zzF]at q0 q1 q2;go_simp;try rfl)
     (try simp only[Act.put,zzA,zzB,zzC])
     (refine tq (i:=17) (oi:=⟨some 65,.fieldAddr 40 (.tmp 4) 0,0,_,_,none⟩) (v:=?_) HX.out.2 ?_ ?_);rotate_left
     ·(intro w' hSw;have q0:=hSw.cell 0;have q1:=hSw.cell 1;have q2:=hSw.cell 2;simp only[zzD,zzE,zzF]at q0 q1 q2;go_simp;try rfl)
     (try simp only[Act.put,zzA,zzB,zzC])
     refine zw41 (rs:=[4,15]) (by kernel_rfl) (by simp) ?_;refine AllReadyH.cons (o:=⟨some 52,.load 36 (.tmp 51),36,"law.go:20",#[⟨3,.data⟩],none⟩) (by kernel_rfl) (fun K hK=>?_) (AllReadyH.cons (o:=⟨some 63,.buildSlice 36 1 #[(0,.tmp 62)],36,"law.go:20",#[⟨14,.data⟩],none⟩) (by kernel_rfl) (fun K hK=>?_) zw42)
     ·have b0:=(HX.out.1.1.2.2.1.cell p).trans HGET.out
      go_simp;refine hK.out _ _ HX.out.2 fun _=>?_;clear hK K
      (try simp only[Act.put,zzA,zzB,zzC])
      refine zw41 (rs:=[15]) (by kernel_rfl) (by simp) ?_;refine AllReadyH.cons (o:=⟨some 63,.buildSlice 36 1 #[(0,.tmp 62)],36,"law.go:20",#[⟨14,.data⟩],none⟩) (by kernel_rfl) (fun K hK=>?_) zw42;go_simp;have HSRC:=zh (src_rec (P:=Tryz.prog) (e':=110) Tryz.underlying36 WA (cP ⟨tk,px,py⟩) rfl (by intro u hu;simp[cP]at hu;rcases hu with rfl | rfl | rfl<;>rfl) 1)
      have HX:=zh (And.intro (HX.out.1.ext (zxa (zxr WA) (.cells (cP ⟨tk,px,py⟩).toArray 110))) (HX.out.2.ext (zxa (zxr WA) (.cells (cP ⟨tk,px,py⟩).toArray 110))));obtain⟨WC,hWC⟩:∃q,q=WA.alloc (.cells (cP ⟨tk,px,py⟩).toArray 110):=⟨_,rfl⟩;have hWD:WA.alloc (.cells #[.int .i64 tk,.int .i32 px,.int .i32 py] 110)=WC:=hWC.symm;rw[←hWC]at HSRC HX;rw[hWD];clear hWC hWD;refine hK.out _ _ HX.out.2 fun _=>?_;clear hK K
      (try simp only[Act.put,zzA,zzB,zzC])
      refine zw41 (rs:=[16]) (by kernel_rfl) (by simp) ?_;refine AllReadyH.cons (o:=⟨some 64,.call {callee:= .builtin .append,args:= #[.tmp 52,.tmp 63],argTypes:= #[36,36]},36,"law.go:20",#[⟨4,.data⟩,⟨15,.data⟩],none⟩) (by kernel_rfl) (fun K hK=>?_) zw42;obtain⟨v3,w3,hrun,hO3,hG3⟩:=run_rec2 (P:=Tryz.prog) (base:=Bi) 36 110 36 3 16 _ cP Tryz.underlying36 infoP rfl (.slice A i c) _ ds ⟨tk,px,py⟩ HX.out.1.2.1 HX.out.1.2.2.2.1 HSRC.out HDL.out;obtain⟨Ay,cy,hv3,hy1,hy2,hy3,hy4⟩:=hO3.shape;generalize hny:(ds++[(⟨tk,px,py⟩:Pt)]).length=ny at hv3 hy1 hy3;subst hv3;have HX:=zh (And.intro (HX.out.1.app hO3 hG3) (blk_off HX.out.2 hG3 HOB.out));have HRUN:=zh hrun;have HNY:=zh (And.intro hny (And.intro hy1 (And.intro hy2 (And.intro hy3 hy4))));clear hrun hO3 hG3 hny hy1 hy2 hy3 hy4;refine wanted_append rfl (.tmp 52) (.tmp 63) 36 36 rfl (.slice A i c) _ rfl rfl HRUN.out ?_;refine hK.out _ _ HX.out.2 fun _=>?_;clear hK K
      (try simp only[Act.put,zzA,zzB,zzC])
      (refine tq (i:=18) (oi:=⟨some 66,.indexAddr 37 (.tmp 65) (.tmp 48),0,_,_,none⟩) (v:=?_) HX.out.2 ?_ ?_);rotate_left
      ·(intro w' hSw;have q0:=hSw.cell 0;have q1:=hSw.cell 1;have q2:=hSw.cell 2;simp only[zzD,zzE,zzF]at q0 q1 q2;go_simp;try rfl)
      (try simp only[Act.put,zzA,zzB,zzC])
      refine zw41 (rs:=[19]) (by kernel_rfl) (by simp) ?_;refine AllReadyH.cons (o:=⟨none,.store 36 (.tmp 66) (.tmp 64),0,"law.go:20",#[⟨18,.data⟩,⟨16,.data⟩,⟨16,.chain⟩,⟨0,.phase⟩,⟨1,.phase⟩,⟨2,.phase⟩,⟨3,.phase⟩,⟨4,.phase⟩,⟨5,.phase⟩,⟨6,.phase⟩,⟨7,.phase⟩,⟨8,.phase⟩,⟨9,.phase⟩,⟨10,.phase⟩,⟨11,.phase⟩,⟨12,.phase⟩,⟨13,.phase⟩,⟨14,.phase⟩,⟨15,.phase⟩,⟨16,.phase⟩],none⟩) (by kernel_rfl) (fun K hK=>?_) zw42;have b0:=HX.out.1.1.2.2.1.cell p;have b1:=HX.out.1.1.2.2.1.frozen p;rw[HGET.out]at b0;go_simp;have HX:=zh (And.intro (HX.out.1.store (q:=p) (by omega) ⟨Ay,ny,cy⟩) (blk_set HX.out.2 HXB.out p (.slice Ay ny cy)));refine hK.out _ _ HX.out.2 fun _=>?_;clear hK K
      (try simp only[Act.put,zzA,zzB,zzC])
      refine zw39 (by kernel_rfl) ?_ _;go_wp2_with fail
      go_roundg (gi-1)
      case measure=>omega
      case rel=>
       obtain⟨n1,n2,n3,n4,n5⟩:=HNY.out;have hny:ny=i+1:=by rw[←n1,zw0,HLD.out];rfl
       subst hny;refine⟨i+1,Ay,cy,by omega,by go_num,?_,?_,n2,n3,n4,fun a ha=>n5 a ha⟩
       ·have e:=HX.out.1;rw[HSS.out,upd_upd]at e;rw[HTK.out];exact e
       ·intro j hj hji;exact HNX.out j hj hji
     ·go_simp
      have HSRC:=zh (src_rec (P:=Tryz.prog) (e':=110) Tryz.underlying36 WA (cP ⟨tk,px,py⟩) rfl (by intro u hu;simp[cP]at hu;rcases hu with rfl | rfl | rfl<;>rfl) 1)
      have HX:=zh (And.intro (HX.out.1.ext (zxa (zxr WA) (.cells (cP ⟨tk,px,py⟩).toArray 110))) (HX.out.2.ext (zxa (zxr WA) (.cells (cP ⟨tk,px,py⟩).toArray 110))));obtain⟨WC,hWC⟩:∃q,q=WA.alloc (.cells (cP ⟨tk,px,py⟩).toArray 110):=⟨_,rfl⟩;have hWD:WA.alloc (.cells #[.int .i64 tk,.int .i32 px,.int .i32 py] 110)=WC:=hWC.symm;rw[←hWC]at HSRC HX;rw[hWD];clear hWC hWD;refine hK.out _ _ HX.out.2 fun _=>?_;clear hK K
      (try simp only[Act.put,zzA,zzB,zzC])
      refine zw41 (rs:=[4]) (by kernel_rfl) (by simp) ?_;refine AllReadyH.cons (o:=⟨some 52,.load 36 (.tmp 51),36,"law.go:20",#[⟨3,.data⟩],none⟩) (by kernel_rfl) (fun K hK=>?_) zw42;have b0:=(HX.out.1.1.2.2.1.cell p).trans HGET.out;go_simp;refine hK.out _ _ HX.out.2 fun _=>?_;clear hK K
      (try simp only[Act.put,zzA,zzB,zzC])
      refine zw41 (rs:=[16]) (by kernel_rfl) (by simp) ?_;refine AllReadyH.cons (o:=⟨some 64,.call {callee:= .builtin .append,args:= #[.tmp 52,.tmp 63],argTypes:= #[36,36]},36,"law.go:20",#[⟨4,.data⟩,⟨15,.data⟩],none⟩) (by kernel_rfl) (fun K hK=>?_) zw42;obtain⟨v3,w3,hrun,hO3,hG3⟩:=run_rec2 (P:=Tryz.prog) (base:=Bi) 36 110 36 3 16 _ cP Tryz.underlying36 infoP rfl (.slice A i c) _ ds ⟨tk,px,py⟩ HX.out.1.2.1 HX.out.1.2.2.2.1 HSRC.out HDL.out;obtain⟨Ay,cy,hv3,hy1,hy2,hy3,hy4⟩:=hO3.shape;generalize hny:(ds++[(⟨tk,px,py⟩:Pt)]).length=ny at hv3 hy1 hy3;subst hv3;have HX:=zh (And.intro (HX.out.1.app hO3 hG3) (blk_off HX.out.2 hG3 HOB.out));have HRUN:=zh hrun;have HNY:=zh (And.intro hny (And.intro hy1 (And.intro hy2 (And.intro hy3 hy4))));clear hrun hO3 hG3 hny hy1 hy2 hy3 hy4;refine wanted_append rfl (.tmp 52) (.tmp 63) 36 36 rfl (.slice A i c) _ rfl rfl HRUN.out ?_;refine hK.out _ _ HX.out.2 fun _=>?_;clear hK K
      (try simp only[Act.put,zzA,zzB,zzC])
      (refine tq (i:=18) (oi:=⟨some 66,.indexAddr 37 (.tmp 65) (.tmp 48),0,_,_,none⟩) (v:=?_) HX.out.2 ?_ ?_);rotate_left
      ·(intro w' hSw;have q0:=hSw.cell 0;have q1:=hSw.cell 1;have q2:=hSw.cell 2;simp only[zzD,zzE,zzF]at q0 q1 q2;go_simp;try rfl)
      (try simp only[Act.put,zzA,zzB,zzC])
      refine zw41 (rs:=[19]) (by kernel_rfl) (by simp) ?_;refine AllReadyH.cons (o:=⟨none,.store 36 (.tmp 66) (.tmp 64),0,"law.go:20",#[⟨18,.data⟩,⟨16,.data⟩,⟨16,.chain⟩,⟨0,.phase⟩,⟨1,.phase⟩,⟨2,.phase⟩,⟨3,.phase⟩,⟨4,.phase⟩,⟨5,.phase⟩,⟨6,.phase⟩,⟨7,.phase⟩,⟨8,.phase⟩,⟨9,.phase⟩,⟨10,.phase⟩,⟨11,.phase⟩,⟨12,.phase⟩,⟨13,.phase⟩,⟨14,.phase⟩,⟨15,.phase⟩,⟨16,.phase⟩],none⟩) (by kernel_rfl) (fun K hK=>?_) zw42;have b0:=HX.out.1.1.2.2.1.cell p;have b1:=HX.out.1.1.2.2.1.frozen p;rw[HGET.out]at b0;go_simp;have HX:=zh (And.intro (HX.out.1.store (q:=p) (by omega) ⟨Ay,ny,cy⟩) (blk_set HX.out.2 HXB.out p (.slice Ay ny cy)));refine hK.out _ _ HX.out.2 fun _=>?_;clear hK K
      (try simp only[Act.put,zzA,zzB,zzC])
      refine zw39 (by kernel_rfl) ?_ _;go_wp2_with fail
      go_roundg (gi-1)
      case measure=>omega
      case rel=>
       obtain⟨n1,n2,n3,n4,n5⟩:=HNY.out;have hny:ny=i+1:=by rw[←n1,zw0,HLD.out];rfl
       subst hny;refine⟨i+1,Ay,cy,by omega,by go_num,?_,?_,n2,n3,n4,fun a ha=>n5 a ha⟩
       ·have e:=HX.out.1;rw[HSS.out,upd_upd]at e;rw[HTK.out];exact e
       ·intro j hj hji;exact HNX.out j hj hji
    ·obtain rfl:gi=0:=by omega
     obtain rfl:i=nd:=by omega
     have z2:¬(i:Int)<(i:Int):=by omega
     have HTL:Hid ((x.cam p).take i=x.cam p):=zh (List.take_of_length_le (by rw[HLEN.out];omega));go_wp2_with fail
     go_roundg (gh-1)
     case measure=>omega
     case rel=>
      obtain⟨l1,l2,l3,l4⟩:=HL.out;have hkp:∀j,ob<j→j<Bi→wk.heap[j]? =wi.heap[j]? :=HIW.out.2.2.1;have hBk:Bi≤wk.heap.size:=HIW.out.2.2.2.1;have hoB:ob<Bi:=HIW.out.2.2.2.2;refine⟨p+1,by omega,by go_num,upd ss p ⟨A,i,c⟩,HIW.out.1,fun j hj=>?_,fun j hj=>?_,fun j hj q hq=>?_,by omega⟩
      ·rw[upd_ne _ _ (by omega)];exact HNIL.out j (by omega)
      ·by_cases hjp:j=p
       ·subst hjp
        rw[upd_same];have hr:=OwnR.row cP_len HIW.out.2.1;rw[HTL.out]at hr;exact⟨⟨hr,l1,by unfold maxLen at l2;exact l2,l3⟩,fun a ha=>zw9 hoB (l4 a ha)⟩
       ·rw[upd_ne _ _ hjp]
        have h1:=HPRE.out j (by omega);refine⟨⟨h1.1.1.keep (by rw[←hBi.out];exact hBk) (fun a ha hp=>?_),h1.1.2⟩,h1.2⟩;obtain⟨b,o,e,hbl,_⟩:=h1.1.1.2 hp;obtain rfl:=zw13 (ha.symm.trans e);exact hkp b (h1.2 _ ha) (by rw[hBi.out];exact hbl)
      ·by_cases hjp:j=p
       ·subst hjp
        obtain⟨l,hl,rfl⟩:=List.getElem_of_mem hq;exact HWI.out l hl (by rw[←HLEN.out];exact hl)
       ·exact HWT.out j (by omega) q hq
  ·obtain rfl:gh=0:=by omega
   obtain rfl:p=4:=by omega
   have HMK:=zh HB.out.2.2.2.2;have HSP:=zh (HSL.out 4 (by omega));have HRM:=zh HR.out.2;obtain⟨⟨Ad,nd,cd⟩,hsl⟩:∃q,q=t.sl 4:=⟨_,rfl⟩;have hsm:t.sl 4=t.sm:=rfl;rw[←hsl]at HSP;rw[←hsm,←hsl]at HMK;simp only at HMK HSP;clear hsl hsm;obtain⟨Bi,hBi⟩:∃q,q=wi.heap.size:=⟨_,rfl⟩;have HST:Hid (IW w wi hb rb ob Bi tc 113 2 cM (upd ss 4 ⟨none,0,0⟩) (.slice none 0 0) ([]:List Mk) wi):=zh (by
    rw[upd_nil (HNIL.out 4 (zw8 _))];exact⟨HOW.out,OwnR.nil _ _ _ _ _,fun _ _ _=>rfl,by rw[hBi];omega,by rw[hBi];exact HSI.out⟩)
   replace hBi:=zh hBi;go_wp2_with fail
   go_loopg [8] nd (fun gi iv wr=>∃(i:Nat) (A:Option Addr) (c:Nat),i+gi=nd∧iv= .int .i64 (i:Int)∧IW w wi hb rb ob Bi tc 113 2 cM (upd ss 4 ⟨A,i,c⟩) (.slice A i c) (x.marks.take i) wr∧i≤c∧c≤maxLen∧(A=none→i=0∧c=0))
   case atStart=>exact⟨0,none,0,by omega,rfl,HST.out,by omega,by unfold maxLen;omega,fun _=>⟨rfl,rfl⟩⟩
   case round=>
    obtain⟨i,A,c,hi,rfl,hIW,hl1,hl2,hl3⟩:=hrel;obtain⟨wk,rfl⟩:∃wi:World,wi=wr:=⟨_,rfl⟩;obtain⟨gi,rfl⟩:∃gh:Nat,gh=gk:=⟨_,rfl⟩;have HIW:=zh hIW;have HL:=zh (And.intro hl1 (And.intro hl2 hl3));clear hIW hl1 hl2 hl3 HST;have z1:(0:Int)≤(i:Int):=by omega
    have t6:=(HIW.out.1.1.cell 4).trans HSP.out;have HLEN:=zh HMK.out.1.1;have z3:nd≤9223372036854775807:=zw10 HMK.out.2.1 HMK.out.2.2.1;by_cases hli:i<nd
    ·have z2:(i:Int)<(nd:Int):=by omega
     have hke:i<x.marks.length:=by rw[HLEN.out];exact hli
     obtain⟨bd,od,rfl,hbw,hc⟩:=HMK.out.1.2 (by omega);have e2:Ext w wk:=HIW.out.1.2.2.2.1;have q:=fun l hl=>(e2.cell (p:=⟨bd,od+i*2+l,none⟩) hbw).trans (hc i hke l hl);have HTK:Hid (x.marks.take (i+1)=x.marks.take i++[x.marks[i]]):=zh (zw36 hke).symm;have HLD:Hid ((x.marks.take i).length=i):=zh (by rw[zw2];omega);obtain⟨u,hu⟩:∃q,q=x.marks[i]:=⟨_,rfl⟩;rw[←hu]at q HTK;clear hu;obtain⟨tk,s⟩:=u;have a0:=q 0 (by omega);have a1:=q 1 (by omega);simp only[cM,Nat.add_zero,List.getElem?_cons_zero,List.getElem?_cons_succ]at a0 a1;have HMC:Hid (MC hb tc bd (od+i*2) tk s wk):=zh ⟨HIW.out.1.1,a0,a1,by have:=HIW.out.1.2.2.2.2.1;omega⟩;have HOB:Hid (∀q,(Value.slice A i c).ownBlock=some q→hb<q):=zh (fun q e=>by
      have h1:=(zw23 HIW.out.2.1 q e).1;have h2:=HIW.out.2.2.2.2;have h3:=hlt2.out;have h4:=hlt3.out;omega)
     have HXB:Hid (hb<ob):=zh (by have h3:=hlt2.out;have h4:=hlt3.out;omega);clear hc q hke e2 hbw HLEN;go_upto_region 15 with fail;clear a0 a1 t6;obtain⟨ds,hds⟩:∃q,q=x.marks.take i:=⟨_,rfl⟩;rw[←hds]at HTK HLD HIW;have HDL:Hid (ds.length+1≤maxLen∧(ds.length+1)*24≤140737488355328):=zh (by
      have h1:=HRM.out;have h2:=HLD.out;have h3:=HMK.out.1.1;unfold maxLen;constructor<;>omega)
     obtain⟨ss',hss⟩:∃q,q=upd ss 4 ⟨A,i,c⟩:=⟨_,rfl⟩;rw[←hss]at HIW;have HGET:Hid ((cS5 ss')[4]? =some (.slice A i c)):=zh (by rw[cS5_get _ _ (by omega),hss,upd_same]);have HSS:=zh hss;have HTM:=HSP;clear hds hss;have HX:=zh (And.intro (HIW.out.ext (zxd (zxr wk))) (HMC.out.ext (zxd (zxr wk))));refine zw38 (S:=MC hb tc bd (od+i*2) tk s) hmxL HX.out.2 (fun _=>?_);generalize wk.drew=WA at*;clear HIW HMC
     (refine tq (i:=0) (oi:=⟨some 74,.fieldAddr 40 (.tmp 4) 1,0,_,_,none⟩) (v:=?_) HX.out.2 ?_ ?_);rotate_left
     ·(intro w' hSw;have q0:=hSw.t.cell 4;have q1:=hSw.c0;have q2:=hSw.c1;rw[HTM.out]at q0;go_simp;try rfl)
     (try simp only[Act.put,zzA,zzB,zzC])
     (refine tq (i:=2) (oi:=⟨some 76,.fieldAddr 31 (.tmp 1) 1,0,_,_,none⟩) (v:=?_) HX.out.2 ?_ ?_);rotate_left
     ·(intro w' hSw;have q0:=hSw.t.cell 4;have q1:=hSw.c0;have q2:=hSw.c1;rw[HTM.out]at q0;go_simp;try rfl)
     (try simp only[Act.put,zzA,zzB,zzC])
     (refine tq (i:=3) (oi:=⟨some 77,.load 29 (.tmp 76),29,_,_,none⟩) (v:=?_) HX.out.2 ?_ ?_);rotate_left
     ·(intro w' hSw;have q0:=hSw.t.cell 4;have q1:=hSw.c0;have q2:=hSw.c1;rw[HTM.out]at q0;go_simp;try rfl)
     (try simp only[Act.put,zzA,zzB,zzC])
     (refine tq (i:=4) (oi:=⟨some 78,.move (.tmp 8),3,_,_,none⟩) (v:=?_) HX.out.2 ?_ ?_);rotate_left
     ·(intro w' hSw;have q0:=hSw.t.cell 4;have q1:=hSw.c0;have q2:=hSw.c1;rw[HTM.out]at q0;go_simp;try rfl)
     (try simp only[Act.put,zzA,zzB,zzC])
     (refine tq (i:=5) (oi:=⟨some 79,.indexAddr 29 (.tmp 77) (.tmp 78),0,_,_,none⟩) (v:=?_) HX.out.2 ?_ ?_);rotate_left
     ·(intro w' hSw;have q0:=hSw.t.cell 4;have q1:=hSw.c0;have q2:=hSw.c1;rw[HTM.out]at q0;go_simp;try rfl)
     (try simp only[Act.put,zzA,zzB,zzC])
     (refine tq (i:=6) (oi:=⟨some 80,.fieldAddr 116 (.tmp 79) 0,0,_,_,none⟩) (v:=?_) HX.out.2 ?_ ?_);rotate_left
     ·(intro w' hSw;have q0:=hSw.t.cell 4;have q1:=hSw.c0;have q2:=hSw.c1;rw[HTM.out]at q0;go_simp;try rfl)
     (try simp only[Act.put,zzA,zzB,zzC])
     (refine tq (i:=7) (oi:=⟨some 81,.load 3 (.tmp 80),3,_,_,none⟩) (v:=?_) HX.out.2 ?_ ?_);rotate_left
     ·(intro w' hSw;have q0:=hSw.t.cell 4;have q1:=hSw.c0;have q2:=hSw.c1;rw[HTM.out]at q0;go_simp;try rfl)
     (try simp only[Act.put,zzA,zzB,zzC])
     (refine tq (i:=8) (oi:=⟨some 82,.fieldAddr 31 (.tmp 1) 1,0,_,_,none⟩) (v:=?_) HX.out.2 ?_ ?_);rotate_left
     ·(intro w' hSw;have q0:=hSw.t.cell 4;have q1:=hSw.c0;have q2:=hSw.c1;rw[HTM.out]at q0;go_simp;try rfl)
     (try simp only[Act.put,zzA,zzB,zzC])
     (refine tq (i:=9) (oi:=⟨some 83,.load 29 (.tmp 82),29,_,_,none⟩) (v:=?_) HX.out.2 ?_ ?_);rotate_left
     ·(intro w' hSw;have q0:=hSw.t.cell 4;have q1:=hSw.c0;have q2:=hSw.c1;rw[HTM.out]at q0;go_simp;try rfl)
     (try simp only[Act.put,zzA,zzB,zzC])
     (refine tq (i:=10) (oi:=⟨some 84,.move (.tmp 8),3,_,_,none⟩) (v:=?_) HX.out.2 ?_ ?_);rotate_left
     ·(intro w' hSw;have q0:=hSw.t.cell 4;have q1:=hSw.c0;have q2:=hSw.c1;rw[HTM.out]at q0;go_simp;try rfl)
     (try simp only[Act.put,zzA,zzB,zzC])
     (refine tq (i:=11) (oi:=⟨some 85,.indexAddr 29 (.tmp 83) (.tmp 84),0,_,_,none⟩) (v:=?_) HX.out.2 ?_ ?_);rotate_left
     ·(intro w' hSw;have q0:=hSw.t.cell 4;have q1:=hSw.c0;have q2:=hSw.c1;rw[HTM.out]at q0;go_simp;try rfl)
     (try simp only[Act.put,zzA,zzB,zzC])
     (refine tq (i:=12) (oi:=⟨some 86,.fieldAddr 116 (.tmp 85) 1,0,_,_,none⟩) (v:=?_) HX.out.2 ?_ ?_);rotate_left
     ·(intro w' hSw;have q0:=hSw.t.cell 4;have q1:=hSw.c0;have q2:=hSw.c1;rw[HTM.out]at q0;go_simp;try rfl)
     (try simp only[Act.put,zzA,zzB,zzC])
     (refine tq (i:=13) (oi:=⟨some 87,.load 9 (.tmp 86),9,_,_,none⟩) (v:=?_) HX.out.2 ?_ ?_);rotate_left
     ·(intro w' hSw;have q0:=hSw.t.cell 4;have q1:=hSw.c0;have q2:=hSw.c1;rw[HTM.out]at q0;go_simp;try rfl)
     (try simp only[Act.put,zzA,zzB,zzC])
     (refine tq (i:=14) (oi:=⟨some 88,.build 113 #[(0,.tmp 81),(1,.tmp 87)],113,_,_,none⟩) (v:=?_) HX.out.2 ?_ ?_);rotate_left
     ·(intro w' hSw;have q0:=hSw.t.cell 4;have q1:=hSw.c0;have q2:=hSw.c1;rw[HTM.out]at q0;go_simp;try rfl)
     (try simp only[Act.put,zzA,zzB,zzC])
     refine zw41 (rs:=[1,15]) (by kernel_rfl) (by simp) ?_;refine AllReadyH.cons (o:=⟨some 75,.load 38 (.tmp 74),38,"law.go:24",#[⟨0,.data⟩],none⟩) (by kernel_rfl) (fun K hK=>?_) (AllReadyH.cons (o:=⟨some 89,.buildSlice 38 1 #[(0,.tmp 88)],38,"law.go:24",#[⟨14,.data⟩],none⟩) (by kernel_rfl) (fun K hK=>?_) zw42)
     ·have b0:=(HX.out.1.1.2.2.1.cell 4).trans HGET.out
      go_simp;refine hK.out _ _ HX.out.2 fun _=>?_;clear hK K
      (try simp only[Act.put,zzA,zzB,zzC])
      refine zw41 (rs:=[15]) (by kernel_rfl) (by simp) ?_;refine AllReadyH.cons (o:=⟨some 89,.buildSlice 38 1 #[(0,.tmp 88)],38,"law.go:24",#[⟨14,.data⟩],none⟩) (by kernel_rfl) (fun K hK=>?_) zw42;go_simp;have HSRC:=zh (src_rec (P:=Tryz.prog) (e':=113) Tryz.underlying38 WA (cM ⟨tk,s⟩) rfl (by intro u hu;simp[cM]at hu;rcases hu with rfl | rfl<;>rfl) 1)
      have HX:=zh (And.intro (HX.out.1.ext (zxa (zxr WA) (.cells (cM ⟨tk,s⟩).toArray 113))) (HX.out.2.ext (zxa (zxr WA) (.cells (cM ⟨tk,s⟩).toArray 113))));obtain⟨WC,hWC⟩:∃q,q=WA.alloc (.cells (cM ⟨tk,s⟩).toArray 113):=⟨_,rfl⟩;have hWD:WA.alloc (.cells #[.int .i64 tk,.string s] 113)=WC:=hWC.symm;rw[←hWC]at HSRC HX;rw[hWD];clear hWC hWD;refine hK.out _ _ HX.out.2 fun _=>?_;clear hK K
      (try simp only[Act.put,zzA,zzB,zzC])
      refine zw41 (rs:=[16]) (by kernel_rfl) (by simp) ?_;refine AllReadyH.cons (o:=⟨some 90,.call {callee:= .builtin .append,args:= #[.tmp 75,.tmp 89],argTypes:= #[38,38]},38,"law.go:24",#[⟨1,.data⟩,⟨15,.data⟩],none⟩) (by kernel_rfl) (fun K hK=>?_) zw42;obtain⟨v3,w3,hrun,hO3,hG3⟩:=run_rec2 (P:=Tryz.prog) (base:=Bi) 38 113 38 2 24 _ cM Tryz.underlying38 infoM rfl (.slice A i c) _ ds ⟨tk,s⟩ HX.out.1.2.1 HX.out.1.2.2.2.1 HSRC.out HDL.out;obtain⟨Ay,cy,hv3,hy1,hy2,hy3,hy4⟩:=hO3.shape;generalize hny:(ds++[(⟨tk,s⟩:Mk)]).length=ny at hv3 hy1 hy3;subst hv3;have HX:=zh (And.intro (HX.out.1.app hO3 hG3) (MC.off HX.out.2 hG3 HOB.out));have HRUN:=zh hrun;have HNY:=zh (And.intro hny (And.intro hy1 (And.intro hy2 (And.intro hy3 hy4))));clear hrun hO3 hG3 hny hy1 hy2 hy3 hy4;refine wanted_append rfl (.tmp 75) (.tmp 89) 38 38 rfl (.slice A i c) _ rfl rfl HRUN.out ?_;refine hK.out _ _ HX.out.2 fun _=>?_;clear hK K
      (try simp only[Act.put,zzA,zzB,zzC])
      (refine tq (i:=17) (oi:=⟨some 91,.fieldAddr 40 (.tmp 4) 1,0,_,_,none⟩) (v:=?_) HX.out.2 ?_ ?_);rotate_left
      ·(intro w' hSw;have q0:=hSw.t.cell 4;have q1:=hSw.c0;have q2:=hSw.c1;rw[HTM.out]at q0;go_simp;try rfl)
      (try simp only[Act.put,zzA,zzB,zzC])
      refine zw41 (rs:=[18]) (by kernel_rfl) (by simp) ?_;refine AllReadyH.cons (o:=⟨none,.store 38 (.tmp 91) (.tmp 90),0,"law.go:24",#[⟨17,.data⟩,⟨16,.data⟩,⟨16,.chain⟩,⟨0,.phase⟩,⟨1,.phase⟩,⟨2,.phase⟩,⟨3,.phase⟩,⟨4,.phase⟩,⟨5,.phase⟩,⟨6,.phase⟩,⟨7,.phase⟩,⟨8,.phase⟩,⟨9,.phase⟩,⟨10,.phase⟩,⟨11,.phase⟩,⟨12,.phase⟩,⟨13,.phase⟩,⟨14,.phase⟩,⟨15,.phase⟩,⟨16,.phase⟩],none⟩) (by kernel_rfl) (fun K hK=>?_) zw42;have b0:=HX.out.1.1.2.2.1.cell 4;have b1:=HX.out.1.1.2.2.1.frozen 4;rw[HGET.out]at b0;go_simp;have HX:=zh (And.intro (HX.out.1.store (q:=4) (by omega) ⟨Ay,ny,cy⟩) (MC.set HX.out.2 HXB.out 4 (.slice Ay ny cy)));refine hK.out _ _ HX.out.2 fun _=>?_;clear hK K
      (try simp only[Act.put,zzA,zzB,zzC])
      refine zw39 (by kernel_rfl) ?_ _;go_wp2_with fail
      go_roundg (gi-1)
      case measure=>omega
      case rel=>
       obtain⟨n1,n2,n3,n4,n5⟩:=HNY.out;have hny:ny=i+1:=by rw[←n1,zw0,HLD.out];rfl
       subst hny;refine⟨i+1,Ay,cy,by omega,by go_num,?_,n2,n3,n4⟩;have e:=HX.out.1;rw[HSS.out,upd_upd]at e;rw[HTK.out];exact e
     ·go_simp
      have HSRC:=zh (src_rec (P:=Tryz.prog) (e':=113) Tryz.underlying38 WA (cM ⟨tk,s⟩) rfl (by intro u hu;simp[cM]at hu;rcases hu with rfl | rfl<;>rfl) 1)
      have HX:=zh (And.intro (HX.out.1.ext (zxa (zxr WA) (.cells (cM ⟨tk,s⟩).toArray 113))) (HX.out.2.ext (zxa (zxr WA) (.cells (cM ⟨tk,s⟩).toArray 113))));obtain⟨WC,hWC⟩:∃q,q=WA.alloc (.cells (cM ⟨tk,s⟩).toArray 113):=⟨_,rfl⟩;have hWD:WA.alloc (.cells #[.int .i64 tk,.string s] 113)=WC:=hWC.symm;rw[←hWC]at HSRC HX;rw[hWD];clear hWC hWD;refine hK.out _ _ HX.out.2 fun _=>?_;clear hK K
      (try simp only[Act.put,zzA,zzB,zzC])
      refine zw41 (rs:=[1]) (by kernel_rfl) (by simp) ?_;refine AllReadyH.cons (o:=⟨some 75,.load 38 (.tmp 74),38,"law.go:24",#[⟨0,.data⟩],none⟩) (by kernel_rfl) (fun K hK=>?_) zw42;have b0:=(HX.out.1.1.2.2.1.cell 4).trans HGET.out;go_simp;refine hK.out _ _ HX.out.2 fun _=>?_;clear hK K
      (try simp only[Act.put,zzA,zzB,zzC])
      refine zw41 (rs:=[16]) (by kernel_rfl) (by simp) ?_;refine AllReadyH.cons (o:=⟨some 90,.call {callee:= .builtin .append,args:= #[.tmp 75,.tmp 89],argTypes:= #[38,38]},38,"law.go:24",#[⟨1,.data⟩,⟨15,.data⟩],none⟩) (by kernel_rfl) (fun K hK=>?_) zw42;obtain⟨v3,w3,hrun,hO3,hG3⟩:=run_rec2 (P:=Tryz.prog) (base:=Bi) 38 113 38 2 24 _ cM Tryz.underlying38 infoM rfl (.slice A i c) _ ds ⟨tk,s⟩ HX.out.1.2.1 HX.out.1.2.2.2.1 HSRC.out HDL.out;obtain⟨Ay,cy,hv3,hy1,hy2,hy3,hy4⟩:=hO3.shape;generalize hny:(ds++[(⟨tk,s⟩:Mk)]).length=ny at hv3 hy1 hy3;subst hv3;have HX:=zh (And.intro (HX.out.1.app hO3 hG3) (MC.off HX.out.2 hG3 HOB.out));have HRUN:=zh hrun;have HNY:=zh (And.intro hny (And.intro hy1 (And.intro hy2 (And.intro hy3 hy4))));clear hrun hO3 hG3 hny hy1 hy2 hy3 hy4;refine wanted_append rfl (.tmp 75) (.tmp 89) 38 38 rfl (.slice A i c) _ rfl rfl HRUN.out ?_;refine hK.out _ _ HX.out.2 fun _=>?_;clear hK K
      (try simp only[Act.put,zzA,zzB,zzC])
      (refine tq (i:=17) (oi:=⟨some 91,.fieldAddr 40 (.tmp 4) 1,0,_,_,none⟩) (v:=?_) HX.out.2 ?_ ?_);rotate_left
      ·(intro w' hSw;have q0:=hSw.t.cell 4;have q1:=hSw.c0;have q2:=hSw.c1;rw[HTM.out]at q0;go_simp;try rfl)
      (try simp only[Act.put,zzA,zzB,zzC])
      refine zw41 (rs:=[18]) (by kernel_rfl) (by simp) ?_;refine AllReadyH.cons (o:=⟨none,.store 38 (.tmp 91) (.tmp 90),0,"law.go:24",#[⟨17,.data⟩,⟨16,.data⟩,⟨16,.chain⟩,⟨0,.phase⟩,⟨1,.phase⟩,⟨2,.phase⟩,⟨3,.phase⟩,⟨4,.phase⟩,⟨5,.phase⟩,⟨6,.phase⟩,⟨7,.phase⟩,⟨8,.phase⟩,⟨9,.phase⟩,⟨10,.phase⟩,⟨11,.phase⟩,⟨12,.phase⟩,⟨13,.phase⟩,⟨14,.phase⟩,⟨15,.phase⟩,⟨16,.phase⟩],none⟩) (by kernel_rfl) (fun K hK=>?_) zw42;have b0:=HX.out.1.1.2.2.1.cell 4;have b1:=HX.out.1.1.2.2.1.frozen 4;rw[HGET.out]at b0;go_simp;have HX:=zh (And.intro (HX.out.1.store (q:=4) (by omega) ⟨Ay,ny,cy⟩) (MC.set HX.out.2 HXB.out 4 (.slice Ay ny cy)));refine hK.out _ _ HX.out.2 fun _=>?_;clear hK K
      (try simp only[Act.put,zzA,zzB,zzC])
      refine zw39 (by kernel_rfl) ?_ _;go_wp2_with fail
      go_roundg (gi-1)
      case measure=>omega
      case rel=>
       obtain⟨n1,n2,n3,n4,n5⟩:=HNY.out;have hny:ny=i+1:=by rw[←n1,zw0,HLD.out];rfl
       subst hny;refine⟨i+1,Ay,cy,by omega,by go_num,?_,n2,n3,n4⟩;have e:=HX.out.1;rw[HSS.out,upd_upd]at e;rw[HTK.out];exact e
    ·obtain rfl:gi=0:=by omega
     obtain rfl:i=nd:=by omega
     have z2:¬(i:Int)<(i:Int):=by omega
     have HTL:Hid (x.marks.take i=x.marks):=zh (List.take_of_length_le (by rw[HLEN.out];omega));obtain⟨ss',hss⟩:∃q,q=upd ss 4 ⟨A,i,c⟩:=⟨_,rfl⟩;have HIX:=HIW;rw[←hss]at HIX;have HPP:Hid (∀j,j<4→PtsV wk (ss' j).A (ss' j).n (ss' j).c (x.cam j)∧∀a,(ss' j).A=some a→ob<a.block):=zh (fun j hj=>by
      rw[hss,upd_ne _ _ (by omega)];have h1:=HPRE.out j hj;refine⟨⟨h1.1.1.keep (by rw[←hBi.out];exact HIW.out.2.2.2.1) (fun a ha hp=>?_),h1.1.2⟩,h1.2⟩;obtain⟨b,o,e,hbl,_⟩:=h1.1.1.2 hp;obtain rfl:=zw13 (ha.symm.trans e);exact HIW.out.2.2.1 b (h1.2 _ ha) (by rw[hBi.out];exact hbl))
     have HMM:Hid (RowR wk (ss' 4).A (ss' 4).n 2 cM x.marks∧(ss' 4).n≤(ss' 4).c∧(ss' 4).c≤9223372036854775807∧((ss' 4).A=none→(ss' 4).n=0∧(ss' 4).c=0)∧∀a,(ss' 4).A=some a→0<(ss' 4).n→ob<a.block):=zh (by
      have hr:=OwnR.row cM_len HIW.out.2.1;rw[HTL.out]at hr;have h2:=HL.out.2.1;unfold maxLen at h2;have hsh:=HIW.out.2.1.shape;rw[hss,upd_same];refine⟨hr,HL.out.1,h2,HL.out.2.2,fun a ha h0=>?_⟩;obtain⟨A',c',e,_,_,_,h4⟩:=hsh;obtain⟨e1,e2,e3⟩:=Value.slice.inj e;subst e1;exact zw9 HIW.out.2.2.2.2 (h4 a ha))
     clear hss HIW t6;obtain⟨s0,hs0⟩:∃s,s=ss' 0:=⟨_,rfl⟩;obtain⟨s1,hs1⟩:∃s,s=ss' 1:=⟨_,rfl⟩;obtain⟨s2,hs2⟩:∃s,s=ss' 2:=⟨_,rfl⟩;obtain⟨s3,hs3⟩:∃s,s=ss' 3:=⟨_,rfl⟩;obtain⟨s4,hs4⟩:∃s,s=ss' 4:=⟨_,rfl⟩;have HOX:=zh HIX.out.1.2.2.1;have P0:=zh (HPP.out 0 (by omega));have P1:=zh (HPP.out 1 (by omega));have P2:=zh (HPP.out 2 (by omega));have P3:=zh (HPP.out 3 (by omega));simp only[cS5]at HOX;rw[←hs0,←hs1,←hs2,←hs3,←hs4]at HOX;rw[←hs0]at P0;rw[←hs1]at P1;rw[←hs2]at P2;rw[←hs3]at P3;rw[←hs4]at HMM;have HRX:=zh HIX.out.1.2.1;have HEX:=zh HIX.out.1.2.2.2.1;have HWR:Hid (w.heap.size≤rb):=zh (by have:=HIX.out.1.2.2.2.2.1;have:=hlt2.out;omega);simp only[zeroT]at HRX;have o0:=HOX.out.cell 0;have o1:=HOX.out.cell 1;have o2:=HOX.out.cell 2;have o3:=HOX.out.cell 3;have o4:=HOX.out.cell 4;simp only[zzD,zzE,zzF]at o0 o1 o2 o3 o4;have t7:wk.cell? ⟨hb,4,none⟩=some (.slice Ad i cd):=(HIX.out.1.1.cell 4).trans HSP.out;have f:=fun i=>HRX.out.frozen i;have f':=fun i=>HRX.out.cell i;clear hs0 hs1 hs2 hs3 hs4 HPP HIX;go_wp2_with fail;have hb1:=((((HRX.out.set_ 0 (.slice s0.A s0.n s0.c)).set_ 1 (.slice s1.A s1.n s1.c)).set_ 2 (.slice s2.A s2.n s2.c)).set_ 3 (.slice s3.A s3.n s3.c)).set_ 4 (.slice s4.A s4.n s4.c);refine bodyPost_ret (v:= .tuple #[.agg (Tv.cells ⟨s0,s1,s2,s3,s4⟩),.bool true]) (results_cell2 Tryz.results18 _ _ rb 40 _ (0,0) _ rfl hb1 _ rfl Tryz.underlying40 rfl (by kernel_rfl)) rfl ?_;have hwr:w.heap.size≤rb:=HWR.out;refine⟨ext_set (ext_set (ext_set (ext_set (ext_set HEX.out hwr _) hwr _) hwr _) hwr _) hwr _,⟨s0,s1,s2,s3,s4⟩,true,rfl,?_,fun _=>rfl⟩
     intro _;have hkr:∀k,ob<k→(((((wk.setCell ⟨rb,0,none⟩ (.slice s0.A s0.n s0.c)).setCell ⟨rb,1,none⟩ (.slice s1.A s1.n s1.c)).setCell ⟨rb,2,none⟩ (.slice s2.A s2.n s2.c)).setCell ⟨rb,3,none⟩ (.slice s3.A s3.n s3.c)).setCell ⟨rb,4,none⟩ (.slice s4.A s4.n s4.c)).heap[k]? =wk.heap[k]? :=fun k h1=>by
      have h2:k≠rb:=by have:=hlt3.out;omega
      rw[zw46 _ ⟨rb,4,none⟩ _ _ h2,zw46 _ ⟨rb,3,none⟩ _ _ h2,zw46 _ ⟨rb,2,none⟩ _ _ h2,zw46 _ ⟨rb,1,none⟩ _ _ h2,zw46 _ ⟨rb,0,none⟩ _ _ h2]
     have hsr:wk.heap.size≤(((((wk.setCell ⟨rb,0,none⟩ (.slice s0.A s0.n s0.c)).setCell ⟨rb,1,none⟩ (.slice s1.A s1.n s1.c)).setCell ⟨rb,2,none⟩ (.slice s2.A s2.n s2.c)).setCell ⟨rb,3,none⟩ (.slice s3.A s3.n s3.c)).setCell ⟨rb,4,none⟩ (.slice s4.A s4.n s4.c)).heap.size:=by simp[World.setCell]
     generalize (((((wk.setCell ⟨rb,0,none⟩ (.slice s0.A s0.n s0.c)).setCell ⟨rb,1,none⟩ (.slice s1.A s1.n s1.c)).setCell ⟨rb,2,none⟩ (.slice s2.A s2.n s2.c)).setCell ⟨rb,3,none⟩ (.slice s3.A s3.n s3.c)).setCell ⟨rb,4,none⟩ (.slice s4.A s4.n s4.c))=WR at*;refine⟨⟨⟨P0.out.1.1.keep hsr (fun a ha _=>hkr _ (P0.out.2 a ha)),P0.out.1.2⟩,⟨P1.out.1.1.keep hsr (fun a ha _=>hkr _ (P1.out.2 a ha)),P1.out.1.2⟩,⟨P2.out.1.1.keep hsr (fun a ha _=>hkr _ (P2.out.2 a ha)),P2.out.1.2⟩,⟨P3.out.1.1.keep hsr (fun a ha _=>hkr _ (P3.out.2 a ha)),P3.out.1.2⟩,⟨HMM.out.1.keep hsr (fun a ha h0=>hkr _ (HMM.out.2.2.2.2 a ha h0)),HMM.out.2.1,HMM.out.2.2.1,HMM.out.2.2.2.1,HMK.out.2.2.2.2⟩⟩,?_,fun a ha=>?_,fun a ha h0=>?_⟩
     ·intro cc hcc q hq
      simp only[Tk.cams,zw30,List.not_mem_nil,or_false]at hcc;rcases hcc with rfl | rfl | rfl | rfl
      ·exact HWT.out 0 (by omega) q hq
      ·exact HWT.out 1 (by omega) q hq
      ·exact HWT.out 2 (by omega) q hq
      ·exact HWT.out 3 (by omega) q hq
     ·have h1:=hlt3.out
      rcases ha with ha | ha | ha | ha
      ·have:=P0.out.2 a ha;omega
      ·have:=P1.out.2 a ha;omega
      ·have:=P2.out.2 a ha;omega
      ·have:=P3.out.2 a ha;omega
     ·have h1:=hlt3.out
      have:=HMM.out.2.2.2.2 a ha h0;omega
end Go.Proofs.YtidnboeihkeljaaGreatDoor.Trk
