
import Derived.Test.YtidnboeihkeljaaGreatDoorTrkG
import Derived.Lib.SliceRun
import Derived.LoopN
set_option maxHeartbeats 16000000
set_option maxRecDepth 100000
set_option linter.all false
open Go.ChangeShapes Go.WideShapes Go.ChangeAt Go.RowKit
namespace Go.Proofs.YtidnboeihkeljaaGreatDoor.Trk
open Rec
section
variable {α : Type}
end
def ClPost {α:Type} (w:World) (e:TypeId) (k:Nat) (f:α→List Value) (xs:List α) (r:Ending) (w':World):Prop:=
 ∃v,r= .returned v∧OwnR w.heap.size w' e k f v xs∧Ext w w'
open Log (OwnR_keep)
def Below4 (t:Tv) (L B:Nat):Prop:=(∀a,t.s0.A=some a→L≤a.block∧a.block<B)∧(∀a,t.s1.A=some a→L≤a.block∧a.block<B)∧(∀a,t.s2.A=some a→L≤a.block∧a.block<B)∧(∀a,t.s3.A=some a→L≤a.block∧a.block<B)
def CpPost (w:World) (x:Tk) (e:Ending) (w':World):Prop:=
 Ext w w'∧∃(t:Tv) (B:Nat),e= .returned (.agg t.cells)∧TkV w' t x∧w.heap.size≤B∧B≤w'.heap.size∧OwnR B w' 113 2 cM (.slice t.sm.A t.sm.n t.sm.c) x.marks∧Below4 t w.heap.size B
def cR (p:Pt):List Value:=[.int .i64 p.tick,.int .i64 p.x,.int .i64 p.y]
theorem cR_len (p:Pt):(cR p).length=3:=rfl
def PtsR (w:World) (A:Option Addr) (n c:Nat) (ps:List Pt):Prop:=RowR w A n 3 cR ps∧n≤c∧c≤9223372036854775807∧(A=none→n=0∧c=0)
def RfV (w:World) (t:Tv) (x:Tk):Prop:=PtsR w t.s0.A t.s0.n t.s0.c x.c0∧PtsR w t.s1.A t.s1.n t.s1.c x.c1∧PtsR w t.s2.A t.s2.n t.s2.c x.c2∧PtsR w t.s3.A t.s3.n t.s3.c x.c3∧MksV w t.sm.A t.sm.n t.sm.c x.marks
theorem PtsR.ext {w w':World} {A:Option Addr} {n c:Nat} {ps:List Pt} (h:PtsR w A n c ps) (e:Ext w w'):PtsR w' A n c ps:=⟨h.1.ext e,h.2⟩
theorem RfV.ext {w w':World} {t:Tv} {x:Tk} (h:RfV w t x) (e:Ext w w'):RfV w' t x:=⟨h.1.ext e,h.2.1.ext e,h.2.2.1.ext e,h.2.2.2.1.ext e,h.2.2.2.2.ext e⟩
def Small (x:Tk):Prop:=x.marks.length≤60∧(∀m∈x.marks,m.name.size≤200)∧∀c∈x.cams,c.length≤100
def GrPost (w:World) (x:Tk) (e:Ending) (w':World):Prop:=∃b,e= .returned (.bool b)∧Ext w w'∧(b=false→Small x)
theorem great_tr (t:Tv) (x:Tk) (w:World) (hB:RfV w t x):
  Calls Tryz.prog 19 #[.agg t.cells] w (GrPost w x):=by
 have HE0:=zh (zxa (zxr w) (.cells t.cells 31));have HH0:=zh (Blk.new w 31 t.cells);have HB:=zh (hB.ext HE0.out);clear hB;obtain⟨⟨A0,n0,c0⟩,⟨A1,n1,c1⟩,⟨A2,n2,c2⟩,⟨A3,n3,c3⟩,⟨Am,nm,cm⟩⟩:=t;obtain⟨p0,p1,p2,p3,ms⟩:=x;simp only[Tv.cells]at*;have e0:p0.length=n0:=HB.out.1.1.1;have e1:p1.length=n1:=HB.out.2.1.1.1;have e2:p2.length=n2:=HB.out.2.2.1.1.1;have e3:p3.length=n3:=HB.out.2.2.2.1.1.1;have em:ms.length=nm:=HB.out.2.2.2.2.1.1;replace e0:=zh e0;replace e1:=zh e1;replace e2:=zh e2;replace e3:=zh e3;replace em:=zh em;go_enter Tryz.func19,Tryz.ntmps19;go_upto_region 1 with fail;obtain⟨w0,hw0⟩:∃q,q=w.alloc (.cells #[.slice A0 n0 c0,.slice A1 n1 c1,.slice A2 n2 c2,.slice A3 n3 c3,.slice Am nm cm] 31):=⟨_,rfl⟩;rw[←hw0]at HE0 HH0 HB ⊢;clear hw0;generalize w.heap.size=hb at*;have h0:=HH0.out.cell 0;have h1:=HH0.out.cell 1;have h2:=HH0.out.cell 2;have h3:=HH0.out.cell 3;have h4:=HH0.out.cell 4;simp only[zzD,zzE,zzF]at h0 h1 h2 h3 h4;by_cases hm:60<nm
 ·have hm':(60:Int)<(nm:Int):=by omega
  go_wp2_with fail;go_ret;exact⟨true,rfl,HE0.out,fun h=>by cases h⟩
 ·have hm':¬(60:Int)<(nm:Int):=by omega
  go_wp2_with fail
  go_loopg [3] nm (fun gh iv wr=>∃(k:Nat),k+gh=nm∧iv= .int .i64 (k:Int)∧wr=w0∧∀j (hj:j<ms.length),j<k→ms[j].name.size≤200)
  case atStart=>exact⟨0,by omega,rfl,rfl,fun j hj h=>absurd h (by omega)⟩
  case round=>
   obtain⟨k,hk,rfl,hwr,hRk⟩:=hrel;replace hwr:=hwr.symm;subst hwr;obtain⟨gh,rfl⟩:∃gh:Nat,gh=gk:=⟨_,rfl⟩;have HRK:=zh hRk;clear hRk;have y1:(0:Int)≤(k:Int):=by omega
   by_cases hlt:k<nm
   ·have hke:k<ms.length:=by rw[em.out];exact hlt
    obtain⟨b,o,rfl,hbw,hc⟩:=HB.out.2.2.2.2.1.2 (show 0<nm by omega);have q:=fun i hi=>hc k hke i hi;have hmem:ms[k]∈ms:=zw25 _;have hsz:=HB.out.2.2.2.2.2.2.2.2 _ hmem;have HNX:Hid (ms[k].name.size≤200→∀j (hj:j<ms.length),j<k+1→ms[j].name.size≤200):=zh (fun h j hj hjk=>by
     by_cases hjk2:j=k
     ·subst hjk2;exact h
     ·exact HRK.out j hj (by omega))
    generalize ms[k]=u at q hsz HNX;obtain⟨tk,s⟩:=u;have a0:=q 0 (by omega);have a1:=q 1 (by omega);simp only[cM,Nat.add_zero,List.getElem?_cons_zero,List.getElem?_cons_succ]at a0 a1 hsz HNX;have y2:(k:Int)<(nm:Int):=by omega
    clear hc q hke hmem;by_cases h200:s.size≤200
    ·have h200':¬(200:Int)<(s.size:Int):=by omega
     have HF:=zh (HNX.out h200);clear HNX;go_wp2_with fail
     go_roundg (gh-1)
     case measure=>omega
     case rel=>exact⟨k+1,by omega,by go_num,rfl,HF.out⟩
    ·have h200':(200:Int)<(s.size:Int):=by omega
     go_wp2_with fail;go_ret;exact⟨true,rfl,HE0.out,fun h=>by cases h⟩
   ·obtain rfl:gh=0:=by omega
    obtain rfl:k=nm:=by omega
    have y2:¬(k:Int)<(k:Int):=by omega
    have HMS:Hid (ms.length≤60∧∀m∈ms,m.name.size≤200):=zh ⟨by rw[em.out];omega,fun m hm=>by
     obtain⟨j,hj,rfl⟩:=List.getElem_of_mem hm;exact HRK.out j hj (by rw[←em.out];exact hj)⟩
    go_wp2_with fail
    go_loopg [4] 4 (fun gh iv wr=>∃(k:Nat),k+gh=4∧iv= .int .i64 (k:Int)∧wr=w0∧∀j (hj:j< [p0,p1,p2,p3].length),j<k→([p0,p1,p2,p3][j]).length≤100)
    case atStart=>exact⟨0,by omega,rfl,rfl,fun j hj h=>absurd h (by omega)⟩
    case round=>
     obtain⟨k,hk,rfl,hwr,hRk⟩:=hrel;replace hwr:=hwr.symm;subst hwr;obtain⟨gh,rfl⟩:∃gh:Nat,gh=gk:=⟨_,rfl⟩;have HRK:=zh hRk;clear hRk;have hk5:k=0∨k=1∨k=2∨k=3∨k=4:=by omega
     rcases hk5 with rfl | rfl | rfl | rfl | rfl
     ·by_cases h100:n0≤100
      ·have h100':¬(100:Int)<(n0:Int):=by omega
       have HF:Hid (∀j (hj:j< [p0,p1,p2,p3].length),j<1→([p0,p1,p2,p3][j]).length≤100):=zh (fun j hj hjk=>by
        by_cases hjk2:j=0
        ·subst hjk2;show p0.length≤100;rw[e0.out];exact h100
        ·exact HRK.out j hj (by omega))
       go_wp2_with fail
       go_roundg (gh-1)
       case measure=>omega
       case rel=>exact⟨1,by omega,by rfl,rfl,HF.out⟩
      ·have h100':(100:Int)<(n0:Int):=by omega
       go_wp2_with fail;go_ret;exact⟨true,rfl,HE0.out,fun h=>by cases h⟩
     ·by_cases h100:n1≤100
      ·have h100':¬(100:Int)<(n1:Int):=by omega
       have HF:Hid (∀j (hj:j< [p0,p1,p2,p3].length),j<2→([p0,p1,p2,p3][j]).length≤100):=zh (fun j hj hjk=>by
        by_cases hjk2:j=1
        ·subst hjk2;show p1.length≤100;rw[e1.out];exact h100
        ·exact HRK.out j hj (by omega))
       go_wp2_with fail
       go_roundg (gh-1)
       case measure=>omega
       case rel=>exact⟨2,by omega,by rfl,rfl,HF.out⟩
      ·have h100':(100:Int)<(n1:Int):=by omega
       go_wp2_with fail;go_ret;exact⟨true,rfl,HE0.out,fun h=>by cases h⟩
     ·by_cases h100:n2≤100
      ·have h100':¬(100:Int)<(n2:Int):=by omega
       have HF:Hid (∀j (hj:j< [p0,p1,p2,p3].length),j<3→([p0,p1,p2,p3][j]).length≤100):=zh (fun j hj hjk=>by
        by_cases hjk2:j=2
        ·subst hjk2;show p2.length≤100;rw[e2.out];exact h100
        ·exact HRK.out j hj (by omega))
       go_wp2_with fail
       go_roundg (gh-1)
       case measure=>omega
       case rel=>exact⟨3,by omega,by rfl,rfl,HF.out⟩
      ·have h100':(100:Int)<(n2:Int):=by omega
       go_wp2_with fail;go_ret;exact⟨true,rfl,HE0.out,fun h=>by cases h⟩
     ·by_cases h100:n3≤100
      ·have h100':¬(100:Int)<(n3:Int):=by omega
       have HF:Hid (∀j (hj:j< [p0,p1,p2,p3].length),j<4→([p0,p1,p2,p3][j]).length≤100):=zh (fun j hj hjk=>by
        by_cases hjk2:j=3
        ·subst hjk2;show p3.length≤100;rw[e3.out];exact h100
        ·exact HRK.out j hj (by omega))
       go_wp2_with fail
       go_roundg (gh-1)
       case measure=>omega
       case rel=>exact⟨4,by omega,by rfl,rfl,HF.out⟩
      ·have h100':(100:Int)<(n3:Int):=by omega
       go_wp2_with fail;go_ret;exact⟨true,rfl,HE0.out,fun h=>by cases h⟩
     ·obtain rfl:gh=0:=by omega
      go_wp2_with fail;go_ret;refine⟨false,rfl,HE0.out,fun _=>⟨HMS.out.1,HMS.out.2,fun c hc=>?_⟩⟩;obtain⟨j,hj,rfl⟩:=List.getElem_of_mem (show c∈[p0,p1,p2,p3]from hc);exact HRK.out j hj (by simpa using hj)
end Go.Proofs.YtidnboeihkeljaaGreatDoor.Trk
