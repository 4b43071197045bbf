
import Derived.Deep.DeepCutAuto
import Derived.Test.YtidnboeihkeljaaGreatDoorTrkS
set_option maxHeartbeats 16000000
set_option maxRecDepth 100000
set_option linter.all false
namespace Go.Proofs.YtidnboeihkeljaaGreatDoor.Trk
open Go.ChangeShapes Go.WideShapes Go.ChangeAt Go.RowKit
open Rec
theorem same_tr (ta tb:Tv) (x:Tk) (w:World) (hA:TkV w ta x) (hB:RfV w tb x) (hr:∀c∈x.cams,∀p∈c,(-2147483648≤p.x∧p.x≤2147483647)∧ -2147483648≤p.y∧p.y≤2147483647) (hl:(∀c∈x.cams,c.length≤1000000)∧x.marks.length≤1000000):
  Calls Tryz.prog 85 #[.agg ta.cells,.agg tb.cells] w fun e w'=>e= .returned (.bool true)∧Ext w w':=by
 have HE0:=zh (zxa (zxa (zxr w) (.cells ta.cells 40)) (.cells tb.cells 31));have HH0:=zh ((Blk.new w 40 ta.cells).alloc (.cells tb.cells 31));have HG0:=zh (Blk.new1 w (.cells ta.cells 40) 31 tb.cells);have HA:=zh (hA.ext HE0.out);have HB:=zh (hB.ext HE0.out);have HR:=zh hr;obtain⟨⟨A0,n0,c0⟩,⟨A1,n1,c1⟩,⟨A2,n2,c2⟩,⟨A3,n3,c3⟩,⟨Am,nm,cm⟩⟩:=ta;obtain⟨⟨B0,m0,d0⟩,⟨B1,m1,d1⟩,⟨B2,m2,d2⟩,⟨B3,m3,d3⟩,⟨Bm,mm,dm⟩⟩:=tb;obtain⟨p0,p1,p2,p3,ms⟩:=x;have e0:p0.length=n0:=hA.1.1.1;have e1:p1.length=n1:=hA.2.1.1.1;have e2:p2.length=n2:=hA.2.2.1.1.1;have e3:p3.length=n3:=hA.2.2.2.1.1.1;have em:ms.length=nm:=hA.2.2.2.2.1.1;obtain rfl:n0=m0:=e0.symm.trans hB.1.1.1;obtain rfl:n1=m1:=e1.symm.trans hB.2.1.1.1;obtain rfl:n2=m2:=e2.symm.trans hB.2.2.1.1.1;obtain rfl:n3=m3:=e3.symm.trans hB.2.2.2.1.1.1;obtain rfl:nm=mm:=em.symm.trans hB.2.2.2.2.1.1;have L0:n0≤1000000:=by have:=hl.1 p0 (by simp[Tk.cams]);omega
 have L1:n1≤1000000:=by have:=hl.1 p1 (by simp[Tk.cams]);omega
 have L2:n2≤1000000:=by have:=hl.1 p2 (by simp[Tk.cams]);omega
 have L3:n3≤1000000:=by have:=hl.1 p3 (by simp[Tk.cams]);omega
 have Lm:nm≤1000000:=by have:=hl.2;simp only at this;omega
 replace e0:=zh e0;replace e1:=zh e1;replace e2:=zh e2;replace e3:=zh e3;replace em:=zh em;clear hA hB hr hl;simp only[Tv.cells]at*;go_enter Tryz.func85,Tryz.ntmps85;go_upto_region 1 with fail;obtain⟨w0,hw0⟩:∃q,q=(w.alloc (.cells #[.slice A0 n0 c0,.slice A1 n1 c1,.slice A2 n2 c2,.slice A3 n3 c3,.slice Am nm cm] 40)).alloc (.cells #[.slice B0 n0 d0,.slice B1 n1 d1,.slice B2 n2 d2,.slice B3 n3 d3,.slice Bm nm dm] 31):=⟨_,rfl⟩;rw[←hw0]at HE0 HH0 HG0 HA HB ⊢;clear hw0;generalize w.heap.size=hb at*;have h4:=HH0.out.cell 4;have g4:=HG0.out.cell 4;simp only[zzD,zzE,zzF]at h4 g4;go_wp2_with fail;clear h4 g4
 go_loopg [5] nm (fun gh iv wr=>∃(k:Nat),k+gh=nm∧iv= .int .i64 (k:Int)∧Ext w0 wr)
 case atStart=>exact⟨0,by omega,rfl,zxr _⟩
 case round=>
  obtain⟨k,hk,rfl,hE⟩:=hrel;obtain⟨wi,rfl⟩:∃wi:World,wi=wr:=⟨_,rfl⟩;obtain⟨gh,rfl⟩:∃gh:Nat,gh=gk:=⟨_,rfl⟩;have HE:=zh hE;clear hE;have y1:(0:Int)≤(k:Int):=by omega
  have h4:=kc HE.out (HH0.out.cell 4);have g4:=kc HE.out (HG0.out.cell 4);by_cases hlt:k<nm
  ·have hke:k<ms.length:=by rw[em.out];exact hlt
   obtain⟨ab,ao,ha,hab,hc⟩:=HA.out.2.2.2.2.1.2 (show 0<nm by omega);obtain⟨bb,bo,hbb,hbw,hd⟩:=HB.out.2.2.2.2.1.2 (show 0<nm by omega);simp only at ha hbb;subst ha hbb;have qa:=fun i hi=>(HE.out.cell (p:=⟨ab,ao+k*2+i,none⟩) hab).trans (hc k hke i hi);have qb:=fun i hi=>(HE.out.cell (p:=⟨bb,bo+k*2+i,none⟩) hbw).trans (hd k hke i hi);generalize ms[k]=u at qa qb;obtain⟨tk,s⟩:=u;have a0:=qa 0 (by omega);have a1:=qa 1 (by omega);have b0:=qb 0 (by omega);have b1:=qb 1 (by omega);simp only[cM,Nat.add_zero,List.getElem?_cons_zero,List.getElem?_cons_succ]at a0 a1 b0 b1;have y2:(k:Int)<(nm:Int):=by omega
   clear hc hd qa qb hke;go_upto_region 6 with fail;have MK6:=zh (fun(w':World) (e:Ext wi w')=>(⟨kc e h4,kc e g4,kc e a0,kc e a1,kc e b0,kc e b1,zh e⟩:w'.cell? ⟨hb,4,none⟩=some (.slice (some ⟨ab,ao,none⟩) nm cm)∧w'.cell? ⟨hb+1,4,none⟩=some (.slice (some ⟨bb,bo,none⟩) nm dm)∧w'.cell? ⟨ab,ao+k*2,none⟩=some (.int .i64 tk)∧w'.cell? ⟨ab,ao+k*2+1,none⟩=some (.string s)∧w'.cell? ⟨bb,bo+k*2,none⟩=some (.int .i64 tk)∧w'.cell? ⟨bb,bo+k*2+1,none⟩=some (.string s)∧Hid (Ext wi w')));have zT:=zh (zxr wi);have hz:wi.heap.size≤wi.heap.size:=zw8 _
   go_region_held3 (fun w'=>w'.cell? ⟨hb,4,none⟩=some (.slice (some ⟨ab,ao,none⟩) nm cm)∧w'.cell? ⟨hb+1,4,none⟩=some (.slice (some ⟨bb,bo,none⟩) nm dm)∧w'.cell? ⟨ab,ao+k*2,none⟩=some (.int .i64 tk)∧w'.cell? ⟨ab,ao+k*2+1,none⟩=some (.string s)∧w'.cell? ⟨bb,bo+k*2,none⟩=some (.int .i64 tk)∧w'.cell? ⟨bb,bo+k*2+1,none⟩=some (.string s)∧Hid (Ext wi w'))
    ((refine MK6.out _ ?_;repeat (first | exact zT.out | refine zxa ?_ _ | refine zxd ?_ | refine ext_set ?_ (by first | omega | (simp;done) | (simp;omega)) _)))
    (fail)
   all_goals
    go_wp2_with fail
    go_roundg (gh-1)
    case measure=>omega
    case rel=>exact⟨k+1,by omega,by go_num,by repeat (first | exact HE.out | refine zxd ?_)⟩
  ·obtain rfl:gh=0:=by omega
   obtain rfl:k=nm:=by omega
   have y2:¬(k:Int)<(k:Int):=by omega
   go_wp2_with fail;clear h4 g4
   go_loopg [6] 4 (fun gh iv wr=>∃(k:Nat),k+gh=4∧iv= .int .i64 (k:Int)∧Ext w0 wr)
   case atStart=>exact⟨0,by omega,rfl,HE.out⟩
   case round=>
    clear HE;obtain⟨k,hk,rfl,hE⟩:=hrel;obtain⟨wi,rfl⟩:∃wi:World,wi=wr:=⟨_,rfl⟩;obtain⟨gh,rfl⟩:∃gh:Nat,gh=gk:=⟨_,rfl⟩;have HE:=zh hE;clear hE;have hk5:k=0∨k=1∨k=2∨k=3∨k=4:=by omega
    rcases hk5 with rfl | rfl | rfl | rfl | rfl
    ·have hj:wi.cell? ⟨hb,0,none⟩=some (.slice A0 n0 c0):=kc HE.out (HH0.out.cell 0)
     have gj:wi.cell? ⟨hb+1,0,none⟩=some (.slice B0 n0 d0):=kc HE.out (HG0.out.cell 0);have HHJ:Hid (w0.cell? ⟨hb,0,none⟩=some (.slice A0 n0 c0)):=zh (HH0.out.cell 0);have HGJ:Hid (w0.cell? ⟨hb+1,0,none⟩=some (.slice B0 n0 d0)):=zh (HG0.out.cell 0);go_upto_region 11 with fail;have MKB:=zh (fun(w':World) (e:Ext wi w')=>(⟨kc e hj,kc e gj,zh e⟩:w'.cell? ⟨hb,0,none⟩=some (.slice A0 n0 c0)∧w'.cell? ⟨hb+1,0,none⟩=some (.slice B0 n0 d0)∧Hid (Ext wi w')));have zT:=zh (zxr wi);have hz:wi.heap.size≤wi.heap.size:=zw8 _
     go_region_held3 (fun w'=>w'.cell? ⟨hb,0,none⟩=some (.slice A0 n0 c0)∧w'.cell? ⟨hb+1,0,none⟩=some (.slice B0 n0 d0)∧Hid (Ext wi w'))
      ((refine MKB.out _ ?_;repeat (first | exact zT.out | refine zxa ?_ _ | refine zxd ?_ | refine ext_set ?_ (by first | omega | (simp;done) | (simp;omega)) _)))
      (fail)
     clear hj gj MKB zT hz
     all_goals
      go_wp2_with fail
      go_loopg [7] n0 (fun gi iv wr=>∃(i:Nat),i+gi=n0∧iv= .int .i64 (i:Int)∧Ext w0 wr)
      case atStart=>exact⟨0,by omega,rfl,by repeat (first | exact HE.out | refine zxd ?_)⟩
      case round=>
       clear HE;obtain⟨i,hi,rfl,hE⟩:=hrel;obtain⟨wk,rfl⟩:∃wk:World,wk=wr:=⟨_,rfl⟩;obtain⟨gi,rfl⟩:∃gi:Nat,gi=gk:=⟨_,rfl⟩;have HE:=zh hE;clear hE;have hj:=kc HE.out HHJ.out;have gj:=kc HE.out HGJ.out;have y1:(0:Int)≤(i:Int):=by omega
       by_cases hlt:i<n0
       ·have hke:i<p0.length:=by rw[e0.out];exact hlt
        obtain⟨ab,ao,ha,hab,hc⟩:=HA.out.1.1.2 (show 0<n0 by omega);obtain⟨bb,bo,hbb,hbw,hd⟩:=HB.out.1.1.2 (show 0<n0 by omega);simp only at ha hbb;subst ha hbb;have qa:=fun l hl=>(HE.out.cell (p:=⟨ab,ao+i*3+l,none⟩) hab).trans (hc i hke l hl);have qb:=fun l hl=>(HE.out.cell (p:=⟨bb,bo+i*3+l,none⟩) hbw).trans (hd i hke l hl);have hrr:=HR.out p0 (by simp[Tk.cams]) p0[i] (zw25 _);generalize p0[i]=u at qa qb hrr;obtain⟨tk,px,py⟩:=u;have a0:=qa 0 (by omega);have a1:=qa 1 (by omega);have a2:=qa 2 (by omega);have b0:=qb 0 (by omega);have b1:=qb 1 (by omega);have b2:=qb 2 (by omega);simp only[cP,cR,Nat.add_zero,List.getElem?_cons_zero,List.getElem?_cons_succ]at a0 a1 a2 b0 b1 b2 hrr;have y2:(i:Int)<(n0:Int):=by omega
        have W1:IntKind.i64.wrap px=px:=IntWalk.i64_in _ (by omega);have W2:IntKind.i64.wrap py=py:=IntWalk.i64_in _ (by omega);clear hc hd qa qb hke;go_upto_region 16 with fail
        go_cut [8,9] (fun s8 s9 wx=>∃g1 g2:Nat,s8= .pointer (some ⟨g1,0,none⟩)∧s9= .pointer (some ⟨g2,0,none⟩)∧Blk wx g1 110 #[.int .i64 tk,.int .i32 px,.int .i32 py]∧Blk wx g2 115 #[.int .i64 tk,.int .i64 px,.int .i64 py]∧Ext wk wx)
        case first=>
         have MKC:=zh (fun(w':World) (e:Ext wk w')=>(⟨kc e hj,kc e gj,kc e a0,kc e a1,kc e a2,kc e b0,kc e b1,kc e b2,zh e⟩:w'.cell? ⟨hb,0,none⟩=some (.slice (some ⟨ab,ao,none⟩) n0 c0)∧w'.cell? ⟨hb+1,0,none⟩=some (.slice (some ⟨bb,bo,none⟩) n0 d0)∧w'.cell? ⟨ab,ao+i*3,none⟩=some (.int .i64 tk)∧w'.cell? ⟨ab,ao+i*3+1,none⟩=some (.int .i32 px)∧w'.cell? ⟨ab,ao+i*3+2,none⟩=some (.int .i32 py)∧w'.cell? ⟨bb,bo+i*3,none⟩=some (.int .i64 tk)∧w'.cell? ⟨bb,bo+i*3+1,none⟩=some (.int .i64 px)∧w'.cell? ⟨bb,bo+i*3+2,none⟩=some (.int .i64 py)∧Hid (Ext wk w')));have zT:=zh (zxr wk);have hz:wk.heap.size≤wk.heap.size:=zw8 _
         go_region_held3 (fun w'=>w'.cell? ⟨hb,0,none⟩=some (.slice (some ⟨ab,ao,none⟩) n0 c0)∧w'.cell? ⟨hb+1,0,none⟩=some (.slice (some ⟨bb,bo,none⟩) n0 d0)∧w'.cell? ⟨ab,ao+i*3,none⟩=some (.int .i64 tk)∧w'.cell? ⟨ab,ao+i*3+1,none⟩=some (.int .i32 px)∧w'.cell? ⟨ab,ao+i*3+2,none⟩=some (.int .i32 py)∧w'.cell? ⟨bb,bo+i*3,none⟩=some (.int .i64 tk)∧w'.cell? ⟨bb,bo+i*3+1,none⟩=some (.int .i64 px)∧w'.cell? ⟨bb,bo+i*3+2,none⟩=some (.int .i64 py)∧Hid (Ext wk w'))
          ((refine MKC.out _ ?_;repeat (first | exact zT.out | refine zxa ?_ _ | refine zxd ?_ | refine ext_set ?_ (by first | omega | (simp;done) | (simp;omega)) _)))
          (fail)
         all_goals
          go_wp2_with fail;go_meet
          go_split_ands
          refine⟨_,_,rfl,rfl,?_,?_,(by repeat (first | exact zxr _ | refine zxd ?_ | refine zxa ?_ _ | refine ext_set ?_ (zw8 _) _))⟩
          all_goals (repeat refine Blk.drew ?_);first | exact(Blk.new _ _ _).alloc _ | exact Blk.new1 _ _ _ _
        case rest=>
         obtain⟨g1,g2,rfl,rfl,k1,k2,ex⟩:=hcut;have HEX:=zh (zxt HE.out ex);have u0:=k1.cell 0;have u1:=k1.cell 1;have u2:=k1.cell 2;have v0:=k2.cell 0;have v1:=k2.cell 1;have v2:=k2.cell 2;simp only[zzD,zzE,zzF]at u0 u1 u2 v0 v1 v2;clear ex k1 k2 a0 a1 a2 b0 b1 b2 hj gj;go_wp2_with fail
         go_roundg (gi-1)
         case measure=>omega
         case rel=>exact⟨i+1,by omega,by go_num,HEX.out⟩
       ·obtain rfl:gi=0:=by omega
        obtain rfl:i=n0:=by omega
        have y2:¬(i:Int)<(i:Int):=by omega
        go_wp2_with fail
        go_roundg (gh-1)
        case measure=>omega
        case rel=>exact⟨1,by omega,by rfl,HE.out⟩
    ·have hj:wi.cell? ⟨hb,1,none⟩=some (.slice A1 n1 c1):=kc HE.out (HH0.out.cell 1)
     have gj:wi.cell? ⟨hb+1,1,none⟩=some (.slice B1 n1 d1):=kc HE.out (HG0.out.cell 1);have HHJ:Hid (w0.cell? ⟨hb,1,none⟩=some (.slice A1 n1 c1)):=zh (HH0.out.cell 1);have HGJ:Hid (w0.cell? ⟨hb+1,1,none⟩=some (.slice B1 n1 d1)):=zh (HG0.out.cell 1);go_upto_region 11 with fail;have MKB:=zh (fun(w':World) (e:Ext wi w')=>(⟨kc e hj,kc e gj,zh e⟩:w'.cell? ⟨hb,1,none⟩=some (.slice A1 n1 c1)∧w'.cell? ⟨hb+1,1,none⟩=some (.slice B1 n1 d1)∧Hid (Ext wi w')));have zT:=zh (zxr wi);have hz:wi.heap.size≤wi.heap.size:=zw8 _
     go_region_held3 (fun w'=>w'.cell? ⟨hb,1,none⟩=some (.slice A1 n1 c1)∧w'.cell? ⟨hb+1,1,none⟩=some (.slice B1 n1 d1)∧Hid (Ext wi w'))
      ((refine MKB.out _ ?_;repeat (first | exact zT.out | refine zxa ?_ _ | refine zxd ?_ | refine ext_set ?_ (by first | omega | (simp;done) | (simp;omega)) _)))
      (fail)
     clear hj gj MKB zT hz
     all_goals
      go_wp2_with fail
      go_loopg [7] n1 (fun gi iv wr=>∃(i:Nat),i+gi=n1∧iv= .int .i64 (i:Int)∧Ext w0 wr)
      case atStart=>exact⟨0,by omega,rfl,by repeat (first | exact HE.out | refine zxd ?_)⟩
      case round=>
       clear HE;obtain⟨i,hi,rfl,hE⟩:=hrel;obtain⟨wk,rfl⟩:∃wk:World,wk=wr:=⟨_,rfl⟩;obtain⟨gi,rfl⟩:∃gi:Nat,gi=gk:=⟨_,rfl⟩;have HE:=zh hE;clear hE;have hj:=kc HE.out HHJ.out;have gj:=kc HE.out HGJ.out;have y1:(0:Int)≤(i:Int):=by omega
       by_cases hlt:i<n1
       ·have hke:i<p1.length:=by rw[e1.out];exact hlt
        obtain⟨ab,ao,ha,hab,hc⟩:=HA.out.2.1.1.2 (show 0<n1 by omega);obtain⟨bb,bo,hbb,hbw,hd⟩:=HB.out.2.1.1.2 (show 0<n1 by omega);simp only at ha hbb;subst ha hbb;have qa:=fun l hl=>(HE.out.cell (p:=⟨ab,ao+i*3+l,none⟩) hab).trans (hc i hke l hl);have qb:=fun l hl=>(HE.out.cell (p:=⟨bb,bo+i*3+l,none⟩) hbw).trans (hd i hke l hl);have hrr:=HR.out p1 (by simp[Tk.cams]) p1[i] (zw25 _);generalize p1[i]=u at qa qb hrr;obtain⟨tk,px,py⟩:=u;have a0:=qa 0 (by omega);have a1:=qa 1 (by omega);have a2:=qa 2 (by omega);have b0:=qb 0 (by omega);have b1:=qb 1 (by omega);have b2:=qb 2 (by omega);simp only[cP,cR,Nat.add_zero,List.getElem?_cons_zero,List.getElem?_cons_succ]at a0 a1 a2 b0 b1 b2 hrr;have y2:(i:Int)<(n1:Int):=by omega
        have W1:IntKind.i64.wrap px=px:=IntWalk.i64_in _ (by omega);have W2:IntKind.i64.wrap py=py:=IntWalk.i64_in _ (by omega);clear hc hd qa qb hke;go_upto_region 16 with fail
        go_cut [8,9] (fun s8 s9 wx=>∃g1 g2:Nat,s8= .pointer (some ⟨g1,0,none⟩)∧s9= .pointer (some ⟨g2,0,none⟩)∧Blk wx g1 110 #[.int .i64 tk,.int .i32 px,.int .i32 py]∧Blk wx g2 115 #[.int .i64 tk,.int .i64 px,.int .i64 py]∧Ext wk wx)
        case first=>
         have MKC:=zh (fun(w':World) (e:Ext wk w')=>(⟨kc e hj,kc e gj,kc e a0,kc e a1,kc e a2,kc e b0,kc e b1,kc e b2,zh e⟩:w'.cell? ⟨hb,1,none⟩=some (.slice (some ⟨ab,ao,none⟩) n1 c1)∧w'.cell? ⟨hb+1,1,none⟩=some (.slice (some ⟨bb,bo,none⟩) n1 d1)∧w'.cell? ⟨ab,ao+i*3,none⟩=some (.int .i64 tk)∧w'.cell? ⟨ab,ao+i*3+1,none⟩=some (.int .i32 px)∧w'.cell? ⟨ab,ao+i*3+2,none⟩=some (.int .i32 py)∧w'.cell? ⟨bb,bo+i*3,none⟩=some (.int .i64 tk)∧w'.cell? ⟨bb,bo+i*3+1,none⟩=some (.int .i64 px)∧w'.cell? ⟨bb,bo+i*3+2,none⟩=some (.int .i64 py)∧Hid (Ext wk w')));have zT:=zh (zxr wk);have hz:wk.heap.size≤wk.heap.size:=zw8 _
         go_region_held3 (fun w'=>w'.cell? ⟨hb,1,none⟩=some (.slice (some ⟨ab,ao,none⟩) n1 c1)∧w'.cell? ⟨hb+1,1,none⟩=some (.slice (some ⟨bb,bo,none⟩) n1 d1)∧w'.cell? ⟨ab,ao+i*3,none⟩=some (.int .i64 tk)∧w'.cell? ⟨ab,ao+i*3+1,none⟩=some (.int .i32 px)∧w'.cell? ⟨ab,ao+i*3+2,none⟩=some (.int .i32 py)∧w'.cell? ⟨bb,bo+i*3,none⟩=some (.int .i64 tk)∧w'.cell? ⟨bb,bo+i*3+1,none⟩=some (.int .i64 px)∧w'.cell? ⟨bb,bo+i*3+2,none⟩=some (.int .i64 py)∧Hid (Ext wk w'))
          ((refine MKC.out _ ?_;repeat (first | exact zT.out | refine zxa ?_ _ | refine zxd ?_ | refine ext_set ?_ (by first | omega | (simp;done) | (simp;omega)) _)))
          (fail)
         all_goals
          go_wp2_with fail;go_meet
          go_split_ands
          refine⟨_,_,rfl,rfl,?_,?_,(by repeat (first | exact zxr _ | refine zxd ?_ | refine zxa ?_ _ | refine ext_set ?_ (zw8 _) _))⟩
          all_goals (repeat refine Blk.drew ?_);first | exact(Blk.new _ _ _).alloc _ | exact Blk.new1 _ _ _ _
        case rest=>
         obtain⟨g1,g2,rfl,rfl,k1,k2,ex⟩:=hcut;have HEX:=zh (zxt HE.out ex);have u0:=k1.cell 0;have u1:=k1.cell 1;have u2:=k1.cell 2;have v0:=k2.cell 0;have v1:=k2.cell 1;have v2:=k2.cell 2;simp only[zzD,zzE,zzF]at u0 u1 u2 v0 v1 v2;clear ex k1 k2 a0 a1 a2 b0 b1 b2 hj gj;go_wp2_with fail
         go_roundg (gi-1)
         case measure=>omega
         case rel=>exact⟨i+1,by omega,by go_num,HEX.out⟩
       ·obtain rfl:gi=0:=by omega
        obtain rfl:i=n1:=by omega
        have y2:¬(i:Int)<(i:Int):=by omega
        go_wp2_with fail
        go_roundg (gh-1)
        case measure=>omega
        case rel=>exact⟨2,by omega,by rfl,HE.out⟩
    ·have hj:wi.cell? ⟨hb,2,none⟩=some (.slice A2 n2 c2):=kc HE.out (HH0.out.cell 2)
     have gj:wi.cell? ⟨hb+1,2,none⟩=some (.slice B2 n2 d2):=kc HE.out (HG0.out.cell 2);have HHJ:Hid (w0.cell? ⟨hb,2,none⟩=some (.slice A2 n2 c2)):=zh (HH0.out.cell 2);have HGJ:Hid (w0.cell? ⟨hb+1,2,none⟩=some (.slice B2 n2 d2)):=zh (HG0.out.cell 2);go_upto_region 11 with fail;have MKB:=zh (fun(w':World) (e:Ext wi w')=>(⟨kc e hj,kc e gj,zh e⟩:w'.cell? ⟨hb,2,none⟩=some (.slice A2 n2 c2)∧w'.cell? ⟨hb+1,2,none⟩=some (.slice B2 n2 d2)∧Hid (Ext wi w')));have zT:=zh (zxr wi);have hz:wi.heap.size≤wi.heap.size:=zw8 _
     go_region_held3 (fun w'=>w'.cell? ⟨hb,2,none⟩=some (.slice A2 n2 c2)∧w'.cell? ⟨hb+1,2,none⟩=some (.slice B2 n2 d2)∧Hid (Ext wi w'))
      ((refine MKB.out _ ?_;repeat (first | exact zT.out | refine zxa ?_ _ | refine zxd ?_ | refine ext_set ?_ (by first | omega | (simp;done) | (simp;omega)) _)))
      (fail)
     clear hj gj MKB zT hz
     all_goals
      go_wp2_with fail
      go_loopg [7] n2 (fun gi iv wr=>∃(i:Nat),i+gi=n2∧iv= .int .i64 (i:Int)∧Ext w0 wr)
      case atStart=>exact⟨0,by omega,rfl,by repeat (first | exact HE.out | refine zxd ?_)⟩
      case round=>
       clear HE;obtain⟨i,hi,rfl,hE⟩:=hrel;obtain⟨wk,rfl⟩:∃wk:World,wk=wr:=⟨_,rfl⟩;obtain⟨gi,rfl⟩:∃gi:Nat,gi=gk:=⟨_,rfl⟩;have HE:=zh hE;clear hE;have hj:=kc HE.out HHJ.out;have gj:=kc HE.out HGJ.out;have y1:(0:Int)≤(i:Int):=by omega
       by_cases hlt:i<n2
       ·have hke:i<p2.length:=by rw[e2.out];exact hlt
        obtain⟨ab,ao,ha,hab,hc⟩:=HA.out.2.2.1.1.2 (show 0<n2 by omega);obtain⟨bb,bo,hbb,hbw,hd⟩:=HB.out.2.2.1.1.2 (show 0<n2 by omega);simp only at ha hbb;subst ha hbb;have qa:=fun l hl=>(HE.out.cell (p:=⟨ab,ao+i*3+l,none⟩) hab).trans (hc i hke l hl);have qb:=fun l hl=>(HE.out.cell (p:=⟨bb,bo+i*3+l,none⟩) hbw).trans (hd i hke l hl);have hrr:=HR.out p2 (by simp[Tk.cams]) p2[i] (zw25 _);generalize p2[i]=u at qa qb hrr;obtain⟨tk,px,py⟩:=u;have a0:=qa 0 (by omega);have a1:=qa 1 (by omega);have a2:=qa 2 (by omega);have b0:=qb 0 (by omega);have b1:=qb 1 (by omega);have b2:=qb 2 (by omega);simp only[cP,cR,Nat.add_zero,List.getElem?_cons_zero,List.getElem?_cons_succ]at a0 a1 a2 b0 b1 b2 hrr;have y2:(i:Int)<(n2:Int):=by omega
        have W1:IntKind.i64.wrap px=px:=IntWalk.i64_in _ (by omega);have W2:IntKind.i64.wrap py=py:=IntWalk.i64_in _ (by omega);clear hc hd qa qb hke;go_upto_region 16 with fail
        go_cut [8,9] (fun s8 s9 wx=>∃g1 g2:Nat,s8= .pointer (some ⟨g1,0,none⟩)∧s9= .pointer (some ⟨g2,0,none⟩)∧Blk wx g1 110 #[.int .i64 tk,.int .i32 px,.int .i32 py]∧Blk wx g2 115 #[.int .i64 tk,.int .i64 px,.int .i64 py]∧Ext wk wx)
        case first=>
         have MKC:=zh (fun(w':World) (e:Ext wk w')=>(⟨kc e hj,kc e gj,kc e a0,kc e a1,kc e a2,kc e b0,kc e b1,kc e b2,zh e⟩:w'.cell? ⟨hb,2,none⟩=some (.slice (some ⟨ab,ao,none⟩) n2 c2)∧w'.cell? ⟨hb+1,2,none⟩=some (.slice (some ⟨bb,bo,none⟩) n2 d2)∧w'.cell? ⟨ab,ao+i*3,none⟩=some (.int .i64 tk)∧w'.cell? ⟨ab,ao+i*3+1,none⟩=some (.int .i32 px)∧w'.cell? ⟨ab,ao+i*3+2,none⟩=some (.int .i32 py)∧w'.cell? ⟨bb,bo+i*3,none⟩=some (.int .i64 tk)∧w'.cell? ⟨bb,bo+i*3+1,none⟩=some (.int .i64 px)∧w'.cell? ⟨bb,bo+i*3+2,none⟩=some (.int .i64 py)∧Hid (Ext wk w')));have zT:=zh (zxr wk);have hz:wk.heap.size≤wk.heap.size:=zw8 _
         go_region_held3 (fun w'=>w'.cell? ⟨hb,2,none⟩=some (.slice (some ⟨ab,ao,none⟩) n2 c2)∧w'.cell? ⟨hb+1,2,none⟩=some (.slice (some ⟨bb,bo,none⟩) n2 d2)∧w'.cell? ⟨ab,ao+i*3,none⟩=some (.int .i64 tk)∧w'.cell? ⟨ab,ao+i*3+1,none⟩=some (.int .i32 px)∧w'.cell? ⟨ab,ao+i*3+2,none⟩=some (.int .i32 py)∧w'.cell? ⟨bb,bo+i*3,none⟩=some (.int .i64 tk)∧w'.cell? ⟨bb,bo+i*3+1,none⟩=some (.int .i64 px)∧w'.cell? ⟨bb,bo+i*3+2,none⟩=some (.int .i64 py)∧Hid (Ext wk w'))
          ((refine MKC.out _ ?_;repeat (first | exact zT.out | refine zxa ?_ _ | refine zxd ?_ | refine ext_set ?_ (by first | omega | (simp;done) | (simp;omega)) _)))
          (fail)
         all_goals
          go_wp2_with fail;go_meet
          go_split_ands
          refine⟨_,_,rfl,rfl,?_,?_,(by repeat (first | exact zxr _ | refine zxd ?_ | refine zxa ?_ _ | refine ext_set ?_ (zw8 _) _))⟩
          all_goals (repeat refine Blk.drew ?_);first | exact(Blk.new _ _ _).alloc _ | exact Blk.new1 _ _ _ _
        case rest=>
         obtain⟨g1,g2,rfl,rfl,k1,k2,ex⟩:=hcut;have HEX:=zh (zxt HE.out ex);have u0:=k1.cell 0;have u1:=k1.cell 1;have u2:=k1.cell 2;have v0:=k2.cell 0;have v1:=k2.cell 1;have v2:=k2.cell 2;simp only[zzD,zzE,zzF]at u0 u1 u2 v0 v1 v2;clear ex k1 k2 a0 a1 a2 b0 b1 b2 hj gj;go_wp2_with fail
         go_roundg (gi-1)
         case measure=>omega
         case rel=>exact⟨i+1,by omega,by go_num,HEX.out⟩
       ·obtain rfl:gi=0:=by omega
        obtain rfl:i=n2:=by omega
        have y2:¬(i:Int)<(i:Int):=by omega
        go_wp2_with fail
        go_roundg (gh-1)
        case measure=>omega
        case rel=>exact⟨3,by omega,by rfl,HE.out⟩
    ·have hj:wi.cell? ⟨hb,3,none⟩=some (.slice A3 n3 c3):=kc HE.out (HH0.out.cell 3)
     have gj:wi.cell? ⟨hb+1,3,none⟩=some (.slice B3 n3 d3):=kc HE.out (HG0.out.cell 3);have HHJ:Hid (w0.cell? ⟨hb,3,none⟩=some (.slice A3 n3 c3)):=zh (HH0.out.cell 3);have HGJ:Hid (w0.cell? ⟨hb+1,3,none⟩=some (.slice B3 n3 d3)):=zh (HG0.out.cell 3);go_upto_region 11 with fail;have MKB:=zh (fun(w':World) (e:Ext wi w')=>(⟨kc e hj,kc e gj,zh e⟩:w'.cell? ⟨hb,3,none⟩=some (.slice A3 n3 c3)∧w'.cell? ⟨hb+1,3,none⟩=some (.slice B3 n3 d3)∧Hid (Ext wi w')));have zT:=zh (zxr wi);have hz:wi.heap.size≤wi.heap.size:=zw8 _
     go_region_held3 (fun w'=>w'.cell? ⟨hb,3,none⟩=some (.slice A3 n3 c3)∧w'.cell? ⟨hb+1,3,none⟩=some (.slice B3 n3 d3)∧Hid (Ext wi w'))
      ((refine MKB.out _ ?_;repeat (first | exact zT.out | refine zxa ?_ _ | refine zxd ?_ | refine ext_set ?_ (by first | omega | (simp;done) | (simp;omega)) _)))
      (fail)
     clear hj gj MKB zT hz
     all_goals
      go_wp2_with fail
      go_loopg [7] n3 (fun gi iv wr=>∃(i:Nat),i+gi=n3∧iv= .int .i64 (i:Int)∧Ext w0 wr)
      case atStart=>exact⟨0,by omega,rfl,by repeat (first | exact HE.out | refine zxd ?_)⟩
      case round=>
       clear HE;obtain⟨i,hi,rfl,hE⟩:=hrel;obtain⟨wk,rfl⟩:∃wk:World,wk=wr:=⟨_,rfl⟩;obtain⟨gi,rfl⟩:∃gi:Nat,gi=gk:=⟨_,rfl⟩;have HE:=zh hE;clear hE;have hj:=kc HE.out HHJ.out;have gj:=kc HE.out HGJ.out;have y1:(0:Int)≤(i:Int):=by omega
       by_cases hlt:i<n3
       ·have hke:i<p3.length:=by rw[e3.out];exact hlt
        obtain⟨ab,ao,ha,hab,hc⟩:=HA.out.2.2.2.1.1.2 (show 0<n3 by omega);obtain⟨bb,bo,hbb,hbw,hd⟩:=HB.out.2.2.2.1.1.2 (show 0<n3 by omega);simp only at ha hbb;subst ha hbb;have qa:=fun l hl=>(HE.out.cell (p:=⟨ab,ao+i*3+l,none⟩) hab).trans (hc i hke l hl);have qb:=fun l hl=>(HE.out.cell (p:=⟨bb,bo+i*3+l,none⟩) hbw).trans (hd i hke l hl);have hrr:=HR.out p3 (by simp[Tk.cams]) p3[i] (zw25 _);generalize p3[i]=u at qa qb hrr;obtain⟨tk,px,py⟩:=u;have a0:=qa 0 (by omega);have a1:=qa 1 (by omega);have a2:=qa 2 (by omega);have b0:=qb 0 (by omega);have b1:=qb 1 (by omega);have b2:=qb 2 (by omega);simp only[cP,cR,Nat.add_zero,List.getElem?_cons_zero,List.getElem?_cons_succ]at a0 a1 a2 b0 b1 b2 hrr;have y2:(i:Int)<(n3:Int):=by omega
        have W1:IntKind.i64.wrap px=px:=IntWalk.i64_in _ (by omega);have W2:IntKind.i64.wrap py=py:=IntWalk.i64_in _ (by omega);clear hc hd qa qb hke;go_upto_region 16 with fail
        go_cut [8,9] (fun s8 s9 wx=>∃g1 g2:Nat,s8= .pointer (some ⟨g1,0,none⟩)∧s9= .pointer (some ⟨g2,0,none⟩)∧Blk wx g1 110 #[.int .i64 tk,.int .i32 px,.int .i32 py]∧Blk wx g2 115 #[.int .i64 tk,.int .i64 px,.int .i64 py]∧Ext wk wx)
        case first=>
         have MKC:=zh (fun(w':World) (e:Ext wk w')=>(⟨kc e hj,kc e gj,kc e a0,kc e a1,kc e a2,kc e b0,kc e b1,kc e b2,zh e⟩:w'.cell? ⟨hb,3,none⟩=some (.slice (some ⟨ab,ao,none⟩) n3 c3)∧w'.cell? ⟨hb+1,3,none⟩=some (.slice (some ⟨bb,bo,none⟩) n3 d3)∧w'.cell? ⟨ab,ao+i*3,none⟩=some (.int .i64 tk)∧w'.cell? ⟨ab,ao+i*3+1,none⟩=some (.int .i32 px)∧w'.cell? ⟨ab,ao+i*3+2,none⟩=some (.int .i32 py)∧w'.cell? ⟨bb,bo+i*3,none⟩=some (.int .i64 tk)∧w'.cell? ⟨bb,bo+i*3+1,none⟩=some (.int .i64 px)∧w'.cell? ⟨bb,bo+i*3+2,none⟩=some (.int .i64 py)∧Hid (Ext wk w')));have zT:=zh (zxr wk);have hz:wk.heap.size≤wk.heap.size:=zw8 _
         go_region_held3 (fun w'=>w'.cell? ⟨hb,3,none⟩=some (.slice (some ⟨ab,ao,none⟩) n3 c3)∧w'.cell? ⟨hb+1,3,none⟩=some (.slice (some ⟨bb,bo,none⟩) n3 d3)∧w'.cell? ⟨ab,ao+i*3,none⟩=some (.int .i64 tk)∧w'.cell? ⟨ab,ao+i*3+1,none⟩=some (.int .i32 px)∧w'.cell? ⟨ab,ao+i*3+2,none⟩=some (.int .i32 py)∧w'.cell? ⟨bb,bo+i*3,none⟩=some (.int .i64 tk)∧w'.cell? ⟨bb,bo+i*3+1,none⟩=some (.int .i64 px)∧w'.cell? ⟨bb,bo+i*3+2,none⟩=some (.int .i64 py)∧Hid (Ext wk w'))
          ((refine MKC.out _ ?_;repeat (first | exact zT.out | refine zxa ?_ _ | refine zxd ?_ | refine ext_set ?_ (by first | omega | (simp;done) | (simp;omega)) _)))
          (fail)
         all_goals
          go_wp2_with fail;go_meet
          go_split_ands
          refine⟨_,_,rfl,rfl,?_,?_,(by repeat (first | exact zxr _ | refine zxd ?_ | refine zxa ?_ _ | refine ext_set ?_ (zw8 _) _))⟩
          all_goals (repeat refine Blk.drew ?_);first | exact(Blk.new _ _ _).alloc _ | exact Blk.new1 _ _ _ _
        case rest=>
         obtain⟨g1,g2,rfl,rfl,k1,k2,ex⟩:=hcut;have HEX:=zh (zxt HE.out ex);have u0:=k1.cell 0;have u1:=k1.cell 1;have u2:=k1.cell 2;have v0:=k2.cell 0;have v1:=k2.cell 1;have v2:=k2.cell 2;simp only[zzD,zzE,zzF]at u0 u1 u2 v0 v1 v2;clear ex k1 k2 a0 a1 a2 b0 b1 b2 hj gj;go_wp2_with fail
         go_roundg (gi-1)
         case measure=>omega
         case rel=>exact⟨i+1,by omega,by go_num,HEX.out⟩
       ·obtain rfl:gi=0:=by omega
        obtain rfl:i=n3:=by omega
        have y2:¬(i:Int)<(i:Int):=by omega
        go_wp2_with fail
        go_roundg (gh-1)
        case measure=>omega
        case rel=>exact⟨4,by omega,by rfl,HE.out⟩
    ·obtain rfl:gh=0:=by omega
     go_wp2_with fail;go_ret;exact⟨rfl,zxt HE0.out HE.out⟩
open Go.ChangeShapes Go.WideShapes Go.ChangeAt Go.RowKit Go.Deep
theorem cellsRP:Tryz.prog.cellsOf 115=3:=by kernel_rfl
theorem cellsRM:Tryz.prog.cellsOf 116=2:=by kernel_rfl
theorem cellsRT:Tryz.prog.cellsOf 31=5:=by kernel_rfl
theorem bytesRP:Tryz.prog.bytesOf 115=24:=by kernel_rfl
theorem bytesRM:Tryz.prog.bytesOf 116=24:=by kernel_rfl
theorem ls2 {α:Type}:∀{l:List α},l.length=2→∃a b,l=[a,b]
 | [a,b],_=>⟨a,b,rfl⟩
theorem ls3 {α:Type}:∀{l:List α},l.length=3→∃a b c,l=[a,b,c]
 | [a,b,c],_=>⟨a,b,c,rfl⟩
theorem ls4 {α:Type}:∀{l:List α},l.length=4→∃a b c d,l=[a,b,c,d]
 | [a,b,c,d],_=>⟨a,b,c,d,rfl⟩
theorem ls5 {α:Type}:∀{l:List α},l.length=5→∃a b c d e,l=[a,b,c,d,e]
 | [a,b,c,d,e],_=>⟨a,b,c,d,e,rfl⟩
section
variable {H : Type} {enc : TypeId × Value → H} {w : World} {base : Nat} {spare : Nat → Bool} {held : Bool}
theorem recs_of2 {P:Program} {fuel:Nat} {v:Value} {x:DataW H × List MemPlace} {t e:TypeId} {k:Nat} {α:Type} {f:α→List Value} {good:α→Prop}
  (hu:P.underlying t=some (.slice e)) (hk:P.cellsOf e=k) (hk0:0<k) (hf:∀y,(f y).length=k) (hel:∀fuel cs x,DataW.trod enc P w base spare held fuel e cs=some x→cs.length=k→∃y,cs=f y∧good y)
  (h:DataW.trod enc P w base spare held fuel t [v]=some x) (hw:∀n∈x.1.weights P t,n≤reachBytes):
  ∃(a:Option Addr) (len cap:Nat) (ls:List α),v= .slice a len cap∧RowR w a len k f ls∧(∀y∈ls,good y)∧cap≤maxLen∧len≤cap∧(a=none→len=0∧cap=0)∧len*P.bytesOf e≤reachBytes:=by
 have h0:=h;rcases open_slice hu h with ⟨hcs,_⟩ | ⟨ad,l,c,m,n,D,Pl,hcs,hb,hl,hm,hmm,hx,hi⟩
 ·obtain rfl:=(List.cons.inj hcs).1
  exact⟨none,0,0,[],rfl,RowR.nil _ _ _ _,by simp,by unfold maxLen;omega,zw8 _,fun _=>⟨rfl,rfl⟩,by omega⟩
 ·obtain rfl:=(List.cons.inj hcs).1
  obtain⟨ls,r1,r2,r3,r4⟩:=recs_of hu hk hk0 hf hel h0;refine⟨some ad,l,c,ls,rfl,r1,r2,r3,r4,fun e=>(by cases e),?_⟩;subst hx;have:=hw ((((List.range l).map D).length+((List.range (m-l)).map fun j=>D (l+j)).length)*P.bytesOf e) (by simp[DataW.weights,hu]);simp only[zw4,zw37]at this;exact zw10 (zw34 _ (Nat.le_add_right _ _)) this
theorem rpt_of {fuel:Nat} {cs:List Value} {x:DataW H × List MemPlace} (h:DataW.trod enc Tryz.prog w base spare held fuel 115 cs=some x) (hl:cs.length=3):∃y:Pt,cs=cR y∧True:=by
 obtain⟨ys,n',hn',hy,hlen,hyl,hf⟩:=zw55 Tryz.underlying115 h;obtain⟨v0,v1,v2,rfl⟩:=ls3 hl;obtain⟨y0,y1,y2,rfl⟩:=ls3 (show ys.length=3 from hyl);obtain⟨n0,e0,_,w0⟩:=zw54 Tryz.underlying3 (hf 0 _ rfl);obtain⟨n1,e1,_,w1⟩:=zw54 Tryz.underlying3 (hf 1 _ rfl);obtain⟨n2,e2,_,w2⟩:=zw54 Tryz.underlying3 (hf 2 _ rfl);have g0:v0= .int .i64 n0:=(List.cons.inj e0).1;have g1:v1= .int .i64 n1:=(List.cons.inj e1).1;have g2:v2= .int .i64 n2:=(List.cons.inj e2).1;subst g0 g1 g2;exact⟨⟨n0,n1,n2⟩,rfl,trivial⟩
theorem rmk_of {fuel:Nat} {cs:List Value} {x:DataW H × List MemPlace} (h:DataW.trod enc Tryz.prog w base spare held fuel 116 cs=some x) (hl:cs.length=2):∃y:Mk,cs=cM y∧y.name.size≤9223372036854775807:=by
 obtain⟨ys,n',hn',hy,hlen,hyl,hf⟩:=zw55 Tryz.underlying116 h;obtain⟨v0,v1,rfl⟩:=ls2 hl;obtain⟨y0,y1,rfl⟩:=ls2 (show ys.length=2 from hyl);obtain⟨n0,e0,_,w0⟩:=zw54 Tryz.underlying3 (hf 0 _ rfl);obtain⟨n1,e1,_,w1⟩:=DataW.trod_string Tryz.underlying9 (hf 1 _ rfl);have g0:v0= .int .i64 n0:=(List.cons.inj e0).1;have g1:v1= .string n1:=(List.cons.inj e1).1;subst g0 g1;exact⟨⟨n0,n1⟩,rfl,by unfold maxLen at w1;exact w1⟩
theorem all_le {P:Program} {e:TypeId} {R:Nat}:∀{ds:List (DataW H)},(∀n∈DataW.weightsAll P e ds,n≤R)→∀d∈ds,∀n∈d.weights P e,n≤R
 | d0::ds,h,d,hd,n,hn=>by
  simp only[DataW.weightsAll,zw16]at h;rcases zw30.1 hd with rfl | hd
  ·exact h n (.inl hn)
  ·exact all_le (fun m hm=>h m (.inr hm)) d hd n hn
theorem track_of {fuel:Nat} {cs:Array Value} {x:DataW H × List MemPlace} (h:DataW.trod enc Tryz.prog w base spare held fuel 31 cs.toList=some x) (hs:cs.size=Tryz.prog.cellsOf 31) (hw:∀n∈x.1.weights Tryz.prog 31,n≤reachBytes):
  ∃(t:Tv) (y:Tk),cs=t.cells∧RfV w t y∧Room y:=by
 rw[cellsRT]at hs;obtain⟨ys,n',hn',hy,hlen,hyl,hf⟩:=zw55 Tryz.underlying31 h;obtain⟨v0,v1,v2,v3,v4,hv⟩:=ls5 (show cs.toList.length=5 by simpa using hs);obtain⟨y0,y1,rfl⟩:=ls2 (show ys.length=2 from hyl);rw[hv]at hf;have h0:DataW.trod enc Tryz.prog w base spare held n' 28 [v0,v1,v2,v3]=some y0:=hf 0 _ rfl;have h1:DataW.trod enc Tryz.prog w base spare held n' 29 [v4]=some y1:=hf 1 _ rfl;subst hy;have hw0:∀n∈y0.1.weights Tryz.prog 28,n≤reachBytes:=fun n hn=>hw n (by
  simp only[DataW.weights,Tryz.underlying31,List.map_cons,List.map_nil,DataW.weightsEach,zw16];exact .inl hn)
 have hw1:∀n∈y1.1.weights Tryz.prog 29,n≤reachBytes:=fun n hn=>hw n (by
  simp only[DataW.weights,Tryz.underlying31,List.map_cons,List.map_nil,DataW.weightsEach,zw16];exact .inr (.inl hn))
 obtain⟨zs,m,hm',hz,hzl,hzn,hg⟩:=DataW.trod_array Tryz.underlying28 h0;obtain⟨z0,z1,z2,z3,rfl⟩:=ls4 hzn;have a0:DataW.trod enc Tryz.prog w base spare held m 27 [v0]=some z0:=hg 0 (by omega);have a1:DataW.trod enc Tryz.prog w base spare held m 27 [v1]=some z1:=hg 1 (by omega);have a2:DataW.trod enc Tryz.prog w base spare held m 27 [v2]=some z2:=hg 2 (by omega);have a3:DataW.trod enc Tryz.prog w base spare held m 27 [v3]=some z3:=hg 3 (by omega);subst hz;have hwz:∀d∈[z0.1,z1.1,z2.1,z3.1],∀n∈d.weights Tryz.prog 27,n≤reachBytes:=all_le (fun n hn=>hw0 n (by
  simp only[DataW.weights,Tryz.underlying28,List.map_cons,List.map_nil];exact hn))
 obtain⟨A0,n0,c0,l0,rfl,r0,_,m0,q0,s0,b0⟩:=recs_of2 Tryz.underlying27 cellsRP (by decide) cR_len (fun _ _ _ h hl=>rpt_of h hl) a0 (hwz _ (by simp));obtain⟨A1,n1,c1,l1,rfl,r1,_,m1,q1,s1,b1⟩:=recs_of2 Tryz.underlying27 cellsRP (by decide) cR_len (fun _ _ _ h hl=>rpt_of h hl) a1 (hwz _ (by simp));obtain⟨A2,n2,c2,l2,rfl,r2,_,m2,q2,s2,b2⟩:=recs_of2 Tryz.underlying27 cellsRP (by decide) cR_len (fun _ _ _ h hl=>rpt_of h hl) a2 (hwz _ (by simp));obtain⟨A3,n3,c3,l3,rfl,r3,_,m3,q3,s3,b3⟩:=recs_of2 Tryz.underlying27 cellsRP (by decide) cR_len (fun _ _ _ h hl=>rpt_of h hl) a3 (hwz _ (by simp));obtain⟨Am,nm,cm,lm,rfl,rm,gm,mm,qm,sm,bm⟩:=recs_of2 Tryz.underlying29 cellsRM (by decide) cM_len (fun _ _ _ h hl=>rmk_of h hl) h1 hw1;rw[bytesRP]at b0 b1 b2 b3;rw[bytesRM]at bm;unfold maxLen at m0 m1 m2 m3 mm;have hR:reachBytes=140737488351232:=by decide
 rw[hR]at b0 b1 b2 b3 bm;refine⟨⟨⟨A0,n0,c0⟩,⟨A1,n1,c1⟩,⟨A2,n2,c2⟩,⟨A3,n3,c3⟩,⟨Am,nm,cm⟩⟩,⟨l0,l1,l2,l3,lm⟩,?_,⟨⟨r0,q0,m0,s0⟩,⟨r1,q1,m1,s1⟩,⟨r2,q2,m2,s2⟩,⟨r3,q3,m3,s3⟩,⟨rm,qm,mm,sm,gm⟩⟩,?_,?_⟩
 ·apply Array.ext'
  rw[hv];rfl
 ·intro c hc
  simp only[Tk.cams,zw30,List.not_mem_nil,or_false]at hc;rcases hc with rfl | rfl | rfl | rfl
  ·rw[r0.1];exact b0
  ·rw[r1.1];exact b1
  ·rw[r2.1];exact b2
  ·rw[r3.1];exact b3
 ·show lm.length*24≤_
  rw[rm.1];exact bm
end
end Go.Proofs.YtidnboeihkeljaaGreatDoor.Trk
