/- A track that came in. -/
import Derived.Test.YtidnboeihkeljaaGreatDoorTrkS
import Derived.OpenShut
import Derived.SizedLaws
set_option maxHeartbeats 16000000
set_option maxRecDepth 100000
set_option linter.all false
namespace Go.Proofs.YtidnboeihkeljaaGreatDoor.Trk
open Go.ChangeShapes Go.WideShapes Go.ChangeAt Go.RowKit Go.Deep
open Rec
theorem cellsRP:Tryz.prog.cellsOf 115=3:=by kernel_rfl
theorem cellsRM:Tryz.prog.cellsOf 116=2:=by kernel_rfl
theorem cellsRT:Tryz.prog.cellsOf 31=5:=by kernel_rfl
theorem bytesRP:Tryz.prog.bytesOf 115=24:=by kernel_rfl
theorem bytesRM:Tryz.prog.bytesOf 116=24:=by kernel_rfl
theorem ls2 {α:Type}:∀{l:List α},l.length=2→∃a b,l=[a,b]
 | [a,b],_=>⟨a,b,rfl⟩
theorem ls3 {α:Type}:∀{l:List α},l.length=3→∃a b c,l=[a,b,c]
 | [a,b,c],_=>⟨a,b,c,rfl⟩
theorem ls4 {α:Type}:∀{l:List α},l.length=4→∃a b c d,l=[a,b,c,d]
 | [a,b,c,d],_=>⟨a,b,c,d,rfl⟩
theorem ls5 {α:Type}:∀{l:List α},l.length=5→∃a b c d e,l=[a,b,c,d,e]
 | [a,b,c,d,e],_=>⟨a,b,c,d,e,rfl⟩
section
variable {H : Type} {enc : TypeId × Value → H} {w : World} {base : Nat} {spare : Nat → Bool} {held : Bool}
theorem recs_of2 {P:Program} {fuel:Nat} {v:Value} {x:DataW H × List MemPlace} {t e:TypeId} {k:Nat} {α:Type} {f:α→List Value} {good:α→Prop}
  (hu:P.underlying t=some (.slice e)) (hk:P.cellsOf e=k) (hk0:0<k) (hf:∀y,(f y).length=k) (hel:∀fuel cs x,DataW.trod enc P w base spare held fuel e cs=some x→cs.length=k→∃y,cs=f y∧good y)
  (h:DataW.trod enc P w base spare held fuel t [v]=some x) (hw:∀n∈x.1.weights P t,n≤reachBytes):
  ∃(a:Option Addr) (len cap:Nat) (ls:List α),v= .slice a len cap∧RowR w a len k f ls∧(∀y∈ls,good y)∧cap≤maxLen∧len≤cap∧(a=none→len=0∧cap=0)∧len*P.bytesOf e≤reachBytes:=by
 have h0:=h;rcases open_slice hu h with ⟨hcs,_⟩ | ⟨ad,l,c,m,n,D,Pl,hcs,hb,hl,hm,hmm,hx,hi⟩
 ·obtain rfl:=(List.cons.inj hcs).1
  exact⟨none,0,0,[],rfl,RowR.nil _ _ _ _,by simp,by unfold maxLen;omega,zw8 _,fun _=>⟨rfl,rfl⟩,by omega⟩
 ·obtain rfl:=(List.cons.inj hcs).1
  obtain⟨ls,r1,r2,r3,r4⟩:=recs_of hu hk hk0 hf hel h0;refine⟨some ad,l,c,ls,rfl,r1,r2,r3,r4,fun e=>(by cases e),?_⟩;subst hx;have:=hw ((((List.range l).map D).length+((List.range (m-l)).map fun j=>D (l+j)).length)*P.bytesOf e) (by simp[DataW.weights,hu]);simp only[zw4,zw37]at this;exact zw10 (zw34 _ (Nat.le_add_right _ _)) this
theorem rpt_of {fuel:Nat} {cs:List Value} {x:DataW H × List MemPlace} (h:DataW.trod enc Tryz.prog w base spare held fuel 115 cs=some x) (hl:cs.length=3):∃y:Pt,cs=cR y∧True:=by
 obtain⟨ys,n',hn',hy,hlen,hyl,hf⟩:=zw55 Tryz.underlying115 h;obtain⟨v0,v1,v2,rfl⟩:=ls3 hl;obtain⟨y0,y1,y2,rfl⟩:=ls3 (show ys.length=3 from hyl);obtain⟨n0,e0,_,w0⟩:=zw54 Tryz.underlying3 (hf 0 _ rfl);obtain⟨n1,e1,_,w1⟩:=zw54 Tryz.underlying3 (hf 1 _ rfl);obtain⟨n2,e2,_,w2⟩:=zw54 Tryz.underlying3 (hf 2 _ rfl);have g0:v0= .int .i64 n0:=(List.cons.inj e0).1;have g1:v1= .int .i64 n1:=(List.cons.inj e1).1;have g2:v2= .int .i64 n2:=(List.cons.inj e2).1;subst g0 g1 g2;exact⟨⟨n0,n1,n2⟩,rfl,trivial⟩
theorem rmk_of {fuel:Nat} {cs:List Value} {x:DataW H × List MemPlace} (h:DataW.trod enc Tryz.prog w base spare held fuel 116 cs=some x) (hl:cs.length=2):∃y:Mk,cs=cM y∧y.name.size≤9223372036854775807:=by
 obtain⟨ys,n',hn',hy,hlen,hyl,hf⟩:=zw55 Tryz.underlying116 h;obtain⟨v0,v1,rfl⟩:=ls2 hl;obtain⟨y0,y1,rfl⟩:=ls2 (show ys.length=2 from hyl);obtain⟨n0,e0,_,w0⟩:=zw54 Tryz.underlying3 (hf 0 _ rfl);obtain⟨n1,e1,_,w1⟩:=DataW.trod_string Tryz.underlying9 (hf 1 _ rfl);have g0:v0= .int .i64 n0:=(List.cons.inj e0).1;have g1:v1= .string n1:=(List.cons.inj e1).1;subst g0 g1;exact⟨⟨n0,n1⟩,rfl,by unfold maxLen at w1;exact w1⟩
theorem all_le {P:Program} {e:TypeId} {R:Nat}:∀{ds:List (DataW H)},(∀n∈DataW.weightsAll P e ds,n≤R)→∀d∈ds,∀n∈d.weights P e,n≤R
 | d0::ds,h,d,hd,n,hn=>by
  simp only[DataW.weightsAll,zw16]at h;rcases zw30.1 hd with rfl | hd
  ·exact h n (.inl hn)
  ·exact all_le (fun m hm=>h m (.inr hm)) d hd n hn
theorem track_of {fuel:Nat} {cs:Array Value} {x:DataW H × List MemPlace} (h:DataW.trod enc Tryz.prog w base spare held fuel 31 cs.toList=some x) (hs:cs.size=Tryz.prog.cellsOf 31) (hw:∀n∈x.1.weights Tryz.prog 31,n≤reachBytes):
  ∃(t:Tv) (y:Tk),cs=t.cells∧RfV w t y∧Room y:=by
 rw[cellsRT]at hs;obtain⟨ys,n',hn',hy,hlen,hyl,hf⟩:=zw55 Tryz.underlying31 h;obtain⟨v0,v1,v2,v3,v4,hv⟩:=ls5 (show cs.toList.length=5 by simpa using hs);obtain⟨y0,y1,rfl⟩:=ls2 (show ys.length=2 from hyl);rw[hv]at hf;have h0:DataW.trod enc Tryz.prog w base spare held n' 28 [v0,v1,v2,v3]=some y0:=hf 0 _ rfl;have h1:DataW.trod enc Tryz.prog w base spare held n' 29 [v4]=some y1:=hf 1 _ rfl;subst hy;have hw0:∀n∈y0.1.weights Tryz.prog 28,n≤reachBytes:=fun n hn=>hw n (by
  simp only[DataW.weights,Tryz.underlying31,List.map_cons,List.map_nil,DataW.weightsEach,zw16];exact .inl hn)
 have hw1:∀n∈y1.1.weights Tryz.prog 29,n≤reachBytes:=fun n hn=>hw n (by
  simp only[DataW.weights,Tryz.underlying31,List.map_cons,List.map_nil,DataW.weightsEach,zw16];exact .inr (.inl hn))
 obtain⟨zs,m,hm',hz,hzl,hzn,hg⟩:=DataW.trod_array Tryz.underlying28 h0;obtain⟨z0,z1,z2,z3,rfl⟩:=ls4 hzn;have a0:DataW.trod enc Tryz.prog w base spare held m 27 [v0]=some z0:=hg 0 (by omega);have a1:DataW.trod enc Tryz.prog w base spare held m 27 [v1]=some z1:=hg 1 (by omega);have a2:DataW.trod enc Tryz.prog w base spare held m 27 [v2]=some z2:=hg 2 (by omega);have a3:DataW.trod enc Tryz.prog w base spare held m 27 [v3]=some z3:=hg 3 (by omega);subst hz;have hwz:∀d∈[z0.1,z1.1,z2.1,z3.1],∀n∈d.weights Tryz.prog 27,n≤reachBytes:=all_le (fun n hn=>hw0 n (by
  simp only[DataW.weights,Tryz.underlying28,List.map_cons,List.map_nil];exact hn))
 obtain⟨A0,n0,c0,l0,rfl,r0,_,m0,q0,s0,b0⟩:=recs_of2 Tryz.underlying27 cellsRP (by decide) cR_len (fun _ _ _ h hl=>rpt_of h hl) a0 (hwz _ (by simp));obtain⟨A1,n1,c1,l1,rfl,r1,_,m1,q1,s1,b1⟩:=recs_of2 Tryz.underlying27 cellsRP (by decide) cR_len (fun _ _ _ h hl=>rpt_of h hl) a1 (hwz _ (by simp));obtain⟨A2,n2,c2,l2,rfl,r2,_,m2,q2,s2,b2⟩:=recs_of2 Tryz.underlying27 cellsRP (by decide) cR_len (fun _ _ _ h hl=>rpt_of h hl) a2 (hwz _ (by simp));obtain⟨A3,n3,c3,l3,rfl,r3,_,m3,q3,s3,b3⟩:=recs_of2 Tryz.underlying27 cellsRP (by decide) cR_len (fun _ _ _ h hl=>rpt_of h hl) a3 (hwz _ (by simp));obtain⟨Am,nm,cm,lm,rfl,rm,gm,mm,qm,sm,bm⟩:=recs_of2 Tryz.underlying29 cellsRM (by decide) cM_len (fun _ _ _ h hl=>rmk_of h hl) h1 hw1;rw[bytesRP]at b0 b1 b2 b3;rw[bytesRM]at bm;unfold maxLen at m0 m1 m2 m3 mm;have hR:reachBytes=140737488351232:=by decide
 rw[hR]at b0 b1 b2 b3 bm;refine⟨⟨⟨A0,n0,c0⟩,⟨A1,n1,c1⟩,⟨A2,n2,c2⟩,⟨A3,n3,c3⟩,⟨Am,nm,cm⟩⟩,⟨l0,l1,l2,l3,lm⟩,?_,⟨⟨r0,q0,m0,s0⟩,⟨r1,q1,m1,s1⟩,⟨r2,q2,m2,s2⟩,⟨r3,q3,m3,s3⟩,⟨rm,qm,mm,sm,gm⟩⟩,?_,?_⟩
 ·apply Array.ext'
  rw[hv];rfl
 ·intro c hc
  simp only[Tk.cams,zw30,List.not_mem_nil,or_false]at hc;rcases hc with rfl | rfl | rfl | rfl
  ·rw[r0.1];exact b0
  ·rw[r1.1];exact b1
  ·rw[r2.1];exact b2
  ·rw[r3.1];exact b3
 ·show lm.length*24≤_
  rw[rm.1];exact bm
end
end Go.Proofs.YtidnboeihkeljaaGreatDoor.Trk
