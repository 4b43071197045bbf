
import Derived.Test.YtbopblbhjcemaaaGreatDoorF15
set_option maxHeartbeats 16000000
set_option maxRecDepth 100000
set_option linter.all false
namespace Go.Proofs.YtbopblbhjcemaaaGreatDoor.Trk
open Go.ChangeShapes Go.WideShapes Go.ChangeAt Go.RowKit
open Wire
open Rec
open Log (pN pI pF pB pT nx va RSt pN_put pI_put pT_put pN_ok pI_ok pT_ok)
def pMs:Nat→Nat→List Nat→Option (List Mk × List Nat)
 | 0,_,L=>some ([],L)
 | k+1,last,L=>match pI L with
  | none=>none
  | some (d,L1)=>match pT 40 L1 with
   | none=>none
   | some (ys,L2)=>match pMs k (last+d) L2 with
    | none=>none
    | some (ms,R)=>some (⟨((last+d:Nat):Int),strOf ys⟩::ms,R)
def pMk (L:List Nat):Option (List Mk × List Nat):=match pN L with
 | none=>none
 | some (k,L1)=>pMs k 0 L1
def restM (ds:List Mk) (k last:Nat) (L:List Nat):Option (List Mk × List Nat):=(pMs k last L).map (fun q=>(ds++q.1,q.2))
theorem restM_zero (ds:List Mk) (last:Nat) (L:List Nat):restM ds 0 last L=some (ds,L):=by simp[restM,pMs]
theorem restM_step (ds:List Mk) (k last:Nat) (L:List Nat):(nx (pT 40) (nx pI (some L))=none→restM ds (k+1) last L=none)∧
  ∀L3,nx (pT 40) (nx pI (some L))=some L3→restM ds (k+1) last L=restM (ds++[⟨((last+va pI 0 (some L):Nat):Int),strOf (va (pT 40) [] (nx pI (some L)))⟩]) k (last+va pI 0 (some L)) L3:=by
 cases h1:pI L with
 | none=>simp[nx,h1,restM,pMs]
 | some p1=>
  obtain⟨d,L1⟩:=p1
  cases h2:pT 40 L1 with
  | none=>simp[nx,h1,h2,restM,pMs]
  | some p2=>
   obtain⟨x,L2⟩:=p2;refine⟨fun h=>by simp[nx,h1,h2]at h,fun L3' h=>?_⟩;have e:L2=L3':=by simpa [nx,h1,h2]using h
   subst e;have e1:va pI 0 (some L)=d:=by simp[va,h1]
   have e2:va (pT 40) [] (nx pI (some L))=x:=by simp[va,nx,h1,h2]
   rw[e1,e2];unfold restM;rw[pMs,h1];simp only[h2]
   cases pMs k (last+d) L2 with
   | none=>rfl
   | some q=>obtain⟨ps,R⟩:=q;simp
def pTk (L:List Nat):Option (Tk × List Nat):=(pCm L).bind fun p0=>(pCm p0.2).bind fun p1=>(pCm p1.2).bind fun p2=>(pCm p2.2).bind fun p3=>(pMk p3.2).bind fun q=>some (⟨p0.1,p1.1,p2.1,p3.1,q.1⟩,q.2)
def takeT (n:Int) (L:List Nat):Option Tk:=
 if 0≤n∧n≤4096 then match pTk L with
  | some (x,[])=>if mayT n x=true then some x else none
  | _=>none
 else none
theorem pTk_eq (L:List Nat) (d0 d1 d2 d3:List Pt) (h0:∀ps R,(some L).bind pCm=some (ps,R)→d0=ps) (h1:∀ps R,(nx pCm (some L)).bind pCm=some (ps,R)→d1=ps)
  (h2:∀ps R,(nx pCm (nx pCm (some L))).bind pCm=some (ps,R)→d2=ps) (h3:∀ps R,(nx pCm (nx pCm (nx pCm (some L)))).bind pCm=some (ps,R)→d3=ps):
  pTk L=((nx pCm (nx pCm (nx pCm (nx pCm (some L))))).bind pMk).bind fun q=>some (⟨d0,d1,d2,d3,q.1⟩,q.2):=by
 unfold pTk
 cases e0:pCm L with
 | none=>simp[nx,e0]
 | some p0=>
  obtain⟨a0,L0⟩:=p0;obtain rfl:=h0 a0 L0 (by simp[e0])
  cases e1:pCm L0 with
  | none=>simp[nx,e0,e1]
  | some p1=>
   obtain⟨a1,L1⟩:=p1;obtain rfl:=h1 a1 L1 (by simp[nx,e0,e1])
   cases e2:pCm L1 with
   | none=>simp[nx,e0,e1,e2]
   | some p2=>
    obtain⟨a2,L2⟩:=p2;obtain rfl:=h2 a2 L2 (by simp[nx,e0,e1,e2])
    cases e3:pCm L2 with
    | none=>simp[nx,e0,e1,e2,e3]
    | some p3=>
     obtain⟨a3,L3⟩:=p3;obtain rfl:=h3 a3 L3 (by simp[nx,e0,e1,e2,e3]);simp[nx,e0,e1,e2,e3]
theorem pPs_put (n:Int) (hn:n≤4096):∀(ps:List Pt) (last:Nat) (lm:Int) (ys:List Nat),(last:Int)≤lm+1→mayC n lm ps=true→pPs ps.length last (encP last ps++ys)=some (ps,ys):=by
 intro ps
 induction ps with
 | nil=>intro _ _ _ _ _;rfl
 | cons p ps ih=>
  intro last lm ys hl hm;rw[mayC,zw48,zw49]at hm;obtain⟨⟨h1,h2,h3,h4,h5,h6⟩,h7⟩:=hm;obtain⟨t,x,y⟩:=p;simp only at h1 h2 h3 h4 h5 h6 h7;obtain⟨d,rfl⟩:∃d:Nat,t=((last+d:Nat):Int):=⟨(t-last).toNat,by omega⟩;obtain⟨X,rfl⟩:∃d:Nat,x=(d:Int):=⟨x.toNat,by omega⟩;obtain⟨Y,rfl⟩:∃d:Nat,y=(d:Int):=⟨y.toNat,by omega⟩;rw[zw3,encP];simp only[zw35,show(((last+d:Nat):Int)-(last:Int)).toNat=d by omega,zw7];rw[pPs,pI_put (by omega)];simp only;rw[pI_put (by omega)];simp only;rw[pI_put (by omega)];simp only;rw[ih (last+d) ((last+d:Nat):Int) ys (by omega) h7]
theorem pCm_put (n:Int) (hn:n≤4096) {ps:List Pt} (h:mayCam n ps=true) (ys:List Nat):pCm (encC ps++ys)=some (ps,ys):=by
 have hl:=mayCam_len h;have hc:=mayCam_c h;rw[zw28]at hc;unfold encC pCm;rw[zw7,pN_put (by omega)];exact pPs_put n hn ps 0 (-1) ys (by omega) hc
theorem pMs_put (n:Int) (hn:n≤4096):∀(ms:List Mk) (last:Nat) (ys:List Nat),mayM n last ms=true→pMs ms.length last (encMs last ms++ys)=some (ms,ys):=by
 intro ms
 induction ms with
 | nil=>intro _ _ _;rfl
 | cons p ms ih=>
  intro last ys hm;rw[mayM,zw48,zw49,zw48,zw49]at hm;obtain⟨h1,⟨h2,h3,h4⟩,h7⟩:=hm;obtain⟨t,s⟩:=p;simp only at h1 h2 h3 h4 h7;obtain⟨d,rfl⟩:∃d:Nat,t=((last+d:Nat):Int):=⟨(t-last).toNat,by omega⟩;rw[zw3,encMs];simp only[show(((last+d:Nat):Int)-(last:Int)).toNat=d by omega,zw7];rw[pMs,pI_put (by omega)];simp only;have hp:=pT_put (most:=40) (xs:=natsOf s) (by rw[natsOf_len];exact h4) (by omega) (encMs ((last+d:Nat):Int) ms++ys);rw[natsOf_len]at hp;rw[hp];simp only;rw[ih (last+d) ys h7];simp only[strOf_nats]
theorem pMk_put (n:Int) (hn:n≤4096) {ms:List Mk} (hl:ms.length≤32) (h:mayM n 0 ms=true) (ys:List Nat):pMk (encM ms++ys)=some (ms,ys):=by
 unfold encM pMk;rw[zw7,pN_put (by omega)];exact pMs_put n hn ms 0 ys h
theorem takeT_put {n:Int} {x:Tk} (h:mayT n x=true):takeT n (encT x)=some x:=by
 obtain⟨hn,hm,⟨a,b,c,d⟩,e⟩:=mayT_parts h;obtain⟨p0,p1,p2,p3,ms⟩:=x;simp only at hm a b c d e;have he:encT ⟨p0,p1,p2,p3,ms⟩=encC p0++(encC p1++(encC p2++(encC p3++(encM ms++[])))):=by simp[encT,Tk.cams]
 unfold takeT;rw[if_pos hn,he];unfold pTk;rw[pCm_put n hn.2 a,Option.bind_some,pCm_put n hn.2 b,Option.bind_some,pCm_put n hn.2 c,Option.bind_some,pCm_put n hn.2 d,Option.bind_some,pMk_put n hn.2 hm e,Option.bind_some];simp only;rw[if_pos h]
theorem encP_len (n:Int) (hn:n≤4096):∀(ps:List Pt) (last lm:Int),0≤last→last≤lm+1→mayC n lm ps=true→(encP last ps).length≤30*ps.length∧∀c∈encP last ps,c<256
 | [],_,_,_,_,_=>by simp[encP]
 | p::ps,last,lm,h0,h1,h=>by
  rw[mayC,zw48,zw49]at h;obtain⟨⟨a1,a2,a3,a4,a5,a6⟩,h2⟩:=h;have ih:=encP_len n hn ps p.tick p.tick (by omega) (by omega) h2;have b1:=vb_ten (n:=(p.tick-last).toNat) (by omega);have b2:=vb_ten (n:=p.x.toNat) (by omega);have b3:=vb_ten (n:=p.y.toNat) (by omega);refine⟨?_,fun c hc=>?_⟩
  ·rw[encP,zw0,zw0,zw0,zw3]
   omega
  ·rw[encP]at hc
   rcases zw16.1 hc with hc | hc
   ·rcases zw16.1 hc with hc | hc
    ·exact vb_mem _ c hc
    ·rcases zw16.1 hc with hc | hc
     ·exact vb_mem _ c hc
     ·exact vb_mem _ c hc
   ·exact ih.2 c hc
theorem encC_len {n:Int} (hn:n≤4096) {ps:List Pt} (h:mayCam n ps=true):(encC ps).length≤2000∧∀c∈encC ps,c<256:=by
 have hl:=mayCam_len h;have h1:=encP_len n hn ps 0 (-1) (by omega) (by omega) (by have:=mayCam_c h;simpa using this);have b1:=vb_ten (n:=ps.length) (by omega);refine⟨by rw[encC,zw0];omega,fun c hc=>?_⟩;rw[encC]at hc;rcases zw16.1 hc with hc | hc
 ·exact vb_mem _ c hc
 ·exact h1.2 c hc
theorem encMs_len (n:Int) (hn:n≤4096):∀(ms:List Mk) (last:Int),0≤last→mayM n last ms=true→(encMs last ms).length≤60*ms.length∧∀c∈encMs last ms,c<256
 | [],_,_,_=>by simp[encMs]
 | m::ms,last,h0,h=>by
  rw[mayM,zw48,zw48,zw49,zw49]at h;obtain⟨h1,⟨a1,a2,a3⟩,h2⟩:=h;have ih:=encMs_len n hn ms m.tick (by omega) h2;have b1:=vb_ten (n:=(m.tick-last).toNat) (by omega);have b2:=vb_ten (n:=m.name.size) (by omega);have b3:=natsOf_len m.name;refine⟨?_,fun c hc=>?_⟩
  ·rw[encMs,zw0,zw0,zw0,zw3]
   omega
  ·rw[encMs]at hc
   rcases zw16.1 hc with hc | hc
   ·rcases zw16.1 hc with hc | hc
    ·exact vb_mem _ c hc
    ·rcases zw16.1 hc with hc | hc
     ·exact vb_mem _ c hc
     ·exact mem_small (natsOf_small m.name) c hc
   ·exact ih.2 c hc
theorem encT_both {n:Int} {x:Tk} (h:mayT n x=true):(encT x).length≤100000∧∀c∈encT x,c<256:=by
 obtain⟨hn,hm,⟨a,b,c,d⟩,e⟩:=mayT_parts h;have h0:=encC_len hn.2 a;have h1:=encC_len hn.2 b;have h2:=encC_len hn.2 c;have h3:=encC_len hn.2 d;have h4:=encMs_len n hn.2 x.marks 0 (by omega) e;have h5:=vb_ten (n:=x.marks.length) (by omega);have he:encT x=encC x.c0++(encC x.c1++(encC x.c2++(encC x.c3++(vb x.marks.length++encMs 0 x.marks)))):=by simp[encT,Tk.cams,encM]
 rw[he];refine⟨by simp only[zw0];omega,fun q hq=>?_⟩;rcases zw16.1 hq with hq | hq
 ·exact h0.2 q hq
 rcases zw16.1 hq with hq | hq
 ·exact h1.2 q hq
 rcases zw16.1 hq with hq | hq
 ·exact h2.2 q hq
 rcases zw16.1 hq with hq | hq
 ·exact h3.2 q hq
 rcases zw16.1 hq with hq | hq
 ·exact vb_mem _ q hq
 ·exact h4.2 q hq
end Go.Proofs.YtbopblbhjcemaaaGreatDoor.Trk
