/- Law 20: a recording that came in, of no more values than the second form looks at. -/
import Derived.Test.YtidnboeihkeljaaGreatDoorF29
set_option maxHeartbeats 16000000
set_option maxRecDepth 100000
set_option linter.all false
namespace Go.Proofs.YtidnboeihkeljaaGreatDoor.Fil
open Go.ChangeShapes Go.WideShapes Go.ChangeAt Go.RowKit Go.Deep
open Rec
open Trk (Sl Tv Tk mayT encT RfV Room)
open Log (Hv Ev cH cV HdrIn)
theorem blk_one {H:Type} (d:DataW H):1≤Rows.uptoBulk d:=by
 cases d with
 | lit l=>cases l<;>simp[Rows.uptoBulk]
 | nil=>simp[Rows.uptoBulk]
 | ptr d=>simp[Rows.uptoBulk]
 | slice elems spare=>simp[Rows.uptoBulk]
 | agg parts=>simp[Rows.uptoBulk]
 | iface t d=>simp[Rows.uptoBulk]
 | map entries=>simp[Rows.uptoBulk]
 | held h=>simp[Rows.uptoBulk]
theorem blk_part {H:Type} {d:DataW H}:∀{l:List (DataW H)},d∈l→Rows.uptoBulk d≤Rows.uptoBulkAll l
 | x::r,h=>by
  simp only[Rows.uptoBulkAll];rcases zw30.1 h with e | e
  ·subst e;omega
  ·have:=blk_part e;omega
theorem blk_len {H:Type}:∀l:List (DataW H),l.length≤Rows.uptoBulkAll l
 | []=>by simp[Rows.uptoBulkAll]
 | x::r=>by have:=blk_one x;have:=blk_len r;simp only[Rows.uptoBulkAll,zw3];omega
theorem cellsPt:Tryz.prog.cellsOf 34=15:=by kernel_rfl
theorem cellsStr:Tryz.prog.cellsOf 9=1:=by kernel_rfl
theorem ls6 {α:Type}:∀{l:List α},l.length=6→∃a b c d e f,l=[a,b,c,d,e,f]
 | [a,b,c,d,e,f],_=>⟨a,b,c,d,e,f,rfl⟩
theorem ls15 {α:Type}:∀{l:List α},l.length=15→∃a b c d e f g h i j k m n o p,l=[a,b,c,d,e,f,g,h,i,j,k,m,n,o,p]
 | [a,b,c,d,e,f,g,h,i,j,k,m,n,o,p],_=>⟨a,b,c,d,e,f,g,h,i,j,k,m,n,o,p,rfl⟩
section
variable {H : Type} {enc : TypeId × Value → H} {w : World} {base : Nat} {spare : Nat → Bool} {held : Bool}
theorem recs_ofB {P:Program} {fuel:Nat} {v:Value} {x:DataW H × List MemPlace} {t e:TypeId} {k M:Nat} {α:Type} {f:α→List Value} {good:α→Prop}
  (hu:P.underlying t=some (.slice e)) (hk:P.cellsOf e=k) (hk0:0<k) (hf:∀y,(f y).length=k) (hel:∀fuel cs x,DataW.trod enc P w base spare held fuel e cs=some x→cs.length=k→Rows.uptoBulk x.1≤M→∃y,cs=f y∧good y)
  (h:DataW.trod enc P w base spare held fuel t [v]=some x) (hb:Rows.uptoBulk x.1≤M):
  ∃(a:Option Addr) (len cap:Nat) (ls:List α),v= .slice a len cap∧RowR w a len k f ls∧(∀y∈ls,good y)∧cap≤maxLen∧len≤cap∧len≤M:=by
 rcases open_slice hu h with ⟨hcs,_⟩ | ⟨ad,len,cap,m,n,D,Pl,hcs,_,hl,hm,hmm,hx,hi⟩
 ·obtain rfl:=(List.cons.inj hcs).1
  exact⟨none,0,0,[],rfl,RowR.nil _ _ _ _,by simp,by unfold maxLen;omega,zw8 _,by omega⟩
 ·obtain rfl:=(List.cons.inj hcs).1
  have hlm:len≤m:=by rw[hmm];split<;>omega
  subst hx;simp only[Rows.uptoBulk]at hb;have hlen:=blk_len ((List.range len).map D);rw[zw4,zw37]at hlen;rw[hk]at hi;have key:∀i,i<len→∃y:α,good y∧∀j (hj:j<k),w.cell? ((ad.add (i*k)).add j)=(f y)[j]? :=by
   intro i hil;obtain⟨cs',hc,ht'⟩:=hi i (by omega);obtain⟨_,hcl,hat⟩:=World.cells?_some hc;have hpt:=blk_part (List.mem_map.2 ⟨i,List.mem_range.2 hil,rfl⟩:D i∈(List.range len).map D);obtain⟨y,hy,hg⟩:=hel _ _ _ ht' hcl (by show Rows.uptoBulk (D i)≤M;omega);subst hy;refine⟨y,hg,fun j hj=>?_⟩;rw[hat j hj,zw6 (by rw[hf];exact hj)]
  obtain⟨b,o,spot⟩:=ad
  let g:Fin len→α:=fun i=>Classical.choose (key i.1 i.2)
  have hg:∀i:Fin len,good (g i)∧∀j (hj:j<k),w.cell? (((⟨b,o,spot⟩:Addr).add (i.1*k)).add j)=(f (g i))[j]? :=fun i=>Classical.choose_spec (key i.1 i.2);have hspot:0<len→spot=none:=fun h0=>by
   have hc00:=(hg ⟨0,h0⟩).2 0 hk0;rw[zw6 (by rw[hf];exact hk0)]at hc00;have:=hc00
   simpa [Addr.add]using World.cell?_spot this
  refine⟨some ⟨b,o,spot⟩,len,cap,List.ofFn g,rfl,⟨by simp,fun h0=>?_⟩,fun y hy=>?_,hm,hl,by omega⟩
  ·obtain rfl:=hspot h0
   have hc00:=(hg ⟨0,h0⟩).2 0 hk0;rw[zw6 (by rw[hf];exact hk0)]at hc00;have hadd:∀b o j,(⟨b,o,none⟩:Addr).add j=⟨b,o+j,none⟩:=fun b o j=>by unfold Addr.add;split<;>simp_all
   refine⟨b,o,rfl,?_,fun j hj i hi=>?_⟩
   ·rw[hadd,hadd]at hc00
    exact World.block_lt_of_cell? w _ hc00
   ·have hj':j<len:=by simpa using hj
    have:=(hg ⟨j,hj'⟩).2 i hi;rw[hadd,hadd]at this;rw[List.getElem_ofFn];exact this
  ·obtain⟨i,rfl⟩:=List.mem_ofFn.1 hy
   exact(hg i).1
theorem str_ofB {fuel M:Nat} {cs:List Value} {x:DataW H × List MemPlace} (h:DataW.trod enc Tryz.prog w base spare held fuel 9 cs=some x) (hb:Rows.uptoBulk x.1≤M):∃y:ByteArray,cs=cT y∧y.size≤M:=by
 obtain⟨s,e,hx,_⟩:=DataW.trod_string Tryz.underlying9 h;subst hx;simp only[Rows.uptoBulk]at hb;exact⟨s,e,by have:s.data.toList.length=s.size:=rfl;omega⟩
theorem parts_of {fuel:Nat} {cs:Array Value} {x:DataW H × List MemPlace} (h:DataW.trod enc Tryz.prog w base spare held fuel 34 cs.toList=some x) (hs:cs.size=Tryz.prog.cellsOf 34) (hw:∀n∈x.1.weights Tryz.prog 34,n≤reachBytes) (hb:Rows.uptoBulk x.1≤1048576):
  ∃(p:Pv) (y:Hv) (evs:List Ev) (N KI:Int) (tr:Tk) (ts:List ByteArray),cs=cPa y (.slice p.A y.starts.length p.c) (.slice p.Al evs.length p.cl) N KI p.t (.slice p.Af ts.length p.cf)∧RfP w p y evs tr ts∧InP p y evs N KI tr ts:=by
 rw[cellsPt]at hs;obtain⟨ys,n',hn',hy,hlen,hyl,hf⟩:=zw55 Tryz.underlying34 h;obtain⟨v0,v1,v2,v3,v4,v5,v6,v7,v8,v9,v10,v11,v12,v13,v14,hv⟩:=ls15 (show cs.toList.length=15 by simpa using hs);obtain⟨y0,y1,y2,y3,y4,y5,rfl⟩:=ls6 (show ys.length=6 from hyl);rw[hv]at hf;have h0:DataW.trod enc Tryz.prog w base spare held n' 25 (#[v0,v1,v2,v3,v4,v5]:Array Value).toList=some y0:=hf 0 _ rfl;have h1:DataW.trod enc Tryz.prog w base spare held n' 26 [v6]=some y1:=hf 1 _ rfl;have h4:DataW.trod enc Tryz.prog w base spare held n' 31 (#[v9,v10,v11,v12,v13]:Array Value).toList=some y4:=hf 4 _ rfl;have h5:DataW.trod enc Tryz.prog w base spare held n' 32 [v14]=some y5:=hf 5 _ rfl;obtain⟨i2,e2,_,w2⟩:=zw54 Tryz.underlying3 (hf 2 _ rfl);obtain⟨i3,e3,_,w3⟩:=zw54 Tryz.underlying3 (hf 3 _ rfl);have g2:v7= .int .i64 i2:=(List.cons.inj e2).1;have g3:v8= .int .i64 i3:=(List.cons.inj e3).1;have c2:=bounds_i64 w2;have c3:=bounds_i64 w3;subst hy;simp only[Rows.uptoBulk,List.map_cons,List.map_nil,Rows.uptoBulkAll]at hb;have hwT:∀n∈y4.1.weights Tryz.prog 31,n≤reachBytes:=fun n hn=>hw n (by
  simp only[DataW.weights,Tryz.underlying34,List.map_cons,List.map_nil,DataW.weightsEach,zw16];exact .inr (.inr (.inr (.inr (.inl hn)))))
 obtain⟨hd,A,m,c,k1,k2,k3,k4,k5,k6,k7,k8,k9,k10⟩:=Log.hdr_of h0 (by rw[Log.cellsHd];rfl);obtain⟨Al,ml,cl,evs,rfl,r1,g1,a1,a2,a3⟩:=recs_ofB (M:=1048576) Tryz.underlying26 Log.cellsE (by decide) Log.cV_len (fun _ _ _ h hl _=>Log.entry_of h hl) h1 (by omega);obtain⟨t,tr,e4,r4,hr⟩:=Trk.track_of h4 (by rw[Trk.cellsRT];rfl) hwT;obtain⟨Af,mf,cf,ts,rfl,r5,g5,b1,b2,b3⟩:=recs_ofB (M:=1048576) Tryz.underlying32 cellsStr (by decide) cT_len (fun _ _ _ h _ hb=>str_ofB h hb) h5 (by omega);have l0:=k2.1;have l1:=r1.1;have l5:=r5.1;unfold maxLen at a1 b1;subst g2 g3 l0 l1 l5;refine⟨⟨A,c,Al,cl,t,Af,cf⟩,hd,evs,i2,i3,tr,ts,?_,⟨k2,r1,r4,r5⟩,⟨hr,by omega,by omega,fun s hs=>zw10 (g5 s hs) (by decide),k3,g1,k4,⟨k7,k8,k9,k10⟩,c2,c3,k5,k6,a2,zw10 a1 (by decide)⟩⟩;apply Array.ext';rw[hv];have q0: [v0,v1,v2,v3,v4,v5]=(cH hd (.slice A hd.starts.length c)).toList:=congrArg Array.toList k1;have q4: [v9,v10,v11,v12,v13]=t.cells.toList:=congrArg Array.toList e4;simp only[cH,Tv.cells,List.cons.injEq,and_true]at q0 q4;obtain⟨rfl,rfl,rfl,rfl,rfl,rfl⟩:=q0;obtain⟨rfl,rfl,rfl,rfl,rfl⟩:=q4;rfl
end
end Go.Proofs.YtidnboeihkeljaaGreatDoor.Fil
