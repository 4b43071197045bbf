
import Derived.Test.YtidnboeihkeljaaGreatDoorTrkD
import Derived.Test.YtidnboeihkeljaaGreatDoorF19
set_option maxHeartbeats 16000000
set_option maxRecDepth 100000
set_option linter.all false
namespace Go.Proofs.YtidnboeihkeljaaGreatDoor.Trk
open Go.ChangeShapes Go.WideShapes Go.ChangeAt Go.RowKit
open Wire
open Rec
open Log (pN pI pF pB pT nx va RSt num_st int_st text_st err_st end_st of_st pN_put pI_put pT_put pN_ok pI_ok pT_ok gb_far gb_alloc gb_drew RIn)
def pPs:Nat→Nat→List Nat→Option (List Pt × List Nat)
 | 0,_,L=>some ([],L)
 | k+1,last,L=>match pI L with
  | none=>none
  | some (d,L1)=>match pI L1 with
   | none=>none
   | some (x,L2)=>match pI L2 with
    | none=>none
    | some (y,L3)=>match pPs k (last+d) L3 with
     | none=>none
     | some (ps,R)=>some (⟨((last+d:Nat):Int),(x:Int),(y:Int)⟩::ps,R)
def pCm (L:List Nat):Option (List Pt × List Nat):=match pN L with
 | none=>none
 | some (k,L1)=>pPs k 0 L1
def restP (ds:List Pt) (k last:Nat) (L:List Nat):Option (List Pt × List Nat):=(pPs k last L).map (fun q=>(ds++q.1,q.2))
theorem restP_zero (ds:List Pt) (last:Nat) (L:List Nat):restP ds 0 last L=some (ds,L):=by simp[restP,pPs]
theorem restP_step (ds:List Pt) (k last:Nat) (L:List Nat):(nx pI (nx pI (nx pI (some L)))=none→restP ds (k+1) last L=none)∧
  ∀L3,nx pI (nx pI (nx pI (some L)))=some L3→restP ds (k+1) last L=restP (ds++[⟨((last+va pI 0 (some L):Nat):Int),((va pI 0 (nx pI (some L)):Nat):Int),((va pI 0 (nx pI (nx pI (some L))):Nat):Int)⟩]) k (last+va pI 0 (some L)) L3:=by
 cases h1:pI L with
 | none=>simp[nx,h1,restP,pPs]
 | some p1=>
  obtain⟨d,L1⟩:=p1
  cases h2:pI L1 with
  | none=>simp[nx,h1,h2,restP,pPs]
  | some p2=>
   obtain⟨x,L2⟩:=p2
   cases h3:pI L2 with
   | none=>simp[nx,h1,h2,h3,restP,pPs]
   | some p3=>
    obtain⟨y,L3⟩:=p3;refine⟨fun h=>by simp[nx,h1,h2,h3]at h,fun L3' h=>?_⟩;have e:L3=L3':=by simpa [nx,h1,h2,h3]using h
    subst e;have e1:va pI 0 (some L)=d:=by simp[va,h1]
    have e2:va pI 0 (nx pI (some L))=x:=by simp[va,nx,h1,h2]
    have e3:va pI 0 (nx pI (nx pI (some L)))=y:=by simp[va,nx,h1,h2,h3]
    rw[e1,e2,e3];unfold restP;rw[pPs,h1];simp only[h2,h3]
    cases pPs k (last+d) L3 with
    | none=>rfl
    | some q=>obtain⟨ps,R⟩:=q;simp
theorem infoP:(Tryz.prog.info? 110).map (fun i=>(i.zero,i.size,i.bytes))=some (some (.agg #[.int .i64 0,.int .i32 0,.int .i32 0]),3,16):=by kernel_rfl
theorem infoM:(Tryz.prog.info? 113).map (fun i=>(i.zero,i.size,i.bytes))=some (some (.agg #[.int .i64 0,.string ⟨#[]⟩]),2,24):=by kernel_rfl
def CRel (w:World) (g:Nat) (A:Option Addr) (m c:Nat) (xs:List Nat) (O:Option (List Pt × List Nat)) (gh:Nat) (ov lv kv:Value) (wr:World):Prop:=
 ∃(ds:List Pt) (last:Nat) (st:Option (List Nat)),OwnR w.heap.size wr 110 3 cP ov ds∧lv= .int .i64 (last:Int)∧kv= .int .u64 (gh:Int)∧gh<18446744073709551616∧RSt wr g A m c xs st∧w.grownBy wr (some g)∧
  (st=none→O=none)∧(∀L,st=some L→O=restP ds gh last L∧ds.length+L.length≤m)∧ds.length≤m+1∧last≤ds.length*2147483647
theorem nxI_len {L L3:List Nat} (h:nx pI (nx pI (nx pI (some L)))=some L3):L3.length+3≤L.length:=by
 have hs:∀(M R:List Nat) v,pI M=some (v,R)→R.length+1≤M.length:=fun M R v hq=>by
  unfold pI at hq
  split at hq
  ·rename_i v' k hv
   cases hq
   cases hr:vr 0 0 M with
   | short=>rw[hr]at hv;cases hv
   | form=>rw[hr]at hv;cases hv
   | ok x y=>
    rw[hr]at hv;simp only[lim]at hv
    split at hv<;>cases hv
    have h2:∀(N:List Nat) (size acc v k:Nat),vr size acc N= .ok v k→size<k∧k≤size+N.length:=by
     intro N
     induction N with
     | nil=>intro size acc v k h;simp[vr]at h
     | cons c cs ih=>
      intro size acc v k h;rw[vr]at h
      split at h
      ·cases h
      ·split at h
       ·cases h;rw[zw3];omega
       ·have:=ih _ _ _ _ h
        rw[zw3];omega
    have:=h2 M 0 0 v k hr;rw[zw1];omega
  ·cases hq
 cases h1:pI L with
 | none=>simp[nx,h1]at h
 | some p1=>
  obtain⟨d,L1⟩:=p1
  cases h2:pI L1 with
  | none=>simp[nx,h1,h2]at h
  | some p2=>
   obtain⟨x,L2⟩:=p2
   cases h3:pI L2 with
   | none=>simp[nx,h1,h2,h3]at h
   | some p3=>
    obtain⟨y,L3'⟩:=p3;have e:L3'=L3:=by simpa [nx,h1,h2,h3]using h
    subst e;have:=hs _ _ _ h1;have:=hs _ _ _ h2;have:=hs _ _ _ h3;omega
theorem takeCam_st (g m c:Nat) (A:Option Addr) (xs:List Nat) (st:Option (List Nat)) (w:World) (h:RSt w g A m c xs st) (hm:m≤1000000) (hst:∀L,st=some L→L.length≤m):
  Calls Tryz.prog 122 #[.pointer (some ⟨g,0,none⟩)] w fun e w'=>∃(A':Option Addr) (n' c':Nat) (ds:List Pt),e= .returned (.slice A' n' c')∧OwnR w.heap.size w' 110 3 cP (.slice A' n' c') ds∧RSt w' g A m c xs (nx pCm st)∧w.grownBy w' (some g)∧∀ps R,st.bind pCm=some (ps,R)→ds=ps:=by
 obtain⟨O,hO⟩:∃O,O=st.bind pCm:=⟨_,rfl⟩;have hnx:nx pCm st=O.map (·.2):=by rw[hO];rfl
 rw[hnx,←hO];have hgw:g<w.heap.size:=h.lt;have HR0:=zh h.rin;have HN:=zh (num_st g m c A xs st w h);have HO0:Hid ((nx pN st=none→O=none)∧∀L,nx pN st=some L→O=restP [] (va pN 0 st) 0 L∧([]:List Pt).length+L.length≤m):=zh<| by
  rw[hO]
  cases st with
  | none=>simp[nx]
  | some M=>
   cases hq:pN M with
   | none=>simp[nx,hq,pCm]
   | some q=>
    obtain⟨k,L1⟩:=q;refine⟨fun h=>by simp[nx,hq]at h,fun L hL=>?_⟩;have e:L1=L:=by simpa [nx,hq]using hL
    subst e;have e2:va pN 0 (some M)=k:=by simp[va,hq]
    rw[e2];refine⟨?_,?_⟩
    ·simp only[Option.bind_some,pCm,hq,restP,zw17]
     cases pPs k 0 L1 with
     | none=>rfl
     | some q=>rfl
    ·have:=(pN_ok h.small hq).1
     have:=congrArg List.length this;rw[zw0]at this;have:=hst M rfl;simp only[zw26];omega
 have HGW:=zh hgw;clear h hst hnx hO hgw;go_enter Tryz.func122,Tryz.ntmps122;go_wp2_with fail;refine(HN.out).mono ?_;rintro e w1 ⟨rfl,hz,hS,hG⟩;have HREL:Hid (CRel w g A m c xs O (va pN 0 st) (.slice none 0 0) (.int .i64 0) (.int .u64 ((va pN 0 st:Nat):Int)) w1):=
  zh ⟨[],0,nx pN st,OwnR.nil _ _ _ _ _,rfl,rfl,hz,hS,hG,HO0.out.1,HO0.out.2,by simp,by simp⟩
 generalize va pN 0 st=left at*;clear hS hG hz HN HO0;go_wp2_with fail
 go_loopg [3,4,5] left (fun gh ov lv kv wr=>CRel w g A m c xs O gh ov lv kv wr)
 case atStart=>exact HREL.out
 case round=>
  obtain⟨ds,last,st1,hO,rfl,rfl,hgh,hS,hG,hn0,hs0,hdl,hll⟩:=hrel;obtain⟨wi,rfl⟩:∃wi:World,wi=wr:=⟨_,rfl⟩;obtain⟨vi,rfl⟩:∃vi:Value,vi=u3:=⟨_,rfl⟩;obtain⟨gh,rfl⟩:∃gh:Nat,gh=gk:=⟨_,rfl⟩;have HO:=zh hO;have HS:=zh hS;have HG:=zh hG;have HN0:=zh hn0;have HS0:=zh hs0;have HLL:=zh hll;clear hO hS hG hn0 hs0 HREL hll
  cases gh with
  | zero=>
   go_wp2_with fail;go_ret;obtain⟨A',c',hv,_⟩:=HO.out.shape;refine⟨A',ds.length,c',ds,congrArg Ending.returned hv,by rw[←hv];exact HO.out,?_,HG.out,?_⟩
   ·cases hst:st1 with
    | none=>rw[HN0.out hst];have:=HS.out;rwa [hst]at this
    | some L=>rw[(HS0.out L hst).1,restP_zero];have:=HS.out;rwa [hst]at this
   ·intro ps R hq
    cases hst:st1 with
    | none=>rw[HN0.out hst]at hq;cases hq
    | some L=>rw[(HS0.out L hst).1,restP_zero]at hq;cases hq;rfl
  | succ gh=>
   have HER:=zh (err_st g m c A xs st1 wi HS.out);have hghi:(0:Int)<((gh+1:Nat):Int):=by omega
   go_wp2_with fail;refine(HER.out).mono ?_;rintro e w2 ⟨x,rfl,hx,rfl⟩
   cases hst:st1 with
   | none=>
    have hx1:(x==0)=false:=zw12.2 (hx.2 hst);have HON:=zh (HN0.out hst);have HSN:=zh (hst▸HS.out);clear hx hst;go_wp2_with fail;go_ret;obtain⟨A',c',hv,_⟩:=HO.out.shape;refine⟨A',ds.length,c',ds,congrArg Ending.returned hv,by rw[←hv];exact HO.out,?_,HG.out,?_⟩
    ·rw[HON.out];exact HSN.out
    ·intro ps R hq;rw[HON.out]at hq;cases hq
   | some L=>
    have hx1:x=0:=by
     by_cases h0:x=0
     ·exact h0
     ·have:=hx.1 h0;rw[hst]at this;cases this
    subst hx1;obtain⟨hOL,hlm⟩:=HS0.out L hst;have HSL:=zh (hst▸HS.out);have HOL:=zh hOL;have HST:=zh (restP_step ds gh last L);have HLN:=zh (fun L3 h=>nxI_len (L:=L) (L3:=L3) h);clear hx hst hOL HS HS0 HN0 HER;have HA1:=zh (int_st g m c A xs (some L) wi HSL.out);have hl8:last≤2147483647000000:=by
     have:=HLL.out;have h2:ds.length*2147483647≤1000001*2147483647:=zw34 _ (by omega);omega
    go_wp2_with fail;refine(HA1.out).mono ?_;rintro e w3 ⟨rfl,hz1,hS1,hG1⟩;have HS1:=zh hS1;have HG1:=zh hG1;have HA2:=zh (int_st g m c A xs _ w3 hS1);obtain⟨z1,hv1⟩:∃z,z=va pI 0 (some L):=⟨_,rfl⟩;rw[←hv1]at hz1 HST ⊢;replace hv1:=zh hv1;clear hS1 hG1 HA1 HSL;go_wp2_with fail;refine(HA2.out).mono ?_;rintro e w4 ⟨rfl,hz2,hS2,hG2⟩;have HS2:=zh hS2;have HG2:=zh hG2;have HA3:=zh (int_st g m c A xs _ w4 hS2);obtain⟨z2,hv2⟩:∃z,z=va pI 0 (nx pI (some L)):=⟨_,rfl⟩;rw[←hv2]at hz2 HST ⊢;replace hv2:=zh hv2;clear hS2 hG2 HA2 HS1;go_wp2_with fail;refine(HA3.out).mono ?_;rintro e w5 ⟨rfl,hz3,hS3,hG3⟩;have HS3:=zh hS3;have HG3:=zh hG3;obtain⟨z3,hv3⟩:∃z,z=va pI 0 (nx pI (nx pI (some L))):=⟨_,rfl⟩;rw[←hv3]at hz3 HST ⊢;replace hv3:=zh hv3;have hgg:wi.grownBy w5 (some g):=gb_trans (gb_trans HG1.out HG2.out) HG3.out;have HO5:=zh (HO.out.grown hgg HGW.out);have HG5:=zh (gb_trans HG.out hgg);clear hS3 hG3 HA3 HS2 HG1 HG2 HG3 hgg HO HG hv1 hv2 hv3;have HEA:=zh (zxa (zxr w5) (.cells (cP ⟨((last+z1:Nat):Int),(z2:Int),(z3:Int)⟩).toArray 110));have HSRC:=zh (src_rec (P:=Tryz.prog) (e':=110) Tryz.underlying36 w5 (cP ⟨((last+z1:Nat):Int),(z2:Int),(z3:Int)⟩) rfl (by intro u hu;simp[cP]at hu;rcases hu with rfl | rfl | rfl<;>rfl) 1)
    have HO8:=zh (HO5.out.ext HEA.out);have HSZ8:Hid (w.heap.size≤(w5.alloc (.cells (cP ⟨((last+z1:Nat):Int),(z2:Int),(z3:Int)⟩).toArray 110)).heap.size):=zh (by rw[zw22];have:=HG5.out.size;omega);have HDL:Hid (ds.length≤100000000):=zh (by omega);have hcast:(last:Int)+(z1:Int)=((last+z1:Nat):Int):=by omega
    replace hcast:=zh hcast;rw[hcast.out];obtain⟨tk,htk⟩:∃q,q=last+z1:=⟨_,rfl⟩;rw[←htk]at HEA HSRC HO8 HSZ8 HST ⊢;replace htk:=zh htk;go_wp2_with (at_builtin;refine wpList_rec rfl (.tmp 27) (.tmp 35) 36 110 3 16 _ cP rfl Tryz.underlying36 infoP rfl (by decide) vi _ ds ⟨(tk:Int),(z2:Int),(z3:Int)⟩ rfl rfl HO8.out HSZ8.out HSRC.out HDL.out ?_;intro v9 w9 hown9 hgr9;have HO9:=zh hown9;have HG9:=zh hgr9;clear hown9 hgr9)
    go_roundg gh
    case measure=>omega
    case rel=>
     have hob:∀k,vi.ownBlock=some k→w.heap.size≤k:=fun k e=>(zw23 HO8.out k e).1;have hkeep:∀k,k<w.heap.size→w9.heap[k]? =(w5.alloc (.cells (cP ⟨(tk:Int),(z2:Int),(z3:Int)⟩).toArray 110)).heap[k]? :=fun k hk=>
      HG9.out.block k (zw9 hk HSZ8.out) (fun e=>by have:=hob k e.symm;omega)
     have hG8:=gb_trans HG5.out (gb_ext HEA.out (some g));have hS9:RSt w9 g A m c xs (nx pI (nx pI (nx pI (some L)))):=(HS3.out.ext HEA.out).keep HR0.out hkeep HG9.out.size;refine⟨ds++[⟨(tk:Int),(z2:Int),(z3:Int)⟩],tk,_,HO9.out,rfl,rfl,by omega,hS9,?_,?_,?_,?_,?_⟩
     ·exact⟨HG9.out.os.trans hG8.os,HG9.out.tape.trans hG8.tape,HG9.out.output.trans hG8.output,zw10 hG8.size HG9.out.size,fun k hk hne=>(hkeep k hk).trans (hG8.block k hk hne)⟩
     ·intro hn;rw[HOL.out,HST.out.1 hn]
     ·intro L3 hL3
      refine⟨by rw[HOL.out,HST.out.2 L3 hL3],?_⟩;have:=HLN.out L3 hL3;rw[zw0,zw27];omega
     ·rw[zw0,zw27];omega
     ·have:=htk.out
      have:=HLL.out;rw[zw0,zw27,Nat.add_mul];omega
open Log (pN pI pF pB pT nx va RSt pN_put pI_put pT_put pN_ok pI_ok pT_ok)
def pMs:Nat→Nat→List Nat→Option (List Mk × List Nat)
 | 0,_,L=>some ([],L)
 | k+1,last,L=>match pI L with
  | none=>none
  | some (d,L1)=>match pT 40 L1 with
   | none=>none
   | some (ys,L2)=>match pMs k (last+d) L2 with
    | none=>none
    | some (ms,R)=>some (⟨((last+d:Nat):Int),strOf ys⟩::ms,R)
def pMk (L:List Nat):Option (List Mk × List Nat):=match pN L with
 | none=>none
 | some (k,L1)=>pMs k 0 L1
def restM (ds:List Mk) (k last:Nat) (L:List Nat):Option (List Mk × List Nat):=(pMs k last L).map (fun q=>(ds++q.1,q.2))
theorem restM_zero (ds:List Mk) (last:Nat) (L:List Nat):restM ds 0 last L=some (ds,L):=by simp[restM,pMs]
theorem restM_step (ds:List Mk) (k last:Nat) (L:List Nat):(nx (pT 40) (nx pI (some L))=none→restM ds (k+1) last L=none)∧
  ∀L3,nx (pT 40) (nx pI (some L))=some L3→restM ds (k+1) last L=restM (ds++[⟨((last+va pI 0 (some L):Nat):Int),strOf (va (pT 40) [] (nx pI (some L)))⟩]) k (last+va pI 0 (some L)) L3:=by
 cases h1:pI L with
 | none=>simp[nx,h1,restM,pMs]
 | some p1=>
  obtain⟨d,L1⟩:=p1
  cases h2:pT 40 L1 with
  | none=>simp[nx,h1,h2,restM,pMs]
  | some p2=>
   obtain⟨x,L2⟩:=p2;refine⟨fun h=>by simp[nx,h1,h2]at h,fun L3' h=>?_⟩;have e:L2=L3':=by simpa [nx,h1,h2]using h
   subst e;have e1:va pI 0 (some L)=d:=by simp[va,h1]
   have e2:va (pT 40) [] (nx pI (some L))=x:=by simp[va,nx,h1,h2]
   rw[e1,e2];unfold restM;rw[pMs,h1];simp only[h2]
   cases pMs k (last+d) L2 with
   | none=>rfl
   | some q=>obtain⟨ps,R⟩:=q;simp
def pTk (L:List Nat):Option (Tk × List Nat):=(pCm L).bind fun p0=>(pCm p0.2).bind fun p1=>(pCm p1.2).bind fun p2=>(pCm p2.2).bind fun p3=>(pMk p3.2).bind fun q=>some (⟨p0.1,p1.1,p2.1,p3.1,q.1⟩,q.2)
def takeT (n:Int) (L:List Nat):Option Tk:=
 if 0≤n∧n≤4096 then match pTk L with
  | some (x,[])=>if mayT n x=true then some x else none
  | _=>none
 else none
theorem pTk_eq (L:List Nat) (d0 d1 d2 d3:List Pt) (h0:∀ps R,(some L).bind pCm=some (ps,R)→d0=ps) (h1:∀ps R,(nx pCm (some L)).bind pCm=some (ps,R)→d1=ps)
  (h2:∀ps R,(nx pCm (nx pCm (some L))).bind pCm=some (ps,R)→d2=ps) (h3:∀ps R,(nx pCm (nx pCm (nx pCm (some L)))).bind pCm=some (ps,R)→d3=ps):
  pTk L=((nx pCm (nx pCm (nx pCm (nx pCm (some L))))).bind pMk).bind fun q=>some (⟨d0,d1,d2,d3,q.1⟩,q.2):=by
 unfold pTk
 cases e0:pCm L with
 | none=>simp[nx,e0]
 | some p0=>
  obtain⟨a0,L0⟩:=p0;obtain rfl:=h0 a0 L0 (by simp[e0])
  cases e1:pCm L0 with
  | none=>simp[nx,e0,e1]
  | some p1=>
   obtain⟨a1,L1⟩:=p1;obtain rfl:=h1 a1 L1 (by simp[nx,e0,e1])
   cases e2:pCm L1 with
   | none=>simp[nx,e0,e1,e2]
   | some p2=>
    obtain⟨a2,L2⟩:=p2;obtain rfl:=h2 a2 L2 (by simp[nx,e0,e1,e2])
    cases e3:pCm L2 with
    | none=>simp[nx,e0,e1,e2,e3]
    | some p3=>
     obtain⟨a3,L3⟩:=p3;obtain rfl:=h3 a3 L3 (by simp[nx,e0,e1,e2,e3]);simp[nx,e0,e1,e2,e3]
theorem pPs_put (n:Int) (hn:n≤4096):∀(ps:List Pt) (last:Nat) (lm:Int) (ys:List Nat),(last:Int)≤lm+1→mayC n lm ps=true→pPs ps.length last (encP last ps++ys)=some (ps,ys):=by
 intro ps
 induction ps with
 | nil=>intro _ _ _ _ _;rfl
 | cons p ps ih=>
  intro last lm ys hl hm;rw[mayC,zw48,zw49]at hm;obtain⟨⟨h1,h2,h3,h4,h5,h6⟩,h7⟩:=hm;obtain⟨t,x,y⟩:=p;simp only at h1 h2 h3 h4 h5 h6 h7;obtain⟨d,rfl⟩:∃d:Nat,t=((last+d:Nat):Int):=⟨(t-last).toNat,by omega⟩;obtain⟨X,rfl⟩:∃d:Nat,x=(d:Int):=⟨x.toNat,by omega⟩;obtain⟨Y,rfl⟩:∃d:Nat,y=(d:Int):=⟨y.toNat,by omega⟩;rw[zw3,encP];simp only[zw35,show(((last+d:Nat):Int)-(last:Int)).toNat=d by omega,zw7];rw[pPs,pI_put (by omega)];simp only;rw[pI_put (by omega)];simp only;rw[pI_put (by omega)];simp only;rw[ih (last+d) ((last+d:Nat):Int) ys (by omega) h7]
theorem pCm_put (n:Int) (hn:n≤4096) {ps:List Pt} (h:mayCam n ps=true) (ys:List Nat):pCm (encC ps++ys)=some (ps,ys):=by
 have hl:=mayCam_len h;have hc:=mayCam_c h;rw[zw28]at hc;unfold encC pCm;rw[zw7,pN_put (by omega)];exact pPs_put n hn ps 0 (-1) ys (by omega) hc
theorem pMs_put (n:Int) (hn:n≤4096):∀(ms:List Mk) (last:Nat) (ys:List Nat),mayM n last ms=true→pMs ms.length last (encMs last ms++ys)=some (ms,ys):=by
 intro ms
 induction ms with
 | nil=>intro _ _ _;rfl
 | cons p ms ih=>
  intro last ys hm;rw[mayM,zw48,zw49,zw48,zw49]at hm;obtain⟨h1,⟨h2,h3,h4⟩,h7⟩:=hm;obtain⟨t,s⟩:=p;simp only at h1 h2 h3 h4 h7;obtain⟨d,rfl⟩:∃d:Nat,t=((last+d:Nat):Int):=⟨(t-last).toNat,by omega⟩;rw[zw3,encMs];simp only[show(((last+d:Nat):Int)-(last:Int)).toNat=d by omega,zw7];rw[pMs,pI_put (by omega)];simp only;have hp:=pT_put (most:=40) (xs:=natsOf s) (by rw[natsOf_len];exact h4) (by omega) (encMs ((last+d:Nat):Int) ms++ys);rw[natsOf_len]at hp;rw[hp];simp only;rw[ih (last+d) ys h7];simp only[strOf_nats]
theorem pMk_put (n:Int) (hn:n≤4096) {ms:List Mk} (hl:ms.length≤32) (h:mayM n 0 ms=true) (ys:List Nat):pMk (encM ms++ys)=some (ms,ys):=by
 unfold encM pMk;rw[zw7,pN_put (by omega)];exact pMs_put n hn ms 0 ys h
theorem takeT_put {n:Int} {x:Tk} (h:mayT n x=true):takeT n (encT x)=some x:=by
 obtain⟨hn,hm,⟨a,b,c,d⟩,e⟩:=mayT_parts h;obtain⟨p0,p1,p2,p3,ms⟩:=x;simp only at hm a b c d e;have he:encT ⟨p0,p1,p2,p3,ms⟩=encC p0++(encC p1++(encC p2++(encC p3++(encM ms++[])))):=by simp[encT,Tk.cams]
 unfold takeT;rw[if_pos hn,he];unfold pTk;rw[pCm_put n hn.2 a,Option.bind_some,pCm_put n hn.2 b,Option.bind_some,pCm_put n hn.2 c,Option.bind_some,pCm_put n hn.2 d,Option.bind_some,pMk_put n hn.2 hm e,Option.bind_some];simp only;rw[if_pos h]
theorem encP_len (n:Int) (hn:n≤4096):∀(ps:List Pt) (last lm:Int),0≤last→last≤lm+1→mayC n lm ps=true→(encP last ps).length≤30*ps.length∧∀c∈encP last ps,c<256
 | [],_,_,_,_,_=>by simp[encP]
 | p::ps,last,lm,h0,h1,h=>by
  rw[mayC,zw48,zw49]at h;obtain⟨⟨a1,a2,a3,a4,a5,a6⟩,h2⟩:=h;have ih:=encP_len n hn ps p.tick p.tick (by omega) (by omega) h2;have b1:=vb_ten (n:=(p.tick-last).toNat) (by omega);have b2:=vb_ten (n:=p.x.toNat) (by omega);have b3:=vb_ten (n:=p.y.toNat) (by omega);refine⟨?_,fun c hc=>?_⟩
  ·rw[encP,zw0,zw0,zw0,zw3]
   omega
  ·rw[encP]at hc
   rcases zw16.1 hc with hc | hc
   ·rcases zw16.1 hc with hc | hc
    ·exact vb_mem _ c hc
    ·rcases zw16.1 hc with hc | hc
     ·exact vb_mem _ c hc
     ·exact vb_mem _ c hc
   ·exact ih.2 c hc
theorem encC_len {n:Int} (hn:n≤4096) {ps:List Pt} (h:mayCam n ps=true):(encC ps).length≤2000∧∀c∈encC ps,c<256:=by
 have hl:=mayCam_len h;have h1:=encP_len n hn ps 0 (-1) (by omega) (by omega) (by have:=mayCam_c h;simpa using this);have b1:=vb_ten (n:=ps.length) (by omega);refine⟨by rw[encC,zw0];omega,fun c hc=>?_⟩;rw[encC]at hc;rcases zw16.1 hc with hc | hc
 ·exact vb_mem _ c hc
 ·exact h1.2 c hc
theorem encMs_len (n:Int) (hn:n≤4096):∀(ms:List Mk) (last:Int),0≤last→mayM n last ms=true→(encMs last ms).length≤60*ms.length∧∀c∈encMs last ms,c<256
 | [],_,_,_=>by simp[encMs]
 | m::ms,last,h0,h=>by
  rw[mayM,zw48,zw48,zw49,zw49]at h;obtain⟨h1,⟨a1,a2,a3⟩,h2⟩:=h;have ih:=encMs_len n hn ms m.tick (by omega) h2;have b1:=vb_ten (n:=(m.tick-last).toNat) (by omega);have b2:=vb_ten (n:=m.name.size) (by omega);have b3:=natsOf_len m.name;refine⟨?_,fun c hc=>?_⟩
  ·rw[encMs,zw0,zw0,zw0,zw3]
   omega
  ·rw[encMs]at hc
   rcases zw16.1 hc with hc | hc
   ·rcases zw16.1 hc with hc | hc
    ·exact vb_mem _ c hc
    ·rcases zw16.1 hc with hc | hc
     ·exact vb_mem _ c hc
     ·exact mem_small (natsOf_small m.name) c hc
   ·exact ih.2 c hc
theorem encT_both {n:Int} {x:Tk} (h:mayT n x=true):(encT x).length≤100000∧∀c∈encT x,c<256:=by
 obtain⟨hn,hm,⟨a,b,c,d⟩,e⟩:=mayT_parts h;have h0:=encC_len hn.2 a;have h1:=encC_len hn.2 b;have h2:=encC_len hn.2 c;have h3:=encC_len hn.2 d;have h4:=encMs_len n hn.2 x.marks 0 (by omega) e;have h5:=vb_ten (n:=x.marks.length) (by omega);have he:encT x=encC x.c0++(encC x.c1++(encC x.c2++(encC x.c3++(vb x.marks.length++encMs 0 x.marks)))):=by simp[encT,Tk.cams,encM]
 rw[he];refine⟨by simp only[zw0];omega,fun q hq=>?_⟩;rcases zw16.1 hq with hq | hq
 ·exact h0.2 q hq
 rcases zw16.1 hq with hq | hq
 ·exact h1.2 q hq
 rcases zw16.1 hq with hq | hq
 ·exact h2.2 q hq
 rcases zw16.1 hq with hq | hq
 ·exact h3.2 q hq
 rcases zw16.1 hq with hq | hq
 ·exact vb_mem _ q hq
 ·exact h4.2 q hq
end Go.Proofs.YtidnboeihkeljaaGreatDoor.Trk
