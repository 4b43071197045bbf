
import Derived.Test.YtbopblbhjcemaaaGreatDoorF15
import Derived.Test.YtbopblbhjcemaaaGreatDoorF16
import Derived.Test.YtbopblbhjcemaaaGreatDoorF17
set_option maxHeartbeats 16000000
set_option maxRecDepth 100000
set_option linter.all false
namespace Go.Proofs.YtbopblbhjcemaaaGreatDoor.Fil
open Wire
def zqcalmU (o:Oper):Bool:=match o.op with
 | .load .. =>false
 | _=>zqcalm o
def zqnxU (md:Region.Mode) (L:List Bool):List Oper→List Bool→List Nat→Option (Nat × Oper)
 | o::os,b::bs,k::ks=>match b with
  | true=>zqnxU md L os bs ks
  | false=>match zqcalmU o with
   | false=>zqnxU md L os bs ks
   | true=>match zqbinL md L o.after.toList with
    | true=>some (k,o)
    | false=>zqnxU md L os bs ks
 | _,_,_=>none
theorem zqnxU_at {md:Region.Mode} {L:List Bool} {i:Nat} {o:Oper}:∀{os:List Oper} {bs:List Bool} {ks:List Nat},zqnxU md L os bs ks=some (i,o)→∃j:Nat,os[j]? =some o∧bs[j]? =some false∧ks[j]? =some i∧zqbinL md L o.after.toList=true
 | p::os,b::bs,k::ks,h=>by
  have up:zqnxU md L os bs ks=some (i,o)→∃j:Nat,(p::os)[j]? =some o∧(b::bs)[j]? =some false∧(k::ks)[j]? =some i∧zqbinL md L o.after.toList=true:=fun h=>by
   obtain⟨j,h1,h2,h3,h4⟩:=zqnxU_at h;exact⟨j+1,h1,h2,h3,h4⟩
  simp only[zqnxU]at h
  split at h
  ·exact up h
  ·split at h
   ·exact up h
   ·split at h
    ·rename_i hb
     cases h
     exact⟨0,rfl,rfl,rfl,hb⟩
    ·exact up h
theorem zqU {P:Program} {ops:Array Oper} {Q:Exit→Act→World→Prop} {md:Region.Mode} {S:World→Prop} {i:Nat} {oi:Oper} {v:Value} {fuel:Nat} {listed:Array Bool} {a:Act} {w:World} (hS:S w) (hn:zqnxU md listed.toList ops.toList listed.toList zqkL=some (i,oi)) (hy:∀w,S w→(execOp a.eval oi).run P w= .ok (.value v) w)
 (h:wpAnyH P md ops Q S fuel (listed.setIfInBounds i true) (a.put oi.dst v) w) (hs:Region.noSelect ops=true:=by kernel_rfl) (hf:Region.free md ops listed i=true:=by kernel_rfl)
 (hQ:∀c a w,Q (.panic c) (a.put oi.dst v) w→Q (.panic c) a w:=by exact fun _ _ _ h=>h) (hw:Region.wanted oi (yielded ops a.tmps)=true:=by rfl):wpAnyH P md ops Q S (fuel+1) listed a w:=by
 obtain⟨j,h1,h2,h3,h4⟩:=zqnxU_at hn;obtain rfl:=zqkL_at j i h3;have h1':ops[i]? =some oi:=by simpa using h1
 refine zw40 h1' hs hf ?_ hQ (.inl ⟨hw,hy⟩) hS h;have hm:i∈Region.ready md ops listed:=by
  unfold Region.ready;rw[List.mem_filter,List.mem_range];obtain⟨hi,_⟩:=Array.getElem?_eq_some_iff.1 h1';refine⟨hi,?_⟩;have h2':listed[i]? =some false:=by simpa using h2
  rw[h1'];simp only[Array.getD_eq_getD_getElem?,h2',Option.getD_some,Bool.not_false,zw50,Option.map_some];rw[Array.all_eq_true_iff_forall_mem];intro e he
  cases hb:Region.binds md e with
  | false=>rfl
  | true=>
   have:=zqbinL_all h4 e (by simpa using he) hb
   simpa [zw5]using this
 simpa using hm
def tk (k t:Nat) (was f:List Nat):List Nat:=if t%k=0 then Chk.chunk 5 f else Chk.chunk 6 (Delta.diff was f)
def frs (k:Nat):Nat→List Nat→List (List Nat)→List Nat
 | _,_,[]=>[]
 | t,was,f::l=>tk k t was f++frs k (t+1) f l
def pls (k:Nat):Nat→List Nat→Nat→List (List Nat)→List Nat
 | _,_,_,[]=>[]
 | t,was,at_,f::l=>at_::pls k (t+1) f (at_+(tk k t was f).length) l
def idx:Nat→List Nat→List Nat
 | _,[]=>[]
 | last,a::l=>vb (a-last)++idx a l
def foot (s l:List Nat):List Nat:=
 let t:=s++Chk.chunk 7 (idx 0 l)++fx s.length
 t++fx (Chk.crc t)
def lead (h lg tr:List Nat) (n k:Nat):List Nat:=[82,77,67,72]++Chk.chunk 1 h++Chk.chunk 2 (vb n++vb k)++Chk.chunk 3 lg++Chk.chunk 4 tr
def built (h lg tr:List Nat) (n k:Nat) (fs:List (List Nat)):List Nat:=
 foot (lead h lg tr n k++frs k 0 [] fs) (pls k 0 [] (lead h lg tr n k).length fs)
theorem pls_len (k:Nat):∀(l:List (List Nat)) (t:Nat) (was:List Nat) (a:Nat),(pls k t was a l).length=l.length
 | [],_,_,_=>rfl
 | f::l,t,was,a=>by simp only[pls,zw3,pls_len k l]
theorem frs_app (k:Nat):∀(l m:List (List Nat)) (t:Nat) (was:List Nat),frs k t was (l++m)=frs k t was l++frs k (t+l.length) (l.getLast?.getD was) m
 | [],m,t,was=>by simp[frs]
 | f::l,m,t,was=>by
  simp only[List.cons_append,frs,frs_app k l m,zw7,zw3]
  congr 2
  ·congr 1
   ·omega
   ·cases l<;>simp[List.getLast?_cons_cons,List.getLast?_eq_some_getLast]
open Go.ChangeShapes Go.WideShapes Go.ChangeAt Go.RowKit
open Rec
theorem hmxF:Tryz.prog.follows .mixedOrders=true:=by kernel_rfl
def cN (t:Nat):List Value:=[.int .i64 (t:Int)]
theorem cN_len (a:Nat):(cN a).length=1:=rfl
theorem infoN:(Tryz.prog.info? 3).map (fun i=>(i.zero,i.size,i.bytes))=some (some (.int .i64 0),1,8):=by kernel_rfl
def Apart (v p:Value):Prop:=∀k,v.ownBlock=some k→p.ownBlock≠some k
def Ob (base:Nat) (w:World) (v:Value) (zs:List Nat):Prop:=
  OwnB base w v zs∨∃g,v= .slice (some ⟨g,0,none⟩) zs.length zs.length∧Bs w (some ⟨g,0,none⟩) zs.length zs∧base≤g∧g<w.heap.size∧zs.length≤100000
theorem Ob.lt {base:Nat} {w:World} {v:Value} {zs:List Nat} (h:Ob base w v zs) (k:Nat) (e:v.ownBlock=some k):base≤k∧k<w.heap.size:=by
  rcases h with h | ⟨g,rfl,_,h2,h3,_⟩
  · exact zw23 h k e
  · have e':g=k:=by simpa [Value.ownBlock]using e
    omega
theorem Ob.kept {base:Nat} {w w':World} {row:Option Nat} {v:Value} {zs:List Nat} (h:Ob base w v zs) (hg:w.grownBy w' row) (hne:∀k,v.ownBlock=some k→some k≠row):Ob base w' v zs:=by
  rcases h with h | ⟨g,rfl,h1,h2,h3,h4⟩
  · refine .inl (zw24 h hg ?_)
    cases hv:v.ownBlock with
    | none=>exact .inl rfl
    | some q=>exact .inr (hne q hv)
  · refine .inr ⟨g,rfl,h1.kept hg (fun a ha=>?_),h2,zw9 h3 hg.size,h4⟩
    cases ha
    exact hne g (by simp[Value.ownBlock])
theorem Ob.ext {base:Nat} {w w':World} {v:Value} {zs:List Nat} (h:Ob base w v zs) (e:Ext w w'):Ob base w' v zs:=
  h.kept (row:=none) ⟨e.os,e.tape,e.output,e.size,fun k hk _=>e.block k hk⟩ (fun _ _=>by simp)
theorem Ob.shape {base:Nat} {w:World} {v:Value} {zs:List Nat} (h:Ob base w v zs):∃A c,v= .slice A zs.length c:=by
  rcases h with h | ⟨g,rfl,_⟩
  · obtain⟨A,c,e,_⟩:=h.shape
    exact⟨A,c,e⟩
  · exact⟨_,_,rfl⟩
theorem Ob.bs {base:Nat} {w:World} {A:Option Addr} {c n:Nat} {zs:List Nat} (h:Ob base w (.slice A n c) zs) (hz:∀j,zs.getD j 0<256):n=zs.length∧Bs w A n zs:=by
  rcases h with h | ⟨g,e,h1,_⟩
  · exact h.bs hz
  · obtain⟨rfl,rfl,rfl⟩:=Value.slice.inj e
    exact⟨rfl,h1⟩
def Bd (W w:World) (B:Nat) (v p:Value) (zs ps:List Nat):Prop:=
  Blk w B 76 #[v,p]∧Ob W.heap.size w v zs∧OwnR W.heap.size w 3 1 cN p ps∧Ext W w∧W.heap.size≤B∧Off v B∧Off p B∧Apart v p
def Bm (W w:World) (B:Nat) (v v' p:Value) (zs ps:List Nat):Prop:=
  Blk w B 76 #[v,p]∧OwnB W.heap.size w v' zs∧OwnR W.heap.size w 3 1 cN p ps∧Ext W w∧W.heap.size≤B∧Off v' B∧Off p B∧Apart v' p
def Bp (W w:World) (B:Nat) (v p p':Value) (zs ps:List Nat):Prop:=
  Blk w B 76 #[v,p]∧Ob W.heap.size w v zs∧OwnR W.heap.size w 3 1 cN p' ps∧Ext W w∧W.heap.size≤B∧Off v B∧Off p' B∧Apart v p'
section
variable {W w w' : World} {B : Nat} {v p : Value} {zs ps : List Nat}
theorem Bd.ext (h:Bd W w B v p zs ps) (e:Ext w w'):Bd W w' B v p zs ps:=
  ⟨h.1.ext e,h.2.1.ext e,h.2.2.1.ext e,zxt h.2.2.2.1 e,h.2.2.2.2⟩
theorem Bd.two (h:Bd W w B v p zs ps):w.cell? ⟨B,0,none⟩=some v∧w.cell? ⟨B,1,none⟩=some p∧w.frozen? ⟨B,0,none⟩=false∧w.frozen? ⟨B,1,none⟩=false:=h.1.two
theorem Bd.app {tx : TypeId} {vx : Value} {ys : List Nat} (h : Bd W w B v p zs ps) (hsrc : Src Tryz.prog 1 tx vx ys.length (c8 ys) w) (hp : 0 < ys.length) (hb : zs.length + ys.length ≤ 100000000000) :
    ∃v' w',(Builtin.append_ #[22,tx] 22 #[v,vx]).run Tryz.prog w= .ok v' w'∧Bm W w' B v v' p (zs++ys) ps:=by
  obtain⟨h1,h2,h3,h4,h5,h6,h7,h8⟩:=h;obtain⟨i0,hi0,hz0,hz1,hz2⟩:=info_parts info8;have hm:zs.length+ys.length≤maxLen:=by unfold maxLen;omega
  have key:∃v' w',(Builtin.append_ #[22,tx] 22 #[v,vx]).run Tryz.prog w= .ok v' w'∧w'.ownsRow W.heap.size 5 1 v' (zs.length+ys.length) (c8 zs++c8 ys)∧Grew w w' v v':=by
    rcases h2 with h2 | ⟨g,rfl,g1,g2,g3,g4⟩
    · exact run_app_own2 (P:=Tryz.prog) 22 tx 22 5 i0 (.int .u8 0) 1 1 Tryz.underlying22 hi0 hz0 hz1 hz2 rfl W.heap.size v zs.length (c8 zs) h2 vx ys.length (c8 ys) hsrc hm (by omega) h4.size
    · obtain⟨v',w',r1,r2,r3,r4⟩:=run_app_grow (P:=Tryz.prog) 22 tx 22 5 i0 (.int .u8 0) 1 1 Tryz.underlying22 hi0 hz0 hz1 hz2 rfl (some ⟨g,0,none⟩) zs.length zs.length (c8 zs) (by rw[c8_len];omega) (g1.first zs.length) vx ys.length (c8 ys) hsrc (by omega) hm (by omega) W.heap.size h4.size
      exact⟨v',w',r1,r2,r4 _,.inr (own_ge r3)⟩
  obtain⟨v',w',r1,r2,r3⟩:=key;have ha:Apart v' p:=by
    intro k hk;rcases r3.2 with q | q
    · exact h8 k (by rw[←q];exact hk)
    · intro e
      have:=q k hk;have:=(zw23 h3 k e).2;omega
  have hp:OwnR W.heap.size w' 3 1 cN p ps:=by
    refine zw24 h3 r3.1 ?_
    cases hq:p.ownBlock with
    | none=>exact .inl rfl
    | some q=>exact .inr (fun e=>h8 q e.symm hq)
  refine⟨v',w',r1,r3.blk h6 h1,(by unfold OwnB;rw[zw0,c8_app];exact r2),hp,ext_grown h4 r3.1 (fun k e=>(h2.lt k e).1),h5,r3.off h6 h1.lt,h7,ha⟩
theorem Bm.store {v':Value} (h:Bm W w B v v' p zs ps):Bd W (w.setCell ⟨B,0,none⟩ v') B v' p zs ps:=by
  obtain⟨h1,h2,h3,h4,h5,h6,h7,h8⟩:=h;refine⟨h1.set_ 0 v',.inl ?_,?_,ext_set h4 h5 v',h5,h6,h7,h8⟩
  · exact zw24 h2 (gb_set w B 0 v') (.inr (fun e=>h6 e))
  · exact zw24 h3 (gb_set w B 0 v') (.inr (fun e=>h7 e))
theorem Bp.store {p':Value} (h:Bp W w B v p p' zs ps):Bd W (w.setCell ⟨B,1,none⟩ p') B v p' zs ps:=by
  obtain⟨h1,h2,h3,h4,h5,h6,h7,h8⟩:=h;refine⟨h1.set_ 1 p',h2.kept (gb_set w B 1 p') (fun k e q=>h6 (by rw[e,q])),?_,ext_set h4 h5 p',h5,h6,h7,h8⟩;exact zw24 h3 (gb_set w B 1 p') (.inr (fun e=>h7 e))
theorem Bd.place {vx : Value} {a : Nat} (h : Bd W w B v p zs ps) (hsrc : Src Tryz.prog 1 60 vx 1 (cN a) w) (hb : ps.length ≤ 100000000) :
    ∃p' w',(Builtin.append_ #[60,60] 60 #[p,vx]).run Tryz.prog w= .ok p' w'∧Bp W w' B v p p' zs (ps++[a]):=by
  obtain⟨h1,h2,h3,h4,h5,h6,h7,h8⟩:=h;obtain⟨i0,hi0,hq⟩:=Option.map_eq_some_iff.1 infoN;simp only[Prod.mk.injEq]at hq;obtain⟨hz0,hz1,hz2⟩:=hq;obtain⟨p',w',r1,r2,r3⟩:=run_app_own2 (P:=Tryz.prog) 60 60 60 3 i0 (.int .i64 0) 1 8 Tryz.underlying60 hi0 hz0 hz1 hz2 rfl W.heap.size p ps.length (ps.flatMap cN) h3 vx 1 (cN a) hsrc (by unfold maxLen;omega) (by omega) h4.size;have ha:Apart v p':=by
    intro k hk;rcases r3.2 with q | q
    · rw[q];exact h8 k hk
    · intro e
      have:=q k e;have:=(h2.lt k hk).2;omega
  have hv:Ob W.heap.size w' v zs:=h2.kept r3.1 (fun k e q=>h8 k e q.symm);have hE:Ext W w':=ext_grown h4 r3.1 (fun k e=>(zw23 h3 k e).1);refine⟨p',w',r1,r3.blk h7 h1,hv,?_,hE,h5,h6,r3.off h7 h1.lt,ha⟩;unfold OwnR;rw[zw0,List.flatMap_append,List.flatMap_cons,List.flatMap_nil,zw18];exact r2
end
theorem put_st (W w : World) (B : Nat) (v p : Value) (zs ps : List Nat) (kind : Nat) (A2 : Option Addr) (n2 c2 : Nat) (ys : List Nat) (hT : Crc.Tab W) (h : Bd W w B v p zs ps) (hk : kind < 256)
    (hB2:Bs w A2 n2 ys) (hn2:n2≤c2) (hc2:c2≤9223372036854775807) (hN2:n2≤900000) (hzl:zs.length≤100000000):
    Calls Tryz.prog 21 #[.pointer (some ⟨B,0,none⟩),.int .u8 (kind:Int),.slice A2 n2 c2] w fun e w'=>e= .returned (.tuple #[])∧∃v',Bd W w' B v' p (zs++Chk.chunk kind ys) ps:=by
  replace hT:=hT.ext h.2.2.2.1;have HPT:=zh (fun(w':World) (e:Ext w w')=>Chk.put none A2 0 0 n2 c2 kind [] ys w' (hT.ext e) hk (Bs.none _ _) (fun _=>⟨rfl,rfl⟩) (zw8 _) (by omega) (by omega) (hB2.ext e) hn2 hc2 hN2);have HCL:Hid ((Chk.chunk kind ys).length≤1000000):=zh (by
    have:=hB2.1;rw[Chk.chunk_len,Chk.head_len];have h2:=Chk.body_len ys;have h1:=vb_ten (n:=ys.length) (by omega);have h3:=vb_ten (n:=(Chk.body ys).length) (by omega);omega)
  have HCS:Hid (∀j,(Chk.chunk kind ys).getD j 0<256):=zh (small_mem (Chk.chunk_small hk hB2.2.1));have hcp:=Chk.chunk_pos kind ys;rw[zw17]at HPT;generalize Chk.chunk kind ys=cs at*;have HX:=zh h;have HCP:=zh hcp;clear h hB2 hT hcp;go_enter Tryz.func21,Tryz.ntmps21;go_wp2_with fail;replace HX:=zh (HX.out.ext (zxd (zxr w)));have HW:=zh (zxd (zxr w));refine zw38 (S:=fun _=>True) hmxF trivial (fun _=>?_);generalize w.drew=w1 at*
  iterate 6
   refine zqU (v:=?_) trivial rfl ?_ ?_;rotate_left
   · intro w' hSw;go_simp;try with_reducible rfl
   (try simp only[Act.put,zzA,zzB,zzC])
  refine zw41 (rs:=[4,7]) (by kernel_rfl) (by simp) ?_;refine zqC rfl (fun K hK=>?_) (zqC rfl (fun K hK=>?_) zw42)
  · obtain⟨b0,b1,b2,b3⟩:=HX.out.two
    go_simp;refine hK.out _ _ trivial fun _=>?_;clear hK K
    (try simp only[Act.put,zzA,zzB,zzC])
    refine zqO (i:=7) (by kernel_rfl) rfl fun K hK=>?_;go_simp;refine(HPT.out _ HW.out).mono ?_;rintro e w2 ⟨A3,c3,rfl,ho,hE⟩;replace HX:=zh (HX.out.ext hE);have HSR:=zh (own_src ho HCS.out);clear ho hE
    (try go_wp2_with fail)
    refine hK.out _ _ trivial fun _=>?_;clear hK K
    (try simp only[Act.put,zzA,zzB,zzC])
    refine zqO (i:=8) (by kernel_rfl) rfl fun K hK=>?_;obtain⟨v3,w3,hrun,hm3⟩:=HX.out.app HSR.out (by have:=HCP.out;omega) (by have:=HCL.out;omega);have HRUN:=zh hrun;have HM:=zh hm3;clear hrun hm3;refine wanted_append (by rfl) (.tmp 10) (.tmp 13) 22 22 (by rfl) _ _ (by rfl) (by rfl) HRUN.out ?_;refine hK.out _ _ trivial fun _=>?_;clear hK K
    (try simp only[Act.put,zzA,zzB,zzC])
    iterate 2
     refine zqU (v:=?_) trivial rfl ?_ ?_;rotate_left
     · intro w' hSw;go_simp;try with_reducible rfl
     (try simp only[Act.put,zzA,zzB,zzC])
    refine zqO (i:=11) (by kernel_rfl) rfl fun K hK=>?_;obtain⟨A5,c5,rfl,_⟩:=HM.out.2.1.shape;have HD:=zh HM.out.store;obtain⟨b0,b1,b2,b3⟩:=HM.out.1.two;go_simp;refine hK.out _ _ trivial fun _=>?_;clear hK K
    (try simp only[Act.put,zzA,zzB,zzC])
    refine zw39 (by kernel_rfl) ?_ _;go_wp2_with fail
    go_end0
    have h:=HD.out;rw[zw0]at h;exact⟨rfl,_,h⟩
  · go_simp
    refine(HPT.out _ HW.out).mono ?_;rintro e w2 ⟨A3,c3,rfl,ho,hE⟩;replace HX:=zh (HX.out.ext hE);have HSR:=zh (own_src ho HCS.out);clear ho hE
    (try go_wp2_with fail)
    refine hK.out _ _ trivial fun _=>?_;clear hK K
    (try simp only[Act.put,zzA,zzB,zzC])
    refine zqO (i:=4) (by kernel_rfl) rfl fun K hK=>?_;obtain⟨b0,b1,b2,b3⟩:=HX.out.two;go_simp;refine hK.out _ _ trivial fun _=>?_;clear hK K
    (try simp only[Act.put,zzA,zzB,zzC])
    refine zqO (i:=8) (by kernel_rfl) rfl fun K hK=>?_;obtain⟨v3,w3,hrun,hm3⟩:=HX.out.app HSR.out (by have:=HCP.out;omega) (by have:=HCL.out;omega);have HRUN:=zh hrun;have HM:=zh hm3;clear hrun hm3;refine wanted_append (by rfl) (.tmp 10) (.tmp 13) 22 22 (by rfl) _ _ (by rfl) (by rfl) HRUN.out ?_;refine hK.out _ _ trivial fun _=>?_;clear hK K
    (try simp only[Act.put,zzA,zzB,zzC])
    iterate 2
     refine zqU (v:=?_) trivial rfl ?_ ?_;rotate_left
     · intro w' hSw;go_simp;try with_reducible rfl
     (try simp only[Act.put,zzA,zzB,zzC])
    refine zqO (i:=11) (by kernel_rfl) rfl fun K hK=>?_;obtain⟨A5,c5,rfl,_⟩:=HM.out.2.1.shape;have HD:=zh HM.out.store;obtain⟨b0,b1,b2,b3⟩:=HM.out.1.two;go_simp;refine hK.out _ _ trivial fun _=>?_;clear hK K
    (try simp only[Act.put,zzA,zzB,zzC])
    refine zw39 (by kernel_rfl) ?_ _;go_wp2_with fail
    go_end0
    have h:=HD.out;rw[zw0]at h;exact⟨rfl,_,h⟩
theorem kind_st (t k:Nat) (hk:0<k) (ht:t≤1000000) (hk2:k≤1000000) (w:World):Calls Tryz.prog 68 #[.int .i64 (t:Int),.int .i64 (k:Int)] w fun e w'=>e= .returned (.int .u8 ((if t%k=0 then 5 else 6:Nat):Int))∧w=w':=by
  have hk0:¬(k:Int)=0:=by omega
  have h1:(t:Int).tmod (k:Int)=((t%k:Nat):Int):=rfl;have h2:(t:Int)%(k:Int)=((t%k:Nat):Int):=rfl;by_cases h:t%k=0
  · rw[if_pos h]
    rw[h]at h1 h2;go_enter Tryz.func68,Tryz.ntmps68;go_wp2_with fail;go_ret;exact⟨rfl,rfl⟩
  · rw[if_neg h]
    generalize t%k=m at*;have h3:¬(m:Int)=0:=by omega
    have h4:((m:Int)==0)=false:=zw12.2 h3;go_enter Tryz.func68,Tryz.ntmps68;go_wp2_with fail;go_ret;exact⟨rfl,rfl⟩
def prv (fs:List (List Nat)) (i:Nat):List Nat:=(fs.take i).getLast?.getD []
theorem prv_succ (fs:List (List Nat)) (i:Nat) (h:i<fs.length):prv fs (i+1)=fs.getD i []:=by
 unfold prv;rw[List.take_succ_eq_append_getElem h,List.getLast?_append];simp[zw5,zw6 h]
def bg (k a:Nat) (fs:List (List Nat)) (i:Nat):Nat:=a+(frs k 0 [] (fs.take i)).length
theorem pls_get (k:Nat):∀(l:List (List Nat)) (t:Nat) (was:List Nat) (a i:Nat),i<l.length→(pls k t was a l)[i]? =some (a+(frs k t was (l.take i)).length)
 | [],_,_,_,i,h=>by simp at h
 | f::l,t,was,a,0,_=>by simp[pls,frs]
 | f::l,t,was,a,i+1,h=>by
  rw[pls,List.getElem?_cons_succ,pls_get k l _ _ _ i (by simpa using h),List.take_succ_cons,frs,zw0]
  congr 1;omega
theorem frs_cut (k:Nat) (fs:List (List Nat)) (i:Nat) (h:i<fs.length):frs k 0 [] fs=frs k 0 [] (fs.take i)++(tk k i (prv fs i) (fs.getD i [])++frs k (i+1) (fs.getD i []) (fs.drop (i+1))):=by
 have e:fs=fs.take i++(fs.getD i []::fs.drop (i+1)):=by
  rw[zw5,zw6 h];simp
 have hl:(fs.take i).length=i:=by rw[zw2];omega
 conv=>lhs;rw[e]
 rw[frs_app,frs,hl,Nat.zero_add];rfl
theorem bg_step (k a:Nat) (fs:List (List Nat)) (i:Nat) (h:i<fs.length):bg k a fs (i+1)=bg k a fs i+(tk k i (prv fs i) (fs.getD i [])).length:=by
 unfold bg;have e:fs.take (i+1)=fs.take i++[fs.getD i []]:=by
  rw[List.take_succ_eq_append_getElem h,zw5,zw6 h];rfl
 have hl:(fs.take i).length=i:=by rw[zw2];omega
 rw[e,frs_app,zw0,hl,frs,frs,zw18,Nat.zero_add];unfold prv;omega
theorem bg_zero (k a:Nat) (fs:List (List Nat)):bg k a fs 0=a:=by simp[bg,frs]
theorem bg_last (k a:Nat) (fs:List (List Nat)):bg k a fs fs.length=a+(frs k 0 [] fs).length:=by simp[bg]
def kd (k t:Nat):Nat:=if t%k=0 then 5 else 6
def dt (k t:Nat) (was f:List Nat):List Nat:=if t%k=0 then f else Delta.diff was f
theorem tk_eq (k t:Nat) (was f:List Nat):tk k t was f=Chk.chunk (kd k t) (dt k t was f):=by
 unfold tk kd dt;split<;>rfl
structure Rds (xs h lg tr:List Nat) (n k:Nat) (fs:List (List Nat)) (b3 b4 iA:Nat):Prop where
 low:12≤xs.length
 high:xs.length≤900000
 small:∀j,xs.getD j 0<256
 sum:xs.drop (xs.length-4)=fx (Chk.crc (xs.take (xs.length-4)))
 magic:xs.take 4=[82,77,67,72]
 span:∃b1 b2:Nat,Chk.takeAt xs 4 2097152= .ok 1 h b1∧Chk.takeAt xs b1 2097152= .ok 2 (vb n++vb k) b2∧Chk.takeAt xs b2 2097152= .ok 3 lg b3
 track:Chk.takeAt xs b3 2097152= .ok 4 tr b4
 tick:∀i,i<fs.length→∃hw sz bd,Chk.readAt xs (bg k b4 fs i:Nat)= .ok (kd k i) hw sz bd (bg k b4 fs (i+1))
 data:∀i (most:Int),i<fs.length→((dt k i (prv fs i) (fs.getD i [])).length:Int)≤most→Chk.takeAt xs (bg k b4 fs i:Nat) most= .ok (kd k i) (dt k i (prv fs i) (fs.getD i [])) (bg k b4 fs (i+1))
 last:bg k b4 fs fs.length=iA
 index:Chk.takeAt xs iA 2097152= .ok 7 (idx 0 (pls k 0 [] b4 fs)) (xs.length-8)
 foot:(xs.drop (xs.length-8)).take 4=fx iA
 order:4≤b3∧b3≤b4∧b4≤iA∧iA≤xs.length-8
theorem fx_len (n:Nat):(fx n).length=4:=rfl
theorem idx_small:∀(l:List Nat) (last:Nat),∀c∈idx last l,c<256
 | [],_,c,h=>by cases h
 | a::l,last,c,h=>by
  rw[idx]at h;rcases zw16.1 h with h | h
  ·exact vb_mem _ c h
  ·exact idx_small l a c h
theorem diff_mem {xs ys:List Nat} (hx:∀c∈xs,c<256) (hy:∀c∈ys,c<256):∀c∈Delta.diff xs ys,c<256:=mem_small (Delta.diff_small (small_mem hx) (small_mem hy))
theorem chunk_max (kind:Nat) {xs:List Nat} (h:xs.length≤1000000):(Chk.chunk kind xs).length≤xs.length+26:=by
 rw[Chk.chunk_len,Chk.head_len];have h2:=Chk.body_len xs;have h1:=vb_ten (n:=xs.length) (by omega);have h3:=vb_ten (n:=(Chk.body xs).length) (by omega);omega
theorem dt_len (k t:Nat) (was f:List Nat) (h:f.length≤3000):(dt k t was f).length≤f.length+2*(f.length/5)+12:=by
 unfold dt;split
 ·omega
 ·exact Delta.diff_len was f h
theorem frs_len (k:Nat):∀(l:List (List Nat)) (t:Nat) (was:List Nat),(∀f∈l,f.length≤500)→(frs k t was l).length≤l.length*750
 | [],_,_,_=>by simp[frs]
 | f::l,t,was,h=>by
  rw[frs,zw0,zw3];have h1:=frs_len k l (t+1) f (fun g hg=>h g (List.mem_cons_of_mem _ hg));have h0:=h f List.mem_cons_self;have h2:=dt_len k t was f (by omega);have h3:=chunk_max (kd k t) (xs:=dt k t was f) (by omega);rw[tk_eq];omega
theorem idx_len:∀(l:List Nat) (last:Nat),(∀a∈l,a<18446744073709551616)→(idx last l).length≤l.length*10
 | [],_,_=>by simp[idx]
 | a::l,last,h=>by
  rw[idx,zw0,zw3];have h1:=idx_len l a (fun b hb=>h b (List.mem_cons_of_mem _ hb));have h2:=vb_ten (n:=a-last) (by have:=h a List.mem_cons_self;omega);omega
theorem tk_small (k t:Nat) {was f:List Nat} (hw:∀c∈was,c<256) (hf:∀c∈f,c<256):∀c∈tk k t was f,c<256:=by
 rw[tk_eq];refine Chk.chunk_small (by unfold kd;split<;>omega) (small_mem ?_)
 unfold dt;split
 ·exact hf
 ·exact diff_mem hw hf
theorem frs_small (k:Nat):∀(l:List (List Nat)) (t:Nat) (was:List Nat),(∀c∈was,c<256)→(∀f∈l,∀c∈f,c<256)→∀c∈frs k t was l,c<256
 | [],_,_,_,_,c,h=>by cases h
 | f::l,t,was,hw,hl,c,h=>by
  rw[frs]at h;rcases zw16.1 h with h | h
  ·exact tk_small k t hw (hl f List.mem_cons_self) c h
  ·exact frs_small k l (t+1) f (hl f List.mem_cons_self) (fun g hg=>hl g (List.mem_cons_of_mem _ hg)) c h
theorem prv_small {fs:List (List Nat)} (hf:∀f∈fs,∀c∈f,c<256) (i:Nat):∀c∈prv fs i,c<256:=by
 unfold prv
 cases h:(fs.take i).getLast? with
 | none=>intro c hc;cases hc
 | some f=>
  exact hf f (List.mem_of_mem_take (List.mem_of_getLast? h))
theorem get_mem {fs:List (List Nat)} {i:Nat} (h:i<fs.length):fs.getD i []∈fs:=by
 rw[zw5,zw6 h];exact zw25 h
theorem rds_built (h lg tr:List Nat) (n k:Nat) (fs:List (List Nat)) (hh:∀c∈h,c<256) (hlg:∀c∈lg,c<256) (htr:∀c∈tr,c<256) (hf:∀f∈fs,∀c∈f,c<256)
  (sh:h.length≤100000) (sl:lg.length≤100000) (st:tr.length≤100000) (sf:∀f∈fs,f.length≤500) (nf:fs.length≤41) (hn:n≤4096) (hk:k≤256):
  Rds (built h lg tr n k fs) h lg tr n k fs (4+(Chk.chunk 1 h).length+(Chk.chunk 2 (vb n++vb k)).length+(Chk.chunk 3 lg).length) (lead h lg tr n k).length ((lead h lg tr n k).length+(frs k 0 [] fs).length):=by
 have c1:=chunk_max 1 (xs:=h) (by omega);have c3:=chunk_max 3 (xs:=lg) (by omega);have c4:=chunk_max 4 (xs:=tr) (by omega);have v1:=vb_ten (n:=n) (by omega);have v2:=vb_ten (n:=k) (by omega);have c2:=chunk_max 2 (xs:=vb n++vb k) (by rw[zw0];omega);rw[zw0]at c2;have cf:=frs_len k fs 0 [] sf;have ll:(lead h lg tr n k).length=4+(Chk.chunk 1 h).length+(Chk.chunk 2 (vb n++vb k)).length+(Chk.chunk 3 lg).length+(Chk.chunk 4 tr).length:=by
  simp only[lead,zw0,zw3,zw26]
 have hpl:∀a∈pls k 0 [] (lead h lg tr n k).length fs,a<18446744073709551616:=by
  intro a ha;obtain⟨i,hi,rfl⟩:=List.getElem_of_mem ha;have hi':=hi;rw[pls_len]at hi';have e:=pls_get k fs 0 [] (lead h lg tr n k).length i hi';rw[zw6 hi]at e;rw[zw13 e];have h1:=frs_len k (fs.take i) 0 [] (fun f hf=>sf f (List.mem_of_mem_take hf));have h2:(fs.take i).length≤fs.length:=by rw[zw2];omega
  omega
 have ci:=idx_len _ 0 hpl;rw[pls_len]at ci;have c7:=chunk_max 7 (xs:=idx 0 (pls k 0 [] (lead h lg tr n k).length fs)) (by omega);have hix:=idx_small (pls k 0 [] (lead h lg tr n k).length fs) 0;have hlead:∀c∈lead h lg tr n k,c<256:=by
  intro c hc;simp only[lead,zw16]at hc;rcases hc with (((hc | hc) | hc) | hc) | hc
  ·simp at hc;omega
  ·exact Chk.chunk_small (by omega) (small_mem hh) c hc
  ·exact Chk.chunk_small (by omega) (small_app (vb_byte n) (vb_byte k)) c hc
  ·exact Chk.chunk_small (by omega) (small_mem hlg) c hc
  ·exact Chk.chunk_small (by omega) (small_mem htr) c hc
 have hfrs:=frs_small k fs 0 [] (fun c h=>by cases h) hf;generalize hP:pls k 0 [] (lead h lg tr n k).length fs=P at*;generalize hI:idx 0 P=I at*;generalize hS:lead h lg tr n k++frs k 0 [] fs=S at*;have hSl:S.length=(lead h lg tr n k).length+(frs k 0 [] fs).length:=by rw[←hS,zw0]
 have hSs:∀c∈S,c<256:=by
  intro c hc;rw[←hS]at hc;rcases zw16.1 hc with hc | hc
  ·exact hlead c hc
  ·exact hfrs c hc
 generalize hT:S++Chk.chunk 7 I++fx S.length=T;have hB:built h lg tr n k fs=T++fx (Chk.crc T):=by
  unfold built foot;simp only[hP,hS,hI,hT]
 have hTl:T.length=S.length+(Chk.chunk 7 I).length+4:=by rw[←hT];simp[fx_len];omega
 have hBl:(built h lg tr n k fs).length=T.length+4:=by rw[hB,zw0,fx_len]
 have c7p:=Chk.chunk_pos 7 I;have hTs:∀c∈T,c<256:=by
  intro c hc;rw[←hT]at hc;rcases zw16.1 hc with hc | hc
  ·rcases zw16.1 hc with hc | hc
   ·exact hSs c hc
   ·exact Chk.chunk_small (by omega) (small_mem hix) c hc
  ·exact fx_mem (by omega) c hc
 have hB2:built h lg tr n k fs=S++(Chk.chunk 7 I++(fx S.length++fx (Chk.crc T))):=by rw[hB,←hT];simp
 generalize hR:Chk.chunk 7 I++(fx S.length++fx (Chk.crc T))=R at*;have hB3:built h lg tr n k fs=[82,77,67,72]++(Chk.chunk 1 h++(Chk.chunk 2 (vb n++vb k)++(Chk.chunk 3 lg++(Chk.chunk 4 tr++(frs k 0 [] fs++R))))):=by
  rw[hB2,←hS];simp[lead]
 have hcut:∀i,i<fs.length→∃ps ys,built h lg tr n k fs=ps++(Chk.chunk (kd k i) (dt k i (prv fs i) (fs.getD i []))++ys)∧ps.length=bg k (lead h lg tr n k).length fs i:=by
  intro i hi;refine⟨lead h lg tr n k++frs k 0 [] (fs.take i),frs k (i+1) (fs.getD i []) (fs.drop (i+1))++R,?_,?_⟩
  ·rw[hB2,←hS,frs_cut k fs i hi,tk_eq];simp
  ·rw[zw0];rfl
 have hdt:∀i,i<fs.length→(dt k i (prv fs i) (fs.getD i [])).length≤2147483647:=fun i hi=>by
  have:=sf _ (get_mem hi);have:=dt_len k i (prv fs i) (fs.getD i []) (by omega);omega
 have hdm:∀i,i<fs.length→∀j,(dt k i (prv fs i) (fs.getD i [])).getD j 0<256:=fun i hi=>by
  refine small_mem ?_;unfold dt;split
  ·exact hf _ (get_mem hi)
  ·exact diff_mem (prv_small hf i) (hf _ (get_mem hi))
 refine⟨by omega,by omega,small_mem (fun c hc=>?_),?_,by rw[hB3];rfl,⟨4+(Chk.chunk 1 h).length,4+(Chk.chunk 1 h).length+(Chk.chunk 2 (vb n++vb k)).length,?_,?_,?_⟩,?_,?_,?_,bg_last _ _ _,?_,?_,by omega⟩
 ·rw[hB]at hc
  rcases zw16.1 hc with hc | hc
  ·exact hTs c hc
  ·exact fx_mem (Chk.crc_lt T) c hc
 ·have e:(built h lg tr n k fs).length-4=T.length:=by omega
  rw[e,hB,List.drop_left,List.take_left]
 ·rw[hB3]
  exact Chk.take_chunk (small_mem hh) [82,77,67,72] _ (by omega) _ (by omega)
 ·rw[hB3,←zw7]
  have:=Chk.take_chunk (kind:=2) (small_app (vb_byte n) (vb_byte k)) ([82,77,67,72]++Chk.chunk 1 h) (Chk.chunk 3 lg++(Chk.chunk 4 tr++(frs k 0 [] fs++R))) (by rw[zw0];omega) 2097152 (by rw[zw0];omega);rw[zw0]at this;exact this
 ·rw[hB3,←zw7,←zw7]
  have:=Chk.take_chunk (kind:=3) (small_mem hlg) ([82,77,67,72]++Chk.chunk 1 h++Chk.chunk 2 (vb n++vb k)) (Chk.chunk 4 tr++(frs k 0 [] fs++R)) (by omega) 2097152 (by omega);rw[zw0,zw0]at this;exact this
 ·rw[hB3,←zw7,←zw7,←zw7]
  have:=Chk.take_chunk (kind:=4) (small_mem htr) ([82,77,67,72]++Chk.chunk 1 h++Chk.chunk 2 (vb n++vb k)++Chk.chunk 3 lg) (frs k 0 [] fs++R) (by omega) 2097152 (by omega);rw[zw0,zw0,zw0]at this;rw[ll];exact this
 ·intro i hi
  obtain⟨ps,ys,e1,e2⟩:=hcut i hi;rw[bg_step k _ fs i hi,tk_eq,←e2,e1,Chk.readAt_app,Chk.read_chunk _ _ _ (hdt i hi)];exact⟨_,_,_,rfl⟩
 ·intro i most hi hm
  obtain⟨ps,ys,e1,e2⟩:=hcut i hi;rw[bg_step k _ fs i hi,tk_eq,←e2,e1];exact Chk.take_chunk (hdm i hi) ps ys (hdt i hi) most hm
 ·rw[hP,hI]
  have:=Chk.take_chunk (kind:=7) (small_mem hix) S (fx S.length++fx (Chk.crc T)) (by omega) 2097152 (by omega);have e:(built h lg tr n k fs).length-8=S.length+(Chk.chunk 7 I).length:=by omega
  rw[e,←hSl,hB2,←hR,this]
 ·have e:(built h lg tr n k fs).length-8=(S++Chk.chunk 7 I).length:=by rw[zw0];omega
  rw[e,hB2,←hR,←zw7,List.drop_left,←hSl];exact Chk.take_app rfl
end Go.Proofs.YtbopblbhjcemaaaGreatDoor.Fil
