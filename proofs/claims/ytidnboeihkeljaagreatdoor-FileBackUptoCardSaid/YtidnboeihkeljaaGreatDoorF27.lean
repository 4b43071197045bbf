
import Derived.Test.YtidnboeihkeljaaGreatDoorTrkG
set_option maxHeartbeats 16000000
set_option maxRecDepth 100000
set_option linter.all false
open Go.ChangeShapes Go.WideShapes Go.ChangeAt Go.RowKit
namespace Go.Proofs.YtidnboeihkeljaaGreatDoor.Trk
open Rec
section
variable {α : Type}
theorem wpList_recs {P:Program} {w:World} {base:Nat} {ops:Array Oper} {rest:List Oper} {o:Oper} {a:Act} {Q:Exit→Act→World→Prop} (hgd:o.guard=none) (s x:Operand) (t e:TypeId) (k bytes:Nat) (z:Value) (f:α→List Value) (ho:o.op= .call {callee:= .builtin .append,args:= #[s,x],argTypes:= #[t,t]})
  (ht:P.underlying t=some (.slice e)) (hi:(P.info? e).map (fun i=>(i.zero,i.size,i.bytes))=some (some z,k,bytes)) (hzs:z.cells.size=k) (hby:bytes≤1000) (v vx:Value) (xs ys:List α) (hs:a.eval s=v) (hx:a.eval x=vx) (hO:OwnR base w e k f v xs) (hbase:base≤w.heap.size)
  (hsrc:Src P k t vx ys.length (ys.flatMap f) w) (hb:xs.length+ys.length≤100000000) (h:∀v' w',OwnR base w' e k f v' (xs++ys)→w.grownBy w' v.ownBlock→wpList P ops Q rest (a.put o.dst v') w'):wpList P ops Q (o::rest) a w:=by
 obtain⟨i0,hi0,hq⟩:=Option.map_eq_some_iff.1 hi;simp only[Prod.mk.injEq]at hq;obtain⟨hz0,hz1,hz2⟩:=hq;have hm:(xs.length+ys.length)*bytes≤140737488355328:=by
  calc (xs.length+ys.length)*bytes≤(xs.length+ys.length)*1000:=Nat.mul_le_mul_left _ hby
   _≤140737488355328:=by omega
 refine wpList_app_own hgd s x t t ho e i0 z k bytes ht hi0 hz0 hz1 hz2 hzs base v vx xs.length (xs.flatMap f) hs hx hO ys.length (ys.flatMap f) hsrc (by unfold maxLen;omega) hm hbase ?_;intro v' w' h2 h3;refine h v' w' ?_ h3;unfold OwnR;rw[zw0,List.flatMap_append];exact h2
theorem src_row {P:Program} {w:World} {tx e':TypeId} {k n c:Nat} {f:α→List Value} {xs:List α} {a:Addr} (hk:P.underlying tx=some (.slice e')) (hf:∀x,(f x).length=k) (h:RowR w (some a) n k f xs) (h1:∀x,∀u∈f x,u.oneCell'=true):Src P k tx (.slice (some a) n c) xs.length (xs.flatMap f) w:=by
 obtain⟨hn,hc⟩:=h;subst hn;refine Src.ofSlice _ hk a _ c _ (flat_len hf xs) (fun j u hj=>?_) (fun u hu=>?_)
 ·have hlt:j<xs.length*k:=by
   have:=(List.getElem?_eq_some_iff.1 hj).1
   rwa [flat_len hf]at this
  have hk0:0<k:=by
   rcases Nat.eq_zero_or_pos k with h | h
   ·subst h;simp at hlt
   ·exact h
  have hx0:0<xs.length:=by
   rcases Nat.eq_zero_or_pos xs.length with h | h
   ·rw[h]at hlt;simp at hlt
   ·exact h
  obtain⟨b,o,e,hb,hcell⟩:=hc hx0;obtain rfl:=zw13 e;have hd:j/k<xs.length:=(Nat.div_lt_iff_lt_mul hk0).2 hlt;have hm:j%k<k:=Nat.mod_lt _ hk0;have hj2:j/k*k+j%k=j:=by rw[Nat.mul_comm];exact Nat.div_add_mod j k
  have hadd:(⟨b,o,none⟩:Addr).add j=⟨b,o+j,none⟩:=by unfold Addr.add;split<;>simp_all
  have q:=hcell (j/k) hd (j%k) hm;rw[Nat.add_assoc,hj2]at q;rw[hadd,q,←flat_get hf xs (j/k) hd (j%k) hm,hj2,hj]
 ·obtain⟨x,_,hx⟩:=List.mem_flatMap.1 hu
  exact h1 x u hx
theorem own_empty (w:World) (e:TypeId) (k:Nat) (f:α→List Value):OwnR w.heap.size (w.alloc (.cells #[] e)) e k f (.slice (some ⟨w.heap.size,0,none⟩) 0 0) ([]:List α):=by
 refine⟨by simp,.inr ⟨w.heap.size,0,#[],rfl,zw8 _,?_,zw8 _,by unfold maxLen;omega,by simp,by simp⟩⟩;exact Blk.new w e #[]
end
def ClPost {α:Type} (w:World) (e:TypeId) (k:Nat) (f:α→List Value) (xs:List α) (r:Ending) (w':World):Prop:=
 ∃v,r= .returned v∧OwnR w.heap.size w' e k f v xs∧Ext w w'
theorem cloneP_st (A:Option Addr) (n c:Nat) (xs:List Pt) (w:World) (h:RowR w A n 3 cP xs) (hnil:A=none→n=0∧c=0) (hn:n≤10000000) (hc:n≤c∧c≤9223372036854775807):
  Calls Tryz.prog 48 #[.slice A n c] w (ClPost w 110 3 cP xs):=by
 have qT:∀(w:World) (a:Option Addr) (n c n' c':Nat),(binOp .eql 36 (.slice a n c) (.slice none n' c')).run Tryz.prog w= .ok (.bool a.isNone) w:=fun w a n c n' c'=>Lib.run_eql_slice_nil w _ _ a n c n' c' Tryz.underlying36
 cases A with
 | none=>
  obtain⟨rfl,rfl⟩:=hnil rfl;have hx:xs=[]:=zw19 h.1;subst hx;clear h hnil;go_enter Tryz.func48,Tryz.ntmps48;go_wp2_with fail;go_ret;exact⟨_,rfl,OwnR.nil _ _ _ _ _,zxr _⟩
 | some a=>
  have HSRC:=zh (src_row (P:=Tryz.prog) (c:=c) Tryz.underlying36 cP_len (h.ext (zxa (zxr w) (.cells #[] 110))) (by intro x u hu;simp[cP]at hu;rcases hu with rfl | rfl | rfl<;>rfl))
  have HO:=zh (own_empty w 110 3 cP);have HE:=zh (zxa (zxr w) (.cells #[] 110));have HSZ:Hid (w.heap.size≤(w.alloc (.cells #[] 110)).heap.size):=zh (by rw[zw22];omega);have HLN:Hid (([]:List Pt).length+xs.length≤100000000):=zh (by rw[h.1];simp;omega);clear h hnil;go_enter Tryz.func48,Tryz.ntmps48;go_wp2_with (at_builtin;refine wpList_recs rfl (.tmp 5) (.tmp 6) 36 110 3 16 _ cP rfl Tryz.underlying36 infoP rfl (by decide) _ _ [] xs rfl rfl HO.out HSZ.out HSRC.out HLN.out ?_;intro v9 w9 hO9 hG9;have HO9:=zh hO9;have HG9:=zh hG9;clear hO9 hG9)
  go_ret;refine⟨_,rfl,HO9.out,ext_grown HE.out HG9.out (fun q e=>?_)⟩;have:=(zw23 HO.out q e).1;omega
theorem cloneM_st (A:Option Addr) (n c:Nat) (xs:List Mk) (w:World) (h:RowR w A n 2 cM xs) (hnil:A=none→n=0∧c=0) (hn:n≤10000000) (hc:n≤c∧c≤9223372036854775807):
  Calls Tryz.prog 49 #[.slice A n c] w (ClPost w 113 2 cM xs):=by
 have qT:∀(w:World) (a:Option Addr) (n c n' c':Nat),(binOp .eql 38 (.slice a n c) (.slice none n' c')).run Tryz.prog w= .ok (.bool a.isNone) w:=fun w a n c n' c'=>Lib.run_eql_slice_nil w _ _ a n c n' c' Tryz.underlying38
 cases A with
 | none=>
  obtain⟨rfl,rfl⟩:=hnil rfl;have hx:xs=[]:=zw19 h.1;subst hx;clear h hnil;go_enter Tryz.func49,Tryz.ntmps49;go_wp2_with fail;go_ret;exact⟨_,rfl,OwnR.nil _ _ _ _ _,zxr _⟩
 | some a=>
  have HSRC:=zh (src_row (P:=Tryz.prog) (c:=c) Tryz.underlying38 cM_len (h.ext (zxa (zxr w) (.cells #[] 113))) (by intro x u hu;simp[cM]at hu;rcases hu with rfl | rfl<;>rfl))
  have HO:=zh (own_empty w 113 2 cM);have HE:=zh (zxa (zxr w) (.cells #[] 113));have HSZ:Hid (w.heap.size≤(w.alloc (.cells #[] 113)).heap.size):=zh (by rw[zw22];omega);have HLN:Hid (([]:List Mk).length+xs.length≤100000000):=zh (by rw[h.1];simp;omega);clear h hnil;go_enter Tryz.func49,Tryz.ntmps49;go_wp2_with (at_builtin;refine wpList_recs rfl (.tmp 5) (.tmp 6) 38 113 2 24 _ cM rfl Tryz.underlying38 infoM rfl (by decide) _ _ [] xs rfl rfl HO.out HSZ.out HSRC.out HLN.out ?_;intro v9 w9 hO9 hG9;have HO9:=zh hO9;have HG9:=zh hG9;clear hO9 hG9)
  go_ret;refine⟨_,rfl,HO9.out,ext_grown HE.out HG9.out (fun q e=>?_)⟩;have:=(zw23 HO.out q e).1;omega
open Log (OwnR_keep)
def Below4 (t:Tv) (L B:Nat):Prop:=(∀a,t.s0.A=some a→L≤a.block∧a.block<B)∧(∀a,t.s1.A=some a→L≤a.block∧a.block<B)∧(∀a,t.s2.A=some a→L≤a.block∧a.block<B)∧(∀a,t.s3.A=some a→L≤a.block∧a.block<B)
def CpPost (w:World) (x:Tk) (e:Ending) (w':World):Prop:=
 Ext w w'∧∃(t:Tv) (B:Nat),e= .returned (.agg t.cells)∧TkV w' t x∧w.heap.size≤B∧B≤w'.heap.size∧OwnR B w' 113 2 cM (.slice t.sm.A t.sm.n t.sm.c) x.marks∧Below4 t w.heap.size B
def cR (p:Pt):List Value:=[.int .i64 p.tick,.int .i64 p.x,.int .i64 p.y]
theorem cR_len (p:Pt):(cR p).length=3:=rfl
def PtsR (w:World) (A:Option Addr) (n c:Nat) (ps:List Pt):Prop:=RowR w A n 3 cR ps∧n≤c∧c≤9223372036854775807∧(A=none→n=0∧c=0)
def RfV (w:World) (t:Tv) (x:Tk):Prop:=PtsR w t.s0.A t.s0.n t.s0.c x.c0∧PtsR w t.s1.A t.s1.n t.s1.c x.c1∧PtsR w t.s2.A t.s2.n t.s2.c x.c2∧PtsR w t.s3.A t.s3.n t.s3.c x.c3∧MksV w t.sm.A t.sm.n t.sm.c x.marks
theorem PtsR.ext {w w':World} {A:Option Addr} {n c:Nat} {ps:List Pt} (h:PtsR w A n c ps) (e:Ext w w'):PtsR w' A n c ps:=⟨h.1.ext e,h.2⟩
theorem RfV.ext {w w':World} {t:Tv} {x:Tk} (h:RfV w t x) (e:Ext w w'):RfV w' t x:=⟨h.1.ext e,h.2.1.ext e,h.2.2.1.ext e,h.2.2.2.1.ext e,h.2.2.2.2.ext e⟩
def Small (x:Tk):Prop:=x.marks.length≤60∧(∀m∈x.marks,m.name.size≤200)∧∀c∈x.cams,c.length≤100
def GrPost (w:World) (x:Tk) (e:Ending) (w':World):Prop:=∃b,e= .returned (.bool b)∧Ext w w'∧(b=false→Small x)
theorem great_tr (t:Tv) (x:Tk) (w:World) (hB:RfV w t x):
  Calls Tryz.prog 19 #[.agg t.cells] w (GrPost w x):=by
 have HE0:=zh (zxa (zxr w) (.cells t.cells 31));have HH0:=zh (Blk.new w 31 t.cells);have HB:=zh (hB.ext HE0.out);clear hB;obtain⟨⟨A0,n0,c0⟩,⟨A1,n1,c1⟩,⟨A2,n2,c2⟩,⟨A3,n3,c3⟩,⟨Am,nm,cm⟩⟩:=t;obtain⟨p0,p1,p2,p3,ms⟩:=x;simp only[Tv.cells]at*;have e0:p0.length=n0:=HB.out.1.1.1;have e1:p1.length=n1:=HB.out.2.1.1.1;have e2:p2.length=n2:=HB.out.2.2.1.1.1;have e3:p3.length=n3:=HB.out.2.2.2.1.1.1;have em:ms.length=nm:=HB.out.2.2.2.2.1.1;replace e0:=zh e0;replace e1:=zh e1;replace e2:=zh e2;replace e3:=zh e3;replace em:=zh em;go_enter Tryz.func19,Tryz.ntmps19;go_upto_region 1 with fail;obtain⟨w0,hw0⟩:∃q,q=w.alloc (.cells #[.slice A0 n0 c0,.slice A1 n1 c1,.slice A2 n2 c2,.slice A3 n3 c3,.slice Am nm cm] 31):=⟨_,rfl⟩;rw[←hw0]at HE0 HH0 HB ⊢;clear hw0;generalize w.heap.size=hb at*;have h0:=HH0.out.cell 0;have h1:=HH0.out.cell 1;have h2:=HH0.out.cell 2;have h3:=HH0.out.cell 3;have h4:=HH0.out.cell 4;simp only[zzD,zzE,zzF]at h0 h1 h2 h3 h4;by_cases hm:60<nm
 ·have hm':(60:Int)<(nm:Int):=by omega
  go_wp2_with fail;go_ret;exact⟨true,rfl,HE0.out,fun h=>by cases h⟩
 ·have hm':¬(60:Int)<(nm:Int):=by omega
  go_wp2_with fail
  go_loopg [3] nm (fun gh iv wr=>∃(k:Nat),k+gh=nm∧iv= .int .i64 (k:Int)∧wr=w0∧∀j (hj:j<ms.length),j<k→ms[j].name.size≤200)
  case atStart=>exact⟨0,by omega,rfl,rfl,fun j hj h=>absurd h (by omega)⟩
  case round=>
   obtain⟨k,hk,rfl,hwr,hRk⟩:=hrel;replace hwr:=hwr.symm;subst hwr;obtain⟨gh,rfl⟩:∃gh:Nat,gh=gk:=⟨_,rfl⟩;have HRK:=zh hRk;clear hRk;have y1:(0:Int)≤(k:Int):=by omega
   by_cases hlt:k<nm
   ·have hke:k<ms.length:=by rw[em.out];exact hlt
    obtain⟨b,o,rfl,hbw,hc⟩:=HB.out.2.2.2.2.1.2 (show 0<nm by omega);have q:=fun i hi=>hc k hke i hi;have hmem:ms[k]∈ms:=zw25 _;have hsz:=HB.out.2.2.2.2.2.2.2.2 _ hmem;have HNX:Hid (ms[k].name.size≤200→∀j (hj:j<ms.length),j<k+1→ms[j].name.size≤200):=zh (fun h j hj hjk=>by
     by_cases hjk2:j=k
     ·subst hjk2;exact h
     ·exact HRK.out j hj (by omega))
    generalize ms[k]=u at q hsz HNX;obtain⟨tk,s⟩:=u;have a0:=q 0 (by omega);have a1:=q 1 (by omega);simp only[cM,Nat.add_zero,List.getElem?_cons_zero,List.getElem?_cons_succ]at a0 a1 hsz HNX;have y2:(k:Int)<(nm:Int):=by omega
    clear hc q hke hmem;by_cases h200:s.size≤200
    ·have h200':¬(200:Int)<(s.size:Int):=by omega
     have HF:=zh (HNX.out h200);clear HNX;go_wp2_with fail
     go_roundg (gh-1)
     case measure=>omega
     case rel=>exact⟨k+1,by omega,by go_num,rfl,HF.out⟩
    ·have h200':(200:Int)<(s.size:Int):=by omega
     go_wp2_with fail;go_ret;exact⟨true,rfl,HE0.out,fun h=>by cases h⟩
   ·obtain rfl:gh=0:=by omega
    obtain rfl:k=nm:=by omega
    have y2:¬(k:Int)<(k:Int):=by omega
    have HMS:Hid (ms.length≤60∧∀m∈ms,m.name.size≤200):=zh ⟨by rw[em.out];omega,fun m hm=>by
     obtain⟨j,hj,rfl⟩:=List.getElem_of_mem hm;exact HRK.out j hj (by rw[←em.out];exact hj)⟩
    go_wp2_with fail
    go_loopg [4] 4 (fun gh iv wr=>∃(k:Nat),k+gh=4∧iv= .int .i64 (k:Int)∧wr=w0∧∀j (hj:j< [p0,p1,p2,p3].length),j<k→([p0,p1,p2,p3][j]).length≤100)
    case atStart=>exact⟨0,by omega,rfl,rfl,fun j hj h=>absurd h (by omega)⟩
    case round=>
     obtain⟨k,hk,rfl,hwr,hRk⟩:=hrel;replace hwr:=hwr.symm;subst hwr;obtain⟨gh,rfl⟩:∃gh:Nat,gh=gk:=⟨_,rfl⟩;have HRK:=zh hRk;clear hRk;have hk5:k=0∨k=1∨k=2∨k=3∨k=4:=by omega
     rcases hk5 with rfl | rfl | rfl | rfl | rfl
     ·by_cases h100:n0≤100
      ·have h100':¬(100:Int)<(n0:Int):=by omega
       have HF:Hid (∀j (hj:j< [p0,p1,p2,p3].length),j<1→([p0,p1,p2,p3][j]).length≤100):=zh (fun j hj hjk=>by
        by_cases hjk2:j=0
        ·subst hjk2;show p0.length≤100;rw[e0.out];exact h100
        ·exact HRK.out j hj (by omega))
       go_wp2_with fail
       go_roundg (gh-1)
       case measure=>omega
       case rel=>exact⟨1,by omega,by rfl,rfl,HF.out⟩
      ·have h100':(100:Int)<(n0:Int):=by omega
       go_wp2_with fail;go_ret;exact⟨true,rfl,HE0.out,fun h=>by cases h⟩
     ·by_cases h100:n1≤100
      ·have h100':¬(100:Int)<(n1:Int):=by omega
       have HF:Hid (∀j (hj:j< [p0,p1,p2,p3].length),j<2→([p0,p1,p2,p3][j]).length≤100):=zh (fun j hj hjk=>by
        by_cases hjk2:j=1
        ·subst hjk2;show p1.length≤100;rw[e1.out];exact h100
        ·exact HRK.out j hj (by omega))
       go_wp2_with fail
       go_roundg (gh-1)
       case measure=>omega
       case rel=>exact⟨2,by omega,by rfl,rfl,HF.out⟩
      ·have h100':(100:Int)<(n1:Int):=by omega
       go_wp2_with fail;go_ret;exact⟨true,rfl,HE0.out,fun h=>by cases h⟩
     ·by_cases h100:n2≤100
      ·have h100':¬(100:Int)<(n2:Int):=by omega
       have HF:Hid (∀j (hj:j< [p0,p1,p2,p3].length),j<3→([p0,p1,p2,p3][j]).length≤100):=zh (fun j hj hjk=>by
        by_cases hjk2:j=2
        ·subst hjk2;show p2.length≤100;rw[e2.out];exact h100
        ·exact HRK.out j hj (by omega))
       go_wp2_with fail
       go_roundg (gh-1)
       case measure=>omega
       case rel=>exact⟨3,by omega,by rfl,rfl,HF.out⟩
      ·have h100':(100:Int)<(n2:Int):=by omega
       go_wp2_with fail;go_ret;exact⟨true,rfl,HE0.out,fun h=>by cases h⟩
     ·by_cases h100:n3≤100
      ·have h100':¬(100:Int)<(n3:Int):=by omega
       have HF:Hid (∀j (hj:j< [p0,p1,p2,p3].length),j<4→([p0,p1,p2,p3][j]).length≤100):=zh (fun j hj hjk=>by
        by_cases hjk2:j=3
        ·subst hjk2;show p3.length≤100;rw[e3.out];exact h100
        ·exact HRK.out j hj (by omega))
       go_wp2_with fail
       go_roundg (gh-1)
       case measure=>omega
       case rel=>exact⟨4,by omega,by rfl,rfl,HF.out⟩
      ·have h100':(100:Int)<(n3:Int):=by omega
       go_wp2_with fail;go_ret;exact⟨true,rfl,HE0.out,fun h=>by cases h⟩
     ·obtain rfl:gh=0:=by omega
      go_wp2_with fail;go_ret;refine⟨false,rfl,HE0.out,fun _=>⟨HMS.out.1,HMS.out.2,fun c hc=>?_⟩⟩;obtain⟨j,hj,rfl⟩:=List.getElem_of_mem (show c∈[p0,p1,p2,p3]from hc);exact HRK.out j hj (by simpa using hj)
end Go.Proofs.YtidnboeihkeljaaGreatDoor.Trk
