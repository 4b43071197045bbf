
import Derived.Test.YtbopblbhjcemaaaGreatDoorF13
import Derived.Test.YtbopblbhjcemaaaGreatDoorF04
import Derived.Test.YtbopblbhjcemaaaGreatDoorF12
set_option maxHeartbeats 16000000
set_option maxRecDepth 100000
set_option linter.all false
open Go.ChangeShapes Go.WideShapes Go.ChangeAt Go.RowKit
namespace Go.Proofs.YtbopblbhjcemaaaGreatDoor.Log
open Rec
open Grid (okm newR mval new_any walk_yes walk_no)
open Map64 (MapR)
structure Sv where
 owner:Nat
 kind:Nat
 tile:Int
def cS (u:Sv):List Value:=[.int .u8 (u.owner:Int),.int .u8 (u.kind:Int),.int .i64 u.tile]
theorem cS_len (u:Sv):(cS u).length=3:=rfl
def Sv.fits (u:Sv):Prop:=u.owner<256∧u.kind<256∧ -9223372036854775808≤u.tile∧u.tile≤9223372036854775807
structure Hv where
 w:Int
 h:Int
 players:Int
 seed:Nat
 tiles:ByteArray
 starts:List Sv
def cH (x:Hv) (v:Value):Array Value:= #[.int .i64 x.w,.int .i64 x.h,.int .i64 x.players,.int .u32 (x.seed:Int),.string x.tiles,v]
def walkB (T:ByteArray) (t:Int):Bool:=if h:0≤t∧t.toNat<T.size then(((T[t.toNat]'h.2).toNat:Int)==0)else false
def mayB (p:Int) (T:ByteArray):List Int→List Sv→Bool
 | _,[]=>true
 | tk,u::us=>decide ((u.owner:Int)<p) && (decide (1≤u.kind) && (decide (u.kind≤5) && (walkB T u.tile && (!decide (u.tile∈tk) && mayB p T (u.tile::tk) us))))
def mayH (x:Hv):Prop:=okm x.w x.h x.tiles∧1≤x.players∧x.players≤4∧x.starts.length≤128∧mayB x.players x.tiles [] x.starts=true
instance (x:Hv):Decidable (mayH x):=by unfold mayH;infer_instance
theorem walk_any (W H:Nat) (T:ByteArray) (t:Int) (w:World) (hW:4≤W) (hs:T.size≤5000):
  Calls Tryz.prog 129 #[.agg #[.int .i64 (W:Int),.int .i64 (H:Int),.string T],.int .i64 t] w fun e w'=>e= .returned (.bool (walkB T t))∧Ext w w':=by
 unfold walkB;by_cases h:0≤t∧t.toNat<T.size
 ·rw[dif_pos h]
  obtain⟨n,rfl⟩:∃n:Nat,t=(n:Int):=⟨t.toNat,by omega⟩;have hn:n<T.size:=by have:=h.2;rwa [zw35]at this
  have:=walk_yes W H n T w hW hs hn
  simpa using this
 ·rw[dif_neg h]
  exact walk_no W H t T w hW hs (by omega)
theorem zU (w:World):(zeroValue 203).run Tryz.prog w= .ok (.agg #[]) w:=by kernel_rfl
def mF (tk:List Int):Int→Option Value:=fun t=>if t∈tk then some (.agg #[])else none
theorem mF_get (tk:List Int) (t:Int):(mF tk t).getD (.agg #[])= .agg #[]∧(mF tk t).isSome=decide (t∈tk):=by
 unfold mF;by_cases h:t∈tk<;>simp[h]
theorem kept1 {w w':World} {g r:Nat} {t:TypeId} {cs:Array Value} (h:Blk w g t cs) (k:w.grownBy w' (some r)) (hne:g≠r):Blk w' g t cs:=(k.block g h.lt (by simpa using hne)).trans h
def MRel (w:World) (hb mb gb:Nat) (H G:Array Value) (p:Int) (T:ByteArray) (us:List Sv) (R:Bool) (gh:Nat) (iv:Value) (wr:World):Prop:=
 ∃(k:Nat) (tk:List Int),k+gh=us.length∧iv= .int .i64 (k:Int)∧MapR wr mb (mF tk)∧Blk wr hb 56 H∧Blk wr gb 199 G∧Ext w wr∧R=mayB p T tk (us.drop k)
theorem may_st (x:Hv) (A:Option Addr) (m c:Nat) (w:World) (hB:RowR w A m 3 cS x.starts) (hf:∀u∈x.starts,u.fits) (hs:x.tiles.size≤5000) (hm:m≤1000000)
  (hw1: -9223372036854775808≤x.w) (hw2:x.w≤9223372036854775807) (hh1: -9223372036854775808≤x.h) (hh2:x.h≤9223372036854775807):
  Calls Tryz.prog 96 #[.agg (cH x (.slice A m c))] w fun e w'=>e= .returned (.bool (decide (mayH x)))∧Ext w w':=by
 generalize hR:decide (mayH x)=R;replace hR:=zh hR;obtain⟨xw,xh,xp,xs,xt,us⟩:=x;simp only at*;have HB:=zh hB;have HF:=zh hf;have HLEN:=zh hB.1;clear hB hf;have HN:=zh (fun(W:World)=>new_any xw xh xt W hs hw1 hw2 hh1 hh2);clear hw1 hw2 hh1 hh2;unfold cH;simp only;by_cases hok:okm xw xh xt
 ·have HNR:Hid (newR xw xh xt= .tuple #[mval xw xh xt,.int .i64 0]):=zh (by unfold newR;rw[if_pos hok])
  obtain⟨o1,o2,o3,o4,o5,o6⟩:=hok;obtain⟨W,rfl⟩:∃W:Nat,xw=(W:Int):=⟨xw.toNat,by omega⟩;obtain⟨H,rfl⟩:∃H:Nat,xh=(H:Int):=⟨xh.toNat,by omega⟩;have HOK:Hid (okm (W:Int) (H:Int) xt):=zh ⟨o1,o2,o3,o4,o5,o6⟩;have HWK:=zh (fun t w'=>walk_any W H xt t w' (by omega) hs);clear o1 o2 o3 o4 o5 o6;have hb0:=Blk.new w 56 #[.int .i64 (W:Int),.int .i64 (H:Int),.int .i64 xp,.int .u32 (xs:Int),.string xt,.slice A m c];have HH0:=zh hb0;clear hb0;have HE0:=zh (zxa (zxr w) (.cells #[.int .i64 (W:Int),.int .i64 (H:Int),.int .i64 xp,.int .u32 (xs:Int),.string xt,.slice A m c] 56));go_enter Tryz.func96,Tryz.ntmps96;go_wp2_with fail;refine(HN.out _).mono ?_;rintro e w1 ⟨rfl,hE1⟩;rw[HNR.out];unfold mval;have HH1:=zh (HH0.out.ext hE1);have HE1:=zh (zxt HE0.out hE1);have hhc:=fun i=>HH1.out.cell i;have hlt1:w.heap.size<w1.heap.size:=HH1.out.lt;have HG2:=zh (Blk.new w1 199 #[.int .i64 (W:Int),.int .i64 (H:Int),.string xt]);have HH2:=zh (HH1.out.alloc (.cells #[.int .i64 (W:Int),.int .i64 (H:Int),.string xt] 199));have HE2:=zh (zxa HE1.out (.cells #[.int .i64 (W:Int),.int .i64 (H:Int),.string xt] 199));clear hE1 HN HNR HE0 HH0;by_cases hp1:1≤xp
  ·by_cases hp4:xp≤4
   ·by_cases hm8:m≤128
    ·have HRR:Hid (R=mayB xp xt [] us):=zh (by
      rw[←hR.out];by_cases hb:mayB xp xt [] us=true
      ·rw[hb];exact zw15 ⟨HOK.out,hp1,hp4,by rw[HLEN.out];exact hm8,hb⟩
      ·rw[Bool.eq_false_iff.2 hb];exact zw14 (fun h=>hb h.2.2.2.2))
     have hmm:=@run_makeMap Tryz.prog;have hm9:(m:Int)≤128:=by omega
     clear HOK;go_upto_region 5 with fail;clear hmm;have HM3:=MapR.new (w1.alloc (.cells #[.int .i64 (W:Int),.int .i64 (H:Int),.string xt] 199));rw[zw22]at HM3;replace HM3:=zh HM3;have HREL:Hid (MRel w w.heap.size (w1.heap.size+1) w1.heap.size #[.int .i64 (W:Int),.int .i64 (H:Int),.int .i64 xp,.int .u32 (xs:Int),.string xt,.slice A m c] #[.int .i64 (W:Int),.int .i64 (H:Int),.string xt] xp xt us R m (.int .i64 ((0:Nat):Int)) ((w1.alloc (.cells #[.int .i64 (W:Int),.int .i64 (H:Int),.string xt] 199)).alloc (.map #[] 0))):=zh<| by
      refine⟨0,[],by rw[HLEN.out];omega,rfl,?_,HH2.out.alloc _,HG2.out.alloc _,zxa HE2.out _,HRR.out⟩;have:mF []=fun _=>none:=by funext t;simp[mF]
      rw[this];exact HM3.out
     obtain⟨w3,hw3⟩:∃W',W'=(w1.alloc (.cells #[.int .i64 (W:Int),.int .i64 (H:Int),.string xt] 199)).alloc (.map #[] 0):=⟨_,rfl⟩;have HH3:=zh (HH2.out.alloc (.map #[] 0));rw[←hw3]at HH3 HREL ⊢;clear hw3 HM3 HH1 HH2 HG2 HE2 HE1 hhc HRR;have hh3:=fun i=>HH3.out.cell i;generalize hmb:w1.heap.size+1=mb at*;generalize w1.heap.size=gb at*;replace hmb:=zh hmb;go_wp2_with fail
     go_loopg [42] m (fun gh iv wr=>MRel w w.heap.size mb gb #[.int .i64 (W:Int),.int .i64 (H:Int),.int .i64 xp,.int .u32 (xs:Int),.string xt,.slice A m c] #[.int .i64 (W:Int),.int .i64 (H:Int),.string xt] xp xt us R gh iv wr)
     case atStart=>exact HREL.out
     case round=>
      obtain⟨k,tk,hk,rfl,hM,hH,hG,hE,hRk⟩:=hrel;obtain⟨wi,rfl⟩:∃wi:World,wi=wr:=⟨_,rfl⟩;obtain⟨gh,rfl⟩:∃gh:Nat,gh=gk:=⟨_,rfl⟩;have HM:=zh hM;have HH:=zh hH;have HG:=zh hG;have HE:=zh hE;have HRK:=zh hRk;have hkm:k+gh=m:=by rw[hk,HLEN.out]
      clear hM hH hG hE hRk HREL hk hh3 HH3;have y1:(0:Int)≤(k:Int):=by omega
      by_cases hlt:k<m
      ·have hke:k<us.length:=by rw[HLEN.out];exact hlt
       obtain⟨b,o,rfl,hbw,hc⟩:=HB.out.2 (by omega);have hd:us.drop k=us[k]::us.drop (k+1):=zw20 hke;have hfx:=HF.out us[k] (zw25 hke);have hcx:=hc k hke;obtain⟨u,hu⟩:∃u,u=us[k]:=⟨_,rfl⟩;rw[←hu]at hd hfx hcx;obtain⟨u1,u2,u3⟩:=u;obtain⟨f1,f2,f3,f4⟩:=hfx;simp only at f1 f2 f3 f4;have HD:=zh hd;have HCX:=zh (fun i (hi:i<3)=>(HE.out.cell (p:=⟨b,o+k*3+i,none⟩) hbw).trans (hcx i hi));clear hc hcx hu hd hke;have c0:=HCX.out 0 (by omega);have c1:=HCX.out 1 (by omega);have c2:=HCX.out 2 (by omega);simp only[cS,Nat.add_zero,List.getElem?_cons_zero,List.getElem?_cons_succ]at c0 c1 c2;have y2:(k:Int)<(m:Int):=by omega
       have HMA:=zh (HM.out.ext (zxa (zxr wi) (.cells #[.int .u8 (u1:Int),.int .u8 (u2:Int),.int .i64 u3] 110)));have HV1:=zh (mF_get tk u3);have hub:=Blk.new wi 110 #[.int .u8 (u1:Int),.int .u8 (u2:Int),.int .i64 u3];have HU:=zh hub;clear hub;generalize htw:decide (u3∈tk)=tw at*;have HTW:=zh htw;clear htw;go_upto_region 9 with (refine Map64.wpList_look2 rfl (.tmp 47) (.tmp 49) rfl Tryz.underlying202 Tryz.underlying3 (zU _) rfl HMA.out u3 rfl (.agg #[]) tw HV1.out.1 HV1.out.2 ?_)
       have HM5:=zh (HMA.out.ext (zxa (zxr _) (.cells #[] 203)));have HH5:=zh ((HH.out.alloc (.cells #[.int .u8 (u1:Int),.int .u8 (u2:Int),.int .i64 u3] 110)).alloc (.cells #[] 203));have HG5:=zh ((HG.out.alloc (.cells #[.int .u8 (u1:Int),.int .u8 (u2:Int),.int .i64 u3] 110)).alloc (.cells #[] 203));have HU5:=zh (HU.out.alloc (.cells #[] 203));have HE5:=zh (zxa (zxa HE.out (.cells #[.int .u8 (u1:Int),.int .u8 (u2:Int),.int .i64 u3] 110)) (.cells #[] 203));obtain⟨w5,hw5⟩:∃W',W'=(wi.alloc (.cells #[.int .u8 (u1:Int),.int .u8 (u2:Int),.int .i64 u3] 110)).alloc (.cells #[] 203):=⟨_,rfl⟩;rw[←hw5]at HM5 HH5 HG5 HU5 HE5 ⊢;clear hw5 HM HH HG HE HMA HU HV1 HCX c0 c1 c2;have h5:=fun i=>HH5.out.cell i;have g5:=fun i=>HG5.out.cell i;have u5:=fun i=>HU5.out.cell i;have HTM:Hid (tw=decide (u3∈tk)):=zh HTW.out.symm;clear HTW;by_cases q1:(u1:Int)<xp
       ·have q1':¬xp≤(u1:Int):=by omega
        by_cases q2:1≤u2
        ·have q2':(1:Int)≤(u2:Int):=by omega
         by_cases q3:u2≤5
         ·have q3':(u2:Int)≤5:=by omega
          have HW5:=zh (HWK.out u3 w5);generalize hwb:walkB xt u3=wb at*;have HWB:=zh hwb;clear hwb;go_wp2_with fail;refine(HW5.out).mono ?_;rintro e w6 ⟨rfl,hE6⟩;have HE6:=zh (zxt HE5.out hE6);have HH6:=zh (HH5.out.ext hE6);have HG6:=zh (HG5.out.ext hE6);have HM6:=zh (HM5.out.ext hE6);have HU6:=zh (HU5.out.ext hE6);clear hE6 HW5 h5 g5 u5;have u6:=fun i=>HU6.out.cell i
          cases wb with
          | false=>
           have HRF:Hid (R=false):=zh (by rw[HRK.out,HD.out,mayB];rw[HWB.out];simp);go_wp2_with fail;go_ret;exact⟨by rw[HRF.out];rfl,HE6.out⟩
          | true=>
           cases tw with
           | true=>
            have HRF:Hid (R=false):=zh (by rw[HRK.out,HD.out,mayB];rw[←HTM.out];simp);go_wp2_with fail;go_ret;exact⟨by rw[HRF.out];rfl,HE6.out⟩
           | false=>
            have HRT:Hid (R=mayB xp xt (u3::tk) (us.drop (k+1))):=zh (by
             rw[HRK.out,HD.out,mayB,zw15 q1,zw15 q2,zw15 q3,←HTM.out];show(true && (true && (true && (walkB xt u3 && (true && mayB xp xt (u3::tk) (us.drop (k+1)))))))=_;rw[HWB.out];simp only[zw50])
            go_wp2_with (refine Map64.wpList_put rfl (.tmp 79) (.tmp 81) (.tmp 82) rfl Tryz.underlying202 Tryz.underlying3 rfl HM6.out u3 (.agg #[]) rfl rfl ?_;intro we hM9 hg9;have HM9:=zh hM9;have HG9:=zh hg9;clear hM9 hg9)
            go_roundg (gh-1)
            case measure=>omega
            case rel=>
             have hmb2:=hmb.out;refine⟨k+1,u3::tk,by rw[HLEN.out];omega,by go_num,?_,kept1 HH6.out HG9.out (by omega),kept1 HG6.out HG9.out (by omega),ext_grown HE6.out HG9.out (fun q e=>by cases e;omega),HRT.out⟩;have hF:(fun x=>if x=u3 then some (Value.agg #[])else mF tk x)=mF (u3::tk):=by
              funext x
              unfold mF;by_cases hx:x=u3<;>by_cases ht:x∈tk<;>simp[hx,ht]
             rw[←hF];exact HM9.out
         ·have q3':¬(u2:Int)≤5:=by omega
          have HRF:Hid (R=false):=zh (by rw[HRK.out,HD.out,mayB];rw[zw14 q3];simp);go_wp2_with fail;go_ret;exact⟨by rw[HRF.out];rfl,HE5.out⟩
        ·have q2':¬(1:Int)≤(u2:Int):=by omega
         have HRF:Hid (R=false):=zh (by rw[HRK.out,HD.out,mayB];rw[zw14 q2];simp);go_wp2_with fail;go_ret;exact⟨by rw[HRF.out];rfl,HE5.out⟩
       ·have q1':xp≤(u1:Int):=by omega
        have HRF:Hid (R=false):=zh (by rw[HRK.out,HD.out,mayB];rw[zw14 q1];simp);go_wp2_with fail;go_ret;exact⟨by rw[HRF.out];rfl,HE5.out⟩
      ·obtain rfl:gh=0:=by omega
       obtain rfl:k=m:=by omega
       have HRF:Hid (R=true):=zh (by
        rw[HRK.out,zw21 (by rw[HLEN.out];omega),mayB])
       have y2:¬(k:Int)<(k:Int):=by omega
       go_wp2_with fail;go_ret;exact⟨by rw[HRF.out];rfl,HE.out⟩
    ·have hm9:128<(m:Int):=by omega
     have HRF:Hid (R=false):=zh (by rw[←hR.out];exact zw14 (fun h=>by have:=h.2.2.2.1;simp only at this;rw[HLEN.out]at this;omega));go_wp2_with fail;go_ret;exact⟨by rw[HRF.out];rfl,HE2.out⟩
   ·have hp5:4<xp:=by omega
    have HRF:Hid (R=false):=zh (by rw[←hR.out];exact zw14 (fun h=>by have:=h.2.2.1;simp only at this;omega));go_wp2_with fail;go_ret;exact⟨by rw[HRF.out];rfl,HE2.out⟩
  ·have hp5:xp<1:=by omega
   have HRF:Hid (R=false):=zh (by rw[←hR.out];exact zw14 (fun h=>by have:=h.2.1;simp only at this;omega));go_wp2_with fail;go_ret;exact⟨by rw[HRF.out];rfl,HE2.out⟩
 ·have HNR:Hid (newR xw xh xt= .tuple #[mval 0 0 ⟨#[]⟩,.int .i64 2]):=zh (by unfold newR;rw[if_neg hok])
  have HRF:Hid (R=false):=zh (by rw[←hR.out];exact zw14 (fun h=>hok h.1));clear hok;have HE0:=zh (zxa (zxr w) (.cells #[.int .i64 xw,.int .i64 xh,.int .i64 xp,.int .u32 (xs:Int),.string xt,.slice A m c] 56));go_enter Tryz.func96,Tryz.ntmps96;go_wp2_with fail;refine(HN.out _).mono ?_;rintro e w1 ⟨rfl,hE1⟩;rw[HNR.out];unfold mval;have HE2:=zh (zxa (zxt HE0.out hE1) (.cells #[.int .i64 0,.int .i64 0,.string ⟨#[]⟩] 199));clear hE1;go_wp2_with fail;go_ret;exact⟨by rw[HRF.out];rfl,HE2.out⟩
open Wire
def pN (L:List Nat):Option (Nat × List Nat):=match vr 0 0 L with | .ok v k=>some (v,L.drop k) | _=>none
def pI (L:List Nat):Option (Nat × List Nat):=match lim (vr 0 0 L)with | .ok v k=>some (v,L.drop k) | _=>none
def pF (L:List Nat):Option (Nat × List Nat):=if 4≤L.length then some (be (L.take 4),L.drop 4)else none
def pB (n:Nat) (L:List Nat):Option (List Nat × List Nat):=if n≤L.length then some (L.take n,L.drop n)else none
def pT (most:Nat) (L:List Nat):Option (List Nat × List Nat):=match pN L with | some (n,M)=>if n≤most then pB n M else none | none=>none
theorem cut_app {xs ys:List Nat} {n:Nat} (h:n=xs.length):(xs++ys).drop n=ys∧(xs++ys).take n=xs:=by subst h;exact⟨List.drop_left,List.take_left⟩
theorem pN_put {m:Nat} (h:m<18446744073709551616) (ys:List Nat):pN (vb m++ys)=some (m,ys):=by
 unfold pN;rw[vr_put h];simp only[(cut_app rfl).1]
theorem pI_put {m:Nat} (h:m≤2147483647) (ys:List Nat):pI (vb m++ys)=some (m,ys):=by
 unfold pI;rw[vr_put (by omega)];simp only[lim,if_pos h,(cut_app rfl).1]
theorem pF_put {m:Nat} (h:m<4294967296) (ys:List Nat):pF (fx m++ys)=some (m,ys):=by
 have h4:(fx m).length=4:=rfl;unfold pF;rw[if_pos (by rw[zw0];omega),(cut_app h4.symm).1,(cut_app h4.symm).2,be_fx h]
theorem pB_put (xs ys:List Nat):pB xs.length (xs++ys)=some (xs,ys):=by
 unfold pB;rw[if_pos (by rw[zw0];omega),(cut_app rfl).1,(cut_app rfl).2]
theorem pT_put {most:Nat} {xs:List Nat} (h:xs.length≤most) (hm:most<18446744073709551616) (ys:List Nat):pT most (vb xs.length++(xs++ys))=some (xs,ys):=by
 unfold pT;rw[pN_put (by omega)];simp only;rw[if_pos h,pB_put]
theorem pN_ok {L R:List Nat} (hL:∀c∈L,c<256) {v:Nat} (h:pN L=some (v,R)):L=vb v++R∧v<18446744073709551616:=by
 unfold pN at h
 split at h
 ·rename_i v' k hv
  cases h
  obtain⟨b0,k0,h3,_⟩:=vr_ok hL hv;exact⟨by rw[b0,List.take_append_drop],h3⟩
 ·cases h
theorem pI_ok {L R:List Nat} (hL:∀c∈L,c<256) {v:Nat} (h:pI L=some (v,R)):L=vb v++R∧v≤2147483647:=by
 unfold pI at h
 split at h
 ·rename_i v' k hv
  cases h
  refine⟨?_,lim_le hv⟩
  cases hr:vr 0 0 L with
  | short=>rw[hr]at hv;cases hv
  | form=>rw[hr]at hv;cases hv
  | ok x y=>
   rw[hr]at hv;simp only[lim]at hv
   split at hv<;>cases hv
   obtain⟨b0,_,_,_⟩:=vr_ok hL hr;rw[b0,List.take_append_drop]
 ·cases h
theorem fx_be4 {ys:List Nat} (h:∀c∈ys,c<256) (hl:ys.length=4):fx (be ys)=ys∧be ys<4294967296:=by
 match ys,hl,h with
 | [a,b,c,d],_,h=>
  have h1:=h a (by simp);have h2:=h b (by simp);have h3:=h c (by simp);have h4:=h d (by simp);simp only[be,List.foldl_cons,List.foldl_nil,fx,List.cons.injEq,and_true];refine⟨⟨by omega,by omega,by omega,by omega⟩,by omega⟩
theorem pF_ok {L R:List Nat} (hL:∀c∈L,c<256) {v:Nat} (h:pF L=some (v,R)):L=fx v++R∧v<4294967296:=by
 unfold pF at h
 split at h
 ·rename_i h4
  cases h
  have:=fx_be4 (ys:=L.take 4) (fun c hc=>hL c (List.mem_of_mem_take hc)) (by rw[zw2];omega);exact⟨by rw[this.1,List.take_append_drop],this.2⟩
 ·cases h
theorem pB_ok {n:Nat} {L R xs:List Nat} (h:pB n L=some (xs,R)):L=xs++R∧xs.length=n:=by
 unfold pB at h
 split at h
 ·cases h
  exact⟨(List.take_append_drop _ _).symm,by rw[zw2];omega⟩
 ·cases h
theorem pT_ok {most:Nat} {L R xs:List Nat} (hL:∀c∈L,c<256) (h:pT most L=some (xs,R)):L=vb xs.length++(xs++R)∧xs.length≤most:=by
 unfold pT at h
 split at h
 ·rename_i n M hn
  split at h
  ·rename_i hm
   obtain⟨e1,_⟩:=pN_ok hL hn;obtain⟨e2,e3⟩:=pB_ok h;exact⟨by rw[e3,←e2,←e1],by omega⟩
  ·cases h
 ·cases h
structure St where
 owner:Nat
 kind:Nat
 tile:Nat
structure Hd where
 w:Nat
 h:Nat
 players:Nat
 seed:Nat
 tiles:List Nat
 starts:List St
def encS:List St→List Nat
 | []=>[]
 | u::us=>vb u.owner++(vb u.kind++(vb u.tile++encS us))
def encH (x:Hd):List Nat:=vb x.w++(vb x.h++(vb x.players++(fx x.seed++(vb x.tiles.length++(x.tiles++(vb x.starts.length++encS x.starts))))))
def pS:Nat→List Nat→Option (List St × List Nat)
 | 0,L=>some ([],L)
 | left+1,L=>match pN L with
  | none=>none
  | some (o,L1)=>match pN L1 with
   | none=>none
   | some (k,L2)=>match pI L2 with
    | none=>none
    | some (t,L3)=>match pS left L3 with
     | none=>none
     | some (us,L4)=>some (⟨o,k,t⟩::us,L4)
def pH (L:List Nat):Option (Hd × List Nat):=
 match pI L with
 | none=>none
 | some (w,L1)=>match pI L1 with
  | none=>none
  | some (h,L2)=>match pI L2 with
   | none=>none
   | some (p,L3)=>match pF L3 with
    | none=>none
    | some (seed,L4)=>match pT 4096 L4 with
     | none=>none
     | some (tiles,L5)=>match pN L5 with
      | none=>none
      | some (left,L6)=>match pS left L6 with
       | none=>none
       | some (us,L7)=>some (⟨w,h,p,seed,tiles,us⟩,L7)
def St.fits (u:St):Prop:=u.owner<18446744073709551616∧u.kind<18446744073709551616∧u.tile≤2147483647
def Hd.fits (x:Hd):Prop:=x.w≤2147483647∧x.h≤2147483647∧x.players≤2147483647∧x.seed<4294967296∧x.tiles.length≤4096∧x.starts.length<18446744073709551616∧∀u∈x.starts,u.fits
theorem pS_put:∀(us:List St) (ys:List Nat),(∀u∈us,u.fits)→pS us.length (encS us++ys)=some (us,ys):=by
 intro us
 induction us with
 | nil=>intro ys _;rfl
 | cons u us ih=>
  intro ys hf;obtain⟨h1,h2,h3⟩:=hf u (by simp);rw[zw3,encS,zw7,zw7,zw7,pS,pN_put h1];simp only;rw[pN_put h2];simp only;rw[pI_put h3];simp only;rw[ih ys (fun x hx=>hf x (by simp[hx]))]
theorem pH_put {x:Hd} (h:x.fits) (ys:List Nat):pH (encH x++ys)=some (x,ys):=by
 obtain⟨h1,h2,h3,h4,h5,h6,h7⟩:=h;unfold encH;simp only[zw7];unfold pH;rw[pI_put h1];simp only;rw[pI_put h2];simp only;rw[pI_put h3];simp only;rw[pF_put h4];simp only;rw[pT_put h5 (by omega)];simp only;rw[pN_put h6];simp only;rw[pS_put x.starts ys h7]
open Grid (okm)
theorem put_text_nil (s:ByteArray) (hs:s.size≤1000000000) (w:World):Calls Tryz.prog 49 #[.slice none 0 0,.string s] w fun e w'=>∃v,e= .returned v∧Src Tryz.prog 1 22 v (vb s.size++natsOf s).length (c8 (vb s.size++natsOf s)) w'∧Ext w w':=by
 refine(putText none 0 0 [] s w (Bs.none _ _) (fun _=>⟨rfl,rfl⟩) (by omega) (by omega) (by omega) hs).mono ?_;rintro e w' ⟨g,c,rfl,h1,h2,h3,hO,hE⟩;rw[zw17]at*;exact⟨_,rfl,own_src hO (small_app (vb_byte _) (natsOf_small s)),hE⟩
def Sv.st (u:Sv):St:=⟨u.owner,u.kind,u.tile.toNat⟩
def Hv.hd (x:Hv):Hd:=⟨x.w.toNat,x.h.toNat,x.players.toNat,x.seed,natsOf x.tiles,x.starts.map Sv.st⟩
theorem mayB_tiles (p:Int) (T:ByteArray):∀(us:List Sv) (tk:List Int),mayB p T tk us=true→∀u∈us,0≤u.tile∧u.tile.toNat<T.size∧u.kind≤5
 | [],_,_,u,hu=>by cases hu
 | x::us,tk,h,u,hu=>by
  rw[mayB]at h;simp only[zw48,zw49]at h;obtain⟨h1,h2,h3,h4,h5,h6⟩:=h;rcases zw30.1 hu with rfl | hu
  ·unfold walkB at h4
   split at h4
   ·rename_i hq;exact⟨hq.1,hq.2,h3⟩
   ·cases h4
  ·exact mayB_tiles p T us _ h6 u hu
def NRel (W:World) (zs:List Nat) (ws:List Nat) (ab:Nat) (ds:Array Value) (gh:Nat) (bv iv:Value) (wr:World):Prop:=
 ∃(k:Nat),k+gh=3∧iv= .int .i64 (k:Int)∧OwnB W.heap.size wr bv (zs++(ws.take k).flatMap vb)∧Blk wr ab 3 ds∧Off bv ab∧Ext W wr
def URel (W:World) (us:List St) (T:List Nat) (gh:Nat) (bv iv:Value) (wr:World):Prop:=
 ∃(k:Nat) (zs:List Nat),k+gh=us.length∧iv= .int .i64 (k:Int)∧OwnB W.heap.size wr bv zs∧zs.length≤10000+40*k∧Ext W wr∧T=zs++encS (us.drop k)
def HdPost (w:World) (x:Hv) (e:Ending) (w':World):Prop:=
 Ext w w'∧if mayH x then ∃v,e= .returned (.tuple #[v,.int .i64 0])∧OwnB w.heap.size w' v (encH x.hd)else e= .returned (.tuple #[.slice none 0 0,.int .i64 2])
structure En where
 tick:Nat
 player:Nat
 doing:Nat
 kind:Nat
 unit:Nat
 tile:Nat
 target:Nat
def enc1 (last:Nat) (e:En):List Nat:=vb (e.tick-last)++([e.player,e.doing,e.kind]++(vb e.unit++(vb e.tile++vb e.target)))
def encs (last:Nat):List En→List Nat
 | []=>[]
 | e::es=>enc1 last e++encs e.tick es
def En.fits (e:En):Prop:=e.player<256∧e.doing<256∧e.kind<256∧e.unit≤65535∧e.tile≤65535∧e.target≤65535
def each' (last each tick:Nat):Nat:=if tick=last then each+1 else 1
def paced (n:Nat):Nat→Nat→List En→Prop
 | _,_,[]=>True
 | last,each,e::es=>last≤e.tick∧e.tick<n∧each' last each e.tick≤32∧paced n e.tick (each' last each e.tick) es
inductive ER where
 | bad (e:Int)
 | ok (step a b c u t g:Nat) (k:Nat)
def entry (L:List Nat):ER:=
 match lim (vr 0 0 L)with
 | .short=> .bad 3
 | .form=> .bad 4
 | .ok step j=>
  if L.length<j+3 then .bad 3
  else match vr 0 0 (L.drop (j+3))with
   | .short=> .bad 3
   | .form=> .bad 4
   | .ok u j1=>match vr 0 0 (L.drop (j+3+j1))with
    | .short=> .bad 3
    | .form=> .bad 4
    | .ok t j2=>match vr 0 0 (L.drop (j+3+j1+j2))with
     | .short=> .bad 3
     | .form=> .bad 4
     | .ok g j3=> .ok step (L.getD j 0) (L.getD (j+1) 0) (L.getD (j+2) 0) u t g (j+3+j1+j2+j3)
inductive LR where
 | bad (e:Int)
 | ok (es:List En) (rest:List Nat)
def dec (n:Nat):Nat→Nat→Nat→List Nat→LR
 | 0,_,_,L=> .ok [] L
 | left+1,last,each,L=>
  match entry L with
  | .bad e=> .bad e
  | .ok step a b c u t g k=>
   if 65535<u∨65535<t∨65535<g then .bad 4
   else if last+step<n∧each' last each (last+step)≤32 then
    match dec n left (last+step) (each' last each (last+step)) (L.drop k)with
    | .bad e=> .bad e
    | .ok es rest=> .ok (⟨last+step,a,b,c,u,t,g⟩::es) rest
   else .bad 4
theorem enc1_len (last:Nat) (e:En):(enc1 last e).length=(vb (e.tick-last)).length+3+(vb e.unit).length+(vb e.tile).length+(vb e.target).length:=by
 simp[enc1];omega
def Two (w w':World) (p q:Nat):Prop:=w'.os=w.os∧w'.tape=w.tape∧w'.output=w.output∧w.heap.size≤w'.heap.size∧∀k,k<w.heap.size→k≠p→k≠q→w'.heap[k]? =w.heap[k]?
theorem Two.of_set (w:World) (p q:Nat) (u v:Value):Two w ((w.setCell ⟨q,0,none⟩ u).setCell ⟨p,0,none⟩ v) p q:=by
 refine⟨rfl,rfl,rfl,by simp[World.setCell],fun k _ h1 h2=>?_⟩;rw[zw46 _ ⟨p,0,none⟩ v k h1,zw46 _ ⟨q,0,none⟩ u k h2]
theorem Two.of_set3 (w:World) (p q:Nat) (u0 u v:Value):Two w (((w.setCell ⟨q,0,none⟩ u0).setCell ⟨q,0,none⟩ u).setCell ⟨p,0,none⟩ v) p q:=by
 refine⟨rfl,rfl,rfl,by simp[World.setCell],fun k _ h1 h2=>?_⟩;rw[zw46 _ ⟨p,0,none⟩ v k h1,zw46 _ ⟨q,0,none⟩ u k h2,zw46 _ ⟨q,0,none⟩ u0 k h2]
theorem Two.ext {a w w':World} {p q:Nat} (h:Two w w' p q) (hE:Ext a w) (hp:a.heap.size≤p) (hq:a.heap.size≤q):Ext a w':=
 ⟨h.1.trans hE.os,h.2.1.trans hE.tape,h.2.2.1.trans hE.output,zw10 hE.size h.2.2.2.1,fun k hk=>(h.2.2.2.2 k (zw9 hk hE.size) (by omega) (by omega)).trans (hE.block k hk)⟩
def Boxes (w:World) (lb eb nb:Nat) (last:Int) (each:Nat) (n:Int):Prop:=Blk w lb 3 #[.int .i64 last]∧Blk w eb 3 #[.int .i64 (each:Int)]∧Blk w nb 3 #[.int .i64 n]∧lb≠eb∧lb≠nb∧eb≠nb
def eachI (last:Int) (each:Nat) (tick:Int):Nat:=if tick=last then each+1 else 1
theorem pace1 (lb eb nb:Nat) (last tick n:Int) (each:Nat) (w:World) (h:Boxes w lb eb nb last each n) (he:each≤1000000):
  Calls Tryz.prog 133 #[.int .i64 tick,.pointer (some ⟨lb,0,none⟩),.pointer (some ⟨eb,0,none⟩),.pointer (some ⟨nb,0,none⟩)] w fun e w'=>
   e= .returned (.bool (decide (last≤tick∧tick<n∧eachI last each tick≤32)))∧Boxes w' lb eb nb tick (eachI last each tick) n∧Two w w' lb eb:=by
 obtain⟨h1,h2,h3,n1,n2,n3⟩:=h;have a0:=h1.cell 0;have a1:=h1.frozen 0;have b0:=h2.cell 0;have b1:=h2.frozen 0;have d0:=h3.cell 0;simp only[List.getElem?_toArray,List.getElem?_cons_zero]at a0 b0 d0;have m1:=n1.symm;have m2:=n2.symm;have m3:=n3.symm;have H1:=zh h1;have H2:=zh h2;have H3:=zh h3;clear h1 h2 h3;generalize hb:decide (last≤tick∧tick<n∧eachI last each tick≤32)=b;by_cases ht:tick=last
 ·subst ht
  have hE:Hid (eachI tick each tick=each+1):=zh (by simp[eachI]);rw[hE.out]at hb ⊢;have K:Hid (Boxes ((w.setCell ⟨eb,0,none⟩ (.int .i64 ((each:Int)+1))).setCell ⟨lb,0,none⟩ (.int .i64 tick)) lb eb nb tick (each+1) n∧Two w ((w.setCell ⟨eb,0,none⟩ (.int .i64 ((each:Int)+1))).setCell ⟨lb,0,none⟩ (.int .i64 tick)) lb eb):=zh<| by
   refine⟨⟨?_,?_,?_,n1,n2,n3⟩,Two.of_set _ _ _ _ _⟩
   ·exact(H1.out.far (p:=⟨eb,0,none⟩) n1 (.int .i64 ((each:Int)+1))).set_ 0 (.int .i64 tick)
   ·exact(H2.out.set_ 0 (.int .i64 ((each:Int)+1))).far (p:=⟨lb,0,none⟩) m1 (.int .i64 tick)
   ·exact(H3.out.far (p:=⟨eb,0,none⟩) m3 _).far (p:=⟨lb,0,none⟩) m2 _
  by_cases hn:tick<n
  ·by_cases h32:(each:Int)+1≤32
   ·have hb':Hid (b=true):=zh (by rw[←hb];exact zw15 ⟨by omega,hn,by omega⟩)
    clear hb;go_enter Tryz.func133,Tryz.ntmps133;go_wp2_with fail;go_ret;exact⟨by rw[hb'.out];rfl,K.out⟩
   ·have hb':Hid (b=false):=zh (by rw[←hb];exact zw14 (by omega))
    clear hb;go_enter Tryz.func133,Tryz.ntmps133;go_wp2_with fail;go_ret;exact⟨by rw[hb'.out];rfl,K.out⟩
  ·have hb':Hid (b=false):=zh (by rw[←hb];exact zw14 (by omega))
   clear hb;go_enter Tryz.func133,Tryz.ntmps133;go_wp2_with fail;go_ret;exact⟨by rw[hb'.out];rfl,K.out⟩
 ·have hE:Hid (eachI last each tick=1):=zh (by simp[eachI,ht])
  rw[hE.out]at hb ⊢;have K:Hid (Boxes (((w.setCell ⟨eb,0,none⟩ (.int .i64 0)).setCell ⟨eb,0,none⟩ (.int .i64 1)).setCell ⟨lb,0,none⟩ (.int .i64 tick)) lb eb nb tick 1 n∧Two w (((w.setCell ⟨eb,0,none⟩ (.int .i64 0)).setCell ⟨eb,0,none⟩ (.int .i64 1)).setCell ⟨lb,0,none⟩ (.int .i64 tick)) lb eb):=zh<| by
   refine⟨⟨?_,?_,?_,n1,n2,n3⟩,Two.of_set3 _ _ _ _ _ _⟩
   ·exact((H1.out.far (p:=⟨eb,0,none⟩) n1 _).far (p:=⟨eb,0,none⟩) n1 _).set_ 0 (.int .i64 tick)
   ·exact((H2.out.set_ 0 (.int .i64 0)).set_ 0 (.int .i64 1)).far (p:=⟨lb,0,none⟩) m1 (.int .i64 tick)
   ·exact((H3.out.far (p:=⟨eb,0,none⟩) m3 _).far (p:=⟨eb,0,none⟩) m3 _).far (p:=⟨lb,0,none⟩) m2 _
  by_cases hl:last≤tick
  ·by_cases hn:tick<n
   ·have hb':Hid (b=true):=zh (by rw[←hb];exact zw15 ⟨hl,hn,by omega⟩)
    clear hb;go_enter Tryz.func133,Tryz.ntmps133;go_wp2_with fail;go_ret;exact⟨by rw[hb'.out];rfl,K.out⟩
   ·have hb':Hid (b=false):=zh (by rw[←hb];exact zw14 (by omega))
    clear hb;go_enter Tryz.func133,Tryz.ntmps133;go_wp2_with fail;go_ret;exact⟨by rw[hb'.out];rfl,K.out⟩
  ·have hb':Hid (b=false):=zh (by rw[←hb];exact zw14 (by omega))
   clear hb;go_enter Tryz.func133,Tryz.ntmps133;go_wp2_with fail;go_ret;exact⟨by rw[hb'.out];rfl,K.out⟩
def Paced (w:World) (base:Nat) (v:Value) (last:Int) (each:Nat) (n:Int):Prop:=∃lb eb nb,v= .func (.func 133) #[] #[.pointer (some ⟨lb,0,none⟩),.pointer (some ⟨eb,0,none⟩),.pointer (some ⟨nb,0,none⟩)]∧Boxes w lb eb nb last each n∧base≤lb∧base≤eb∧base≤nb
theorem ticks_any (n:Int) (w:World):Calls Tryz.prog 102 #[.int .i64 n] w fun e w'=>e= .returned (.bool (decide (0≤n∧n≤4096)))∧Ext w w':=by
 generalize hb:decide (0≤n∧n≤4096)=b;by_cases h1:0≤n
 ·by_cases h2:n≤4096
  ·have hb':Hid (b=true):=zh (by rw[←hb];exact zw15 ⟨h1,h2⟩)
   clear hb;go_enter Tryz.func102,Tryz.ntmps102;go_wp2_with fail;go_ret;exact⟨by rw[hb'.out];rfl,zxr _⟩
  ·have hb':Hid (b=false):=zh (by rw[←hb];exact zw14 (by omega))
   clear hb;go_enter Tryz.func102,Tryz.ntmps102;go_wp2_with fail;go_ret;exact⟨by rw[hb'.out];rfl,zxr _⟩
 ·have hb':Hid (b=false):=zh (by rw[←hb];exact zw14 (by omega))
  clear hb;go_enter Tryz.func102,Tryz.ntmps102;go_wp2_with fail;go_ret;exact⟨by rw[hb'.out];rfl,zxr _⟩
theorem pace (n:Int) (w:World):Calls Tryz.prog 103 #[.int .i64 n] w fun e w'=>∃v,e= .returned v∧Paced w' w.heap.size v 0 0 n∧Ext w w':=by
 go_enter Tryz.func103,Tryz.ntmps103;go_wp2_with fail;go_ret;have h1:=(Blk.new w 3 #[.int .i64 n]).alloc (.cells #[.int .i64 0] 3);have h2:=h1.alloc (.cells #[.int .i64 0] 3);have h3:=(Blk.new (w.alloc (.cells #[.int .i64 n] 3)) 3 #[.int .i64 0]).alloc (.cells #[.int .i64 0] 3);have h4:=Blk.new ((w.alloc (.cells #[.int .i64 n] 3)).alloc (.cells #[.int .i64 0] 3)) 3 #[.int .i64 0];have hz:∀(u:World) (o:Obj),(u.alloc o).heap.size=u.heap.size+1:=fun u o=>zw22 u o;rw[hz]at h3;rw[hz,hz]at h4;exact⟨_,rfl,⟨w.heap.size+1,w.heap.size+1+1,w.heap.size,rfl,⟨h3,h4,h2,by omega,by omega,by omega⟩,by omega,by omega,zw8 _⟩,zxa (zxa (zxa (zxr _) _) _) _⟩
def RSt (w:World) (g:Nat) (A:Option Addr) (n c:Nat) (xs:List Nat) (st:Option (List Nat)):Prop:=
 ∃(at_:Nat) (e:Int),at_≤n∧Rdr w g (.slice A n c) at_ e∧RB w g A n c xs∧n≤4000000000∧(match st with | some L=>e=0∧L=xs.drop at_ | none=>e≠0)
def nx {α:Type} (f:List Nat→Option (α × List Nat)) (st:Option (List Nat)):Option (List Nat):=(st.bind f).map (·.2)
def va {α:Type} (f:List Nat→Option (α × List Nat)) (d:α) (st:Option (List Nat)):α:=((st.bind f).map (·.1)).getD d
theorem va_none {α:Type} {f:List Nat→Option (α × List Nat)} {d:α} {st:Option (List Nat)} (h:st.bind f=none):va f d st=d∧nx f st=none:=by simp[va,nx,h]
theorem va_some {α:Type} {f:List Nat→Option (α × List Nat)} {d:α} {st:Option (List Nat)} {x:α} {R:List Nat} (h:st.bind f=some (x,R)):va f d st=x∧nx f st=some R:=by simp[va,nx,h]
theorem RSt.lt {w:World} {g:Nat} {A:Option Addr} {n c:Nat} {xs:List Nat} {st:Option (List Nat)} (h:RSt w g A n c xs st):g<w.heap.size:=by
 obtain⟨a,e,_,hr,_⟩:=h;exact Blk.lt hr
theorem RSt.small {w:World} {g:Nat} {A:Option Addr} {n c:Nat} {xs L:List Nat} (h:RSt w g A n c xs (some L)):∀x∈L,x<256:=by
 obtain⟨a,e,_,_,hB,_,hm⟩:=h;obtain⟨_,rfl⟩:=hm;exact fun x hx=>mem_small hB.1.2.1 x (List.mem_of_mem_drop hx)
theorem RSt.far {w w':World} {g:Nat} {A:Option Addr} {n c:Nat} {xs:List Nat} {st:Option (List Nat)} (h:RSt w g A n c xs st) (he:w'.heap[g]? =w.heap[g]?) (hb:∀a,A=some a→0<n→∀i,w'.cell? ⟨a.block,i,none⟩=w.cell? ⟨a.block,i,none⟩) (hs:w.heap.size≤w'.heap.size):RSt w' g A n c xs st:=by
 obtain⟨a,e,h1,hr,hB,h4,hm⟩:=h;refine⟨a,e,h1,he.trans hr,⟨⟨hB.1.1,hB.1.2.1,fun hp=>?_⟩,hB.2⟩,h4,hm⟩;obtain⟨b,o,e1,hl,hc⟩:=hB.1.2.2 hp;exact⟨b,o,e1,zw9 hl hs,fun j hj=>(hb _ e1 hp _).trans (hc j hj)⟩
theorem RSt.ext {w w':World} {g:Nat} {A:Option Addr} {n c:Nat} {xs:List Nat} {st:Option (List Nat)} (h:RSt w g A n c xs st) (hE:Ext w w'):RSt w' g A n c xs st:=by
 obtain⟨a,e,h1,hr,hB,h4,hm⟩:=h;refine⟨a,e,h1,hr.ext hE,⟨hB.1.ext hE,hB.2⟩,h4,hm⟩
theorem num_st (g n c:Nat) (A:Option Addr) (xs:List Nat) (st:Option (List Nat)) (w:World) (h:RSt w g A n c xs st):
  Calls Tryz.prog 94 #[.pointer (some ⟨g,0,none⟩)] w fun e w'=>e= .returned (.int .u64 ((va pN 0 st:Nat):Int))∧va pN 0 st<18446744073709551616∧RSt w' g A n c xs (nx pN st)∧w.grownBy w' (some g):=by
 have hsm:=fun L (e:st=some L)=>RSt.small (e▸h);obtain⟨at_,e,h1,hr,hB,h4,hm⟩:=h
 cases st with
 | none=>
  refine(num_err g at_ _ e w hr (zw12.2 hm)).mono ?_;rintro e' w' ⟨rfl,hE⟩;exact⟨rfl,by simp[va],⟨at_,e,h1,hr.ext hE,⟨hB.1.ext hE,hB.2⟩,h4,hm⟩,gb_ext hE _⟩
 | some L=>
  obtain⟨rfl,rfl⟩:=hm;refine(num g n c at_ A xs w hr hB.1 h1 h4).mono ?_;rintro e' w' ⟨z,j,err,rfl,hz,hE,hm⟩;cases hv:vr 0 0 (xs.drop at_)with
  | short=>
   have q:=va_none (d:=0) (show(some (xs.drop at_)).bind pN=none by simp[pN,hv]);rw[hv]at hm;obtain⟨rfl,rfl,rfl⟩:=hm;rw[q.1,q.2];exact⟨rfl,by omega,⟨at_,3,h1,hE.1,hB.eff hE.2,h4,by simp⟩,hE.2⟩
  | form=>
   have q:=va_none (d:=0) (show(some (xs.drop at_)).bind pN=none by simp[pN,hv]);rw[hv]at hm;obtain⟨rfl,rfl,rfl⟩:=hm;rw[q.1,q.2];exact⟨rfl,by omega,⟨at_,4,h1,hE.1,hB.eff hE.2,h4,by simp⟩,hE.2⟩
  | ok v k=>
   have q:=va_some (d:=0) (show(some (xs.drop at_)).bind pN=some (v,(xs.drop at_).drop k)by simp[pN,hv]);rw[hv]at hm;obtain⟨rfl,rfl,rfl⟩:=hm;have hk:=(vr_ok (hsm _ rfl) hv).2.2.2;rw[zw1,hB.1.1]at hk;rw[q.1,q.2];exact⟨rfl,hz,⟨at_+j,0,by omega,hE.1,hB.eff hE.2,h4,rfl,by rw[zw31]⟩,hE.2⟩
theorem int_st (g n c:Nat) (A:Option Addr) (xs:List Nat) (st:Option (List Nat)) (w:World) (h:RSt w g A n c xs st):
  Calls Tryz.prog 60 #[.pointer (some ⟨g,0,none⟩)] w fun e w'=>e= .returned (.int .i64 ((va pI 0 st:Nat):Int))∧va pI 0 st≤2147483647∧RSt w' g A n c xs (nx pI st)∧w.grownBy w' (some g):=by
 have hsm:=fun L (e:st=some L)=>RSt.small (e▸h);obtain⟨at_,e,h1,hr,hB,h4,hm⟩:=h
 cases st with
 | none=>
  refine(int_err g at_ _ e w hr (zw12.2 hm)).mono ?_;rintro e' w' ⟨rfl,hE⟩;exact⟨rfl,by simp[va],⟨at_,e,h1,hr.ext hE,⟨hB.1.ext hE,hB.2⟩,h4,hm⟩,gb_ext hE _⟩
 | some L=>
  obtain⟨rfl,rfl⟩:=hm;refine(Wire.int g n c at_ A xs w hr hB.1 h1 h4).mono ?_;rintro e' w' ⟨z,j,err,rfl,hz,hE,hm⟩;cases hv:lim (vr 0 0 (xs.drop at_))with
  | short=>
   have q:=va_none (d:=0) (show(some (xs.drop at_)).bind pI=none by simp[pI,hv]);rw[hv]at hm;obtain⟨rfl,rfl,rfl⟩:=hm;rw[q.1,q.2];exact⟨rfl,by omega,⟨at_,3,h1,hE.1,hB.eff hE.2,h4,by simp⟩,hE.2⟩
  | form=>
   have q:=va_none (d:=0) (show(some (xs.drop at_)).bind pI=none by simp[pI,hv]);rw[hv]at hm;obtain⟨rfl,rfl,rfl⟩:=hm;rw[q.1,q.2];exact⟨rfl,by omega,⟨at_,4,h1,hE.1,hB.eff hE.2,h4,by simp⟩,hE.2⟩
  | ok v k=>
   have q:=va_some (d:=0) (show(some (xs.drop at_)).bind pI=some (v,(xs.drop at_).drop k)by simp[pI,hv]);have hk:at_+k≤n:=by
    cases hr:vr 0 0 (xs.drop at_)with
    | short=>rw[hr]at hv;cases hv
    | form=>rw[hr]at hv;cases hv
    | ok x y=>
     have hk:=(vr_ok (hsm _ rfl) hr).2.2.2;rw[hr]at hv;simp only[lim]at hv
     split at hv<;>cases hv
     rw[zw1,hB.1.1]at hk;omega
   rw[hv]at hm;obtain⟨rfl,rfl,rfl⟩:=hm;rw[q.1,q.2];exact⟨rfl,hz,⟨at_+j,0,hk,hE.1,hB.eff hE.2,h4,rfl,by rw[zw31]⟩,hE.2⟩
theorem be_lt {ys:List Nat} (h:∀c∈ys,c<256) (hl:ys.length=4):be ys<4294967296:=(fx_be4 h hl).2
theorem fixed_st (g n c:Nat) (A:Option Addr) (xs:List Nat) (st:Option (List Nat)) (w:World) (h:RSt w g A n c xs st):
  Calls Tryz.prog 92 #[.pointer (some ⟨g,0,none⟩)] w fun e w'=>e= .returned (.int .u32 ((va pF 0 st:Nat):Int))∧va pF 0 st<4294967296∧RSt w' g A n c xs (nx pF st)∧w.grownBy w' (some g):=by
 have hsm:=fun L (e:st=some L)=>RSt.small (e▸h);obtain⟨at_,e,h1,hr,hB,h4,hm⟩:=h
 cases st with
 | none=>
  refine(fixed_err g at_ _ e w hr (zw12.2 hm)).mono ?_;rintro e' w' ⟨rfl,hE⟩;exact⟨rfl,by simp[va],⟨at_,e,h1,hr.ext hE,⟨hB.1.ext hE,hB.2⟩,h4,hm⟩,gb_ext hE _⟩
 | some L=>
  obtain⟨rfl,rfl⟩:=hm;refine(fixed g n c at_ A xs w hr hB h1 h4).mono ?_;rintro e' w' (⟨hl,rfl,hE⟩ | ⟨hl,rfl,hE⟩)
  ·have q:=va_some (d:=0) (show(some (xs.drop at_)).bind pF=some (be ((xs.drop at_).take 4),(xs.drop at_).drop 4)by simp only[Option.bind_some,pF,if_pos hl])
   rw[q.1,q.2];have hk:=hl;rw[zw1,hB.1.1]at hk;exact⟨rfl,be_lt (fun x hx=>hsm _ rfl x (List.mem_of_mem_take hx)) (by rw[zw2];omega),⟨at_+4,0,by omega,hE.1,hB.eff hE.2,h4,rfl,by rw[zw31]⟩,hE.2⟩
  ·have q:=va_none (d:=0) (show(some (xs.drop at_)).bind pF=none by simp only[Option.bind_some,pF,if_neg (show ¬4≤(xs.drop at_).length by omega)])
   rw[q.1,q.2];exact⟨rfl,by omega,⟨at_,3,h1,hE.1,hB.eff hE.2,h4,by simp⟩,hE.2⟩
theorem tr_eq (L:List Nat) (most:Nat) (hL:∀c∈L,c<256):(match tr L most with | .bad _=>pT most L=none | .ok ys k=>pT most L=some (ys,L.drop k)∧k≤L.length):=by
 unfold tr pT pN
 cases hv:vr 0 0 L with
 | short=>rfl
 | form=>rfl
 | ok z k=>
  have hk:=(vr_ok hL hv).2.2.2;simp only;by_cases h1:z≤most
  ·rw[if_neg (by omega),if_pos h1]
   unfold pB;rw[zw1];by_cases h2:L.length-k<z
   ·rw[if_pos h2,if_neg (by omega)]
   ·rw[if_neg h2,if_pos (by omega),zw31]
    exact⟨rfl,by omega⟩
  ·rw[if_pos (by omega),if_neg h1]
theorem text_err (g at_:Nat) (s:Value) (e0 most:Int) (w:World) (h:Rdr w g s at_ e0) (he:(e0==0)=false):
  Calls Tryz.prog 93 #[.pointer (some ⟨g,0,none⟩),.int .i64 most] w fun e w'=>e= .returned (.string ⟨#[]⟩)∧Ext w w':=by
 have ha:=zxa (zxr w) (.cells #[.pointer (some ⟨g,0,none⟩)] 133);have hb:=zxa (zxr (w.alloc (.cells #[.pointer (some ⟨g,0,none⟩)] 133))) (.cells #[.int .i64 most] 3);have HC:=zh (fun F=>reading_err_70 g at_ s F e0 _ ((h.ext ha).ext hb) he);clear h he;have HA:=zh ha;have HB:=zh hb;clear ha hb;go_enter Tryz.func93,Tryz.ntmps93;go_wp2_with fail;refine(HC.out _).mono ?_;rintro e w3 ⟨rfl,hE3⟩;have HE3:=zh hE3;clear hE3;go_wp2_with fail;go_ret;exact⟨rfl,zxt (zxt HA.out HB.out) HE3.out⟩
theorem text_st (g n c most:Nat) (hmo:most≤1000000) (A:Option Addr) (xs:List Nat) (st:Option (List Nat)) (w:World) (h:RSt w g A n c xs st):
  Calls Tryz.prog 93 #[.pointer (some ⟨g,0,none⟩),.int .i64 (most:Int)] w fun e w'=>e= .returned (.string (strOf (va (pT most) [] st)))∧RSt w' g A n c xs (nx (pT most) st)∧w.grownBy w' (some g):=by
 have hsm:=fun L (e:st=some L)=>RSt.small (e▸h);obtain⟨at_,e,h1,hr,hB,h4,hm⟩:=h
 cases st with
 | none=>
  refine(text_err g at_ _ e (most:Int) w hr (zw12.2 hm)).mono ?_;rintro e' w' ⟨rfl,hE⟩;exact⟨rfl,⟨at_,e,h1,hr.ext hE,⟨hB.1.ext hE,hB.2⟩,h4,hm⟩,gb_ext hE _⟩
 | some L=>
  obtain⟨rfl,rfl⟩:=hm;refine(text g n c at_ (most:Int) (by omega) (by omega) A xs w hr hB h1 h4).mono ?_;intro e' w' hp;have ht:=tr_eq (xs.drop at_) most (hsm _ rfl);unfold TPost at hp;cases hv:tr (xs.drop at_) (most:Int)with
  | bad f=>
   rw[hv]at hp ht;obtain⟨rfl,hE⟩:=hp;have q:=va_none (d:=[]) (show(some (xs.drop at_)).bind (pT most)=none from ht);rw[q.1,q.2];exact⟨rfl,⟨at_,f,h1,hE.1,hB.eff hE.2,h4,tr_bad hv⟩,hE.2⟩
  | ok ys k=>
   rw[hv]at hp ht;obtain⟨rfl,hE⟩:=hp;have q:=va_some (d:=[]) (show(some (xs.drop at_)).bind (pT most)=some (ys,(xs.drop at_).drop k)from ht.1);rw[q.1,q.2];have hk:=ht.2;rw[zw1,hB.1.1]at hk;exact⟨rfl,⟨at_+k,0,by omega,hE.1,hB.eff hE.2,h4,rfl,by rw[zw31]⟩,hE.2⟩
theorem bytes_st (g n c m:Nat) (hm0:m≤1000000) (A:Option Addr) (xs:List Nat) (st:Option (List Nat)) (w:World) (h:RSt w g A n c xs st):
  Calls Tryz.prog 134 #[.pointer (some ⟨g,0,none⟩),.int .i64 (m:Int)] w fun e w'=>(∃v,e= .returned v∧((st.bind (pB m)=none∧v= .slice none 0 0)∨∃ys R,st.bind (pB m)=some (ys,R)∧GotF w.heap.size w' ys v))∧RSt w' g A n c xs (nx (pB m) st)∧w.grownBy w' (some g):=by
 have hsm:=fun L (e:st=some L)=>RSt.small (e▸h);obtain⟨at_,e,h1,hr,hB,h4,hm⟩:=h
 cases st with
 | none=>
  refine(bytes_err g at_ _ (m:Int) e w hr (zw12.2 hm)).mono ?_;rintro e' w' ⟨rfl,hE⟩;exact⟨⟨_,rfl,.inl ⟨rfl,rfl⟩⟩,⟨at_,e,h1,hr.ext hE,⟨hB.1.ext hE,hB.2⟩,h4,hm⟩,gb_ext hE _⟩
 | some L=>
  obtain⟨rfl,rfl⟩:=hm;refine(bytesF g n c at_ (m:Int) (by omega) (by omega) A xs w hr hB h1 h4).mono ?_;rintro e' w' (⟨h0,_,_⟩ | ⟨_,hl,rfl,hE⟩ | ⟨_,hl,⟨v,rfl,hG⟩,hE⟩)
  ·omega
  ·have q0:(some (xs.drop at_)).bind (pB m)=none:=by simp only[Option.bind_some,pB,if_neg (show ¬m≤(xs.drop at_).length by omega)]
   have q:=va_none (d:=[]) q0;rw[q.2];exact⟨⟨_,rfl,.inl ⟨q0,rfl⟩⟩,⟨at_,3,h1,hE.1,hB.eff hE.2,h4,by simp⟩,hE.2⟩
  ·have q0:(some (xs.drop at_)).bind (pB m)=some ((xs.drop at_).take m,(xs.drop at_).drop m):=by simp only[Option.bind_some,pB,if_pos (show m≤(xs.drop at_).length by omega)]
   have q:=va_some (d:=[]) q0;rw[q.2];have hk:=hl;rw[zw1,hB.1.1]at hk;rw[zw35]at hG hE;exact⟨⟨_,rfl,.inr ⟨_,_,q0,hG⟩⟩,⟨at_+m,0,by omega,hE.1,hB.eff hE.2,h4,rfl,by rw[zw31]⟩,hE.2⟩
theorem err_st (g n c:Nat) (A:Option Addr) (xs:List Nat) (st:Option (List Nat)) (w:World) (h:RSt w g A n c xs st):
  Calls Tryz.prog 95 #[.pointer (some ⟨g,0,none⟩)] w fun e w'=>∃x:Int,e= .returned (.int .i64 x)∧(x≠0↔st=none)∧w=w':=by
 obtain⟨at_,e,h1,hr,hB,h4,hm⟩:=h;refine(err_any g _ at_ e w hr).mono ?_;rintro e' w' ⟨rfl,rfl⟩;refine⟨e,rfl,?_,rfl⟩
 cases st with
 | none=>simpa using hm
 | some L=>simp[hm.1]
theorem end_st (g n c:Nat) (A:Option Addr) (xs:List Nat) (st:Option (List Nat)) (w:World) (h:RSt w g A n c xs st):
  Calls Tryz.prog 61 #[.pointer (some ⟨g,0,none⟩)] w fun e w'=>∃x:Int,e= .returned (.int .i64 x)∧(x=0↔st=some [])∧Ext w w':=by
 obtain⟨at_,e,h1,hr,hB,h4,hm⟩:=h
 cases st with
 | none=>
  refine(end_bad g _ at_ e w hr (zw12.2 hm)).mono ?_;rintro e' w' ⟨rfl,hE⟩;exact⟨e,rfl,by simpa using hm,hE⟩
 | some L=>
  obtain⟨rfl,rfl⟩:=hm;refine(end_ok g n c A at_ w hr h1 h4).mono ?_;rintro e' w' ⟨rfl,hE⟩;refine⟨_,rfl,?_,hE⟩;have hl:(xs.drop at_).length=n-at_:=by rw[zw1,hB.1.1]
  by_cases he:at_=n
  ·rw[if_pos he]
   simp only[true_iff,Option.some.injEq];exact zw19 (by omega)
  ·rw[if_neg he]
   refine⟨fun h=>absurd h (by decide),fun h=>?_⟩;rw[zw13 h,zw26]at hl;omega
theorem of_st (A:Option Addr) (n c:Nat) (xs:List Nat) (w:World) (hB:Bs w A n xs) (hnil:A=none→n=0∧c=0) (hn:n≤4000000000):
  Calls Tryz.prog 59 #[.slice A n c] w fun e w'=>∃g A' c',e= .returned (.pointer (some ⟨g,0,none⟩))∧w.heap.size≤g∧RSt w' g A' n c' xs (some xs)∧Ext w w'∧(0<n→∀a,A'=some a→w.heap.size≤a.block∧a.block≠g):=by
 refine(ofF A n c xs w hB hnil hn).mono ?_;rintro e w' ⟨g,A',c',rfl,hg,hr,hRB,hE,hf⟩;exact⟨g,A',c',rfl,hg,⟨0,0,Nat.zero_le _,hr,hRB,hn,rfl,rfl⟩,hE,fun hp a ha=>⟨hf hp a ha,hRB.2.2.2.2 hp a ha⟩⟩
end Go.Proofs.YtbopblbhjcemaaaGreatDoor.Log
