
import Derived.Test.YtidnboeihkeljaaGreatDoorF28
import Derived.Test.YtidnboeihkeljaaGreatDoorFilY
import Derived.Test.YtidnboeihkeljaaGreatDoorTrkZ
set_option maxHeartbeats 16000000
set_option maxRecDepth 100000
set_option linter.all false
open Go.ChangeShapes Go.WideShapes Go.ChangeAt Go.RowKit
namespace Go.Proofs.YtidnboeihkeljaaGreatDoor.Fil
open Wire
open Rec
open Grid (okm)
open Log (Hv Sv cS cH mayH mayB walkB)
theorem walkB_at {T:ByteArray} {t:Nat} (h:t<T.size):walkB T (t:Int)=((T[t].toNat:Int)==0):=by
 unfold walkB;rw[dif_pos ⟨by omega,by simpa using h⟩];rfl
theorem walkB_no {T:ByteArray} {t:Int} (h:t<0∨(T.size:Int)≤t):walkB T t=false:=by
 unfold walkB;rw[dif_neg];omega
def ARel (w0:World) (us:List Sv) (xp:Int) (xt:ByteArray) (R:Bool) (m gh:Nat) (iv:Value) (wr:World):Prop:=
 ∃(k:Nat) (tk:List Int),k+gh=m∧iv= .int .i64 (k:Int)∧(∀z,z∈tk↔∃j,∃h:j<us.length,j<k∧us[j].tile=z)∧Ext w0 wr∧R=mayB xp xt tk (us.drop k)
theorem rmay17 (x:Hv) (A:Option Addr) (m c:Nat) (w:World) (hB:RowR w A m 3 cS x.starts) (hf:∀u∈x.starts,u.fits) (hs:x.tiles.size≤5000) (hm:m≤1000000)
  (hw1: -9223372036854775808≤x.w) (hw2:x.w≤9223372036854775807) (hh1: -9223372036854775808≤x.h) (hh2:x.h≤9223372036854775807):
  Calls Tryz.prog 35 #[.agg (cH x (.slice A m c))] w fun e w'=>e= .returned (.bool (decide (mayH x)))∧Ext w w':=by
 generalize hR:decide (mayH x)=R;replace hR:=zh hR;obtain⟨xw,xh,xp,xs,xt,us⟩:=x;simp only at*;have HB:=zh hB;have HLEN:=zh hB.1;have HF:=zh hf;have HMY:Hid (∀W,Calls Tryz.prog 67 #[.int .i64 xw,.int .i64 xh,.string xt] W fun e W'=>e= .returned (.bool (decide (okm xw xh xt)))∧W=W'):=zh (fun W=>Grid.may_any xw xh xt W hs hw1 hw2 hh1 hh2);clear hB hf hw1 hw2 hh1 hh2;generalize hob:decide (okm xw xh xt)=ob at HMY;have HOB:=zh hob;clear hob;unfold cH;simp only;have HE0:=zh (zxa (zxr w) (.cells #[.int .i64 xw,.int .i64 xh,.int .i64 xp,.int .u32 (xs:Int),.string xt,.slice A m c] 25));have HH0:=zh (Blk.new w 25 #[.int .i64 xw,.int .i64 xh,.int .i64 xp,.int .u32 (xs:Int),.string xt,.slice A m c]);go_enter Tryz.func35,Tryz.ntmps35;go_upto_region 1 with fail;obtain⟨w0,hw0⟩:∃q,q=w.alloc (.cells #[.int .i64 xw,.int .i64 xh,.int .i64 xp,.int .u32 (xs:Int),.string xt,.slice A m c] 25):=⟨_,rfl⟩;rw[←hw0]at HE0 HH0 ⊢;clear hw0;generalize w.heap.size=hb at*;have HDC:Hid (∀W,Ext w0 W→W.cell? ⟨hb,2,none⟩=some (.int .i64 xp)∧W.cell? ⟨hb,4,none⟩=some (.string xt)∧W.cell? ⟨hb,5,none⟩=some (.slice A m c)):=zh (fun W e=>⟨kc e (HH0.out.cell 2),kc e (HH0.out.cell 4),kc e (HH0.out.cell 5)⟩);have d0:=HH0.out.cell 0;have d1:=HH0.out.cell 1;simp only[zzD,zzE,zzF]at d0 d1;obtain⟨d2,d4,d5⟩:=HDC.out w0 (zxr _);go_wp2_with fail;refine(HMY.out _).mono ?_;rintro e w1 ⟨rfl,rfl⟩
 cases ob with
 | false=>
  have HRF:Hid (R=false):=zh (by rw[←hR.out];exact zw14 (fun h=>of_decide_eq_false HOB.out h.1));go_wp2_with fail;go_ret;exact⟨by rw[HRF.out];rfl,HE0.out⟩
 | true=>
 by_cases hp1:xp<1
 ·have HRF:Hid (R=false):=zh (by rw[←hR.out];exact zw14 (fun h=>by have:=h.2.1;simp only at this;omega))
  go_wp2_with fail;go_ret;exact⟨by rw[HRF.out];rfl,HE0.out⟩
 by_cases hp4:4<xp
 ·have HRF:Hid (R=false):=zh (by rw[←hR.out];exact zw14 (fun h=>by have:=h.2.2.1;simp only at this;omega))
  go_wp2_with fail;go_ret;exact⟨by rw[HRF.out];rfl,HE0.out⟩
 by_cases hm8:128<m
 ·have HRF:Hid (R=false):=zh (by rw[←hR.out];exact zw14 (fun h=>by have:=h.2.2.2.1;have h2:=HLEN.out;simp only at this h2;omega))
  have hm8':(128:Int)<(m:Int):=by omega
  go_wp2_with fail;go_ret;exact⟨by rw[HRF.out];rfl,HE0.out⟩
 have HRR:Hid (R=mayB xp xt [] (us.drop 0)):=zh (by
  rw[←hR.out,zw28];by_cases hb:mayB xp xt [] us=true
  ·rw[hb];exact zw15 ⟨of_decide_eq_true HOB.out,by simp only;omega,by simp only;omega,by have h2:=HLEN.out;simp only at h2 ⊢;omega,hb⟩
  ·rw[Bool.eq_false_iff.2 hb];exact zw14 (fun h=>hb h.2.2.2.2))
 have hm9:¬(128:Int)<(m:Int):=by omega
 go_wp2_with fail;clear d0 d1 d2 d4 d5
 go_loopg [3] m (fun gh iv wr=>ARel w0 us xp xt R m gh iv wr)
 case atStart=>exact⟨0,[],by omega,rfl,fun z=>⟨fun h=>(by cases h),fun⟨j,_,h,_⟩=>absurd h (by omega)⟩,zxr _,HRR.out⟩
 case round=>
  obtain⟨k,tk,hk,rfl,htk,hE,hRk⟩:=hrel;obtain⟨wi,rfl⟩:∃wi:World,wi=wr:=⟨_,rfl⟩;obtain⟨gh,rfl⟩:∃gh:Nat,gh=gk:=⟨_,rfl⟩;have HE:=zh hE;have HRK:=zh hRk;have HTK:=zh htk;clear hE hRk htk HRR hR;have y1:(0:Int)≤(k:Int):=by omega
  obtain⟨d2,d4,d5⟩:=HDC.out wi HE.out;by_cases hlt:k<m
  ·have y2:(k:Int)<(m:Int):=by omega
   have hke:k<us.length:=by rw[HLEN.out];exact hlt
   obtain⟨b,o,rfl,hbw,hc⟩:=HB.out.2 (by omega);have HEI:=zh (zxt HE0.out HE.out);have hq:=fun j hj=>(HEI.out.cell (p:=⟨b,o+k*3+j,none⟩) hbw).trans (hc k hke j hj);have HALL:Hid (∀j (hj:j<us.length),∀W,Ext w W→W.cell? ⟨b,o+j*3+2,none⟩=some (.int .i64 us[j].tile)):=zh (fun j hj W e=>kc e (hc j hj 2 (by omega)));have hd:us.drop k=us[k]::us.drop (k+1):=zw20 hke;have HTN:Hid (∀z,z∈us[k].tile::tk↔∃j,∃h:j<us.length,j<k+1∧us[j].tile=z):=zh (fun z=>by
    rw[zw30,HTK.out z];constructor
    ·rintro (rfl | ⟨j,h,h1,h2⟩)
     ·exact⟨k,hke,by omega,rfl⟩
     ·exact⟨j,h,by omega,h2⟩
    ·rintro ⟨j,h,h1,h2⟩
     by_cases hj:j=k
     ·subst hj;exact .inl h2.symm
     ·exact .inr ⟨j,h,by omega,h2⟩)
   have hf1:=(HF.out _ (zw25 hke)).1;generalize us[k]=u at hq hd HTN hf1;have HR1:Hid (R=mayB xp xt tk (u::us.drop (k+1))):=zh (by rw[HRK.out,hd]);obtain⟨u1,u2,u3⟩:=u;have a0:=hq 0 (by omega);have a1:=hq 1 (by omega);have a2:=hq 2 (by omega);simp only[cS,Nat.add_zero,List.getElem?_cons_zero,List.getElem?_cons_succ]at a0 a1 a2 HTN hf1;have zw:IntKind.i64.wrap (u1:Int)=(u1:Int):=IntWalk.i64_in _ (by omega);rw[mayB]at HR1;simp only at HR1;clear hc hq hd HRK;have HHX:=zh (Blk.new wi 99 #[.int .u8 (u1:Int),.int .u8 (u2:Int),.int .i64 u3]);have HEX:=zh (zxa HE.out (.cells #[.int .u8 (u1:Int),.int .u8 (u2:Int),.int .i64 u3] 99));go_upto_region 7 with fail;obtain⟨wx,hwx⟩:∃q,q=wi.alloc (.cells #[.int .u8 (u1:Int),.int .u8 (u2:Int),.int .i64 u3] 99):=⟨_,rfl⟩;rw[←hwx]at HHX HEX ⊢;clear hwx a0 a1 a2 d2 d4 d5;generalize wi.heap.size=xb at*;have x0:=HHX.out.cell 0;have x1:=HHX.out.cell 1;have x2:=HHX.out.cell 2;simp only[zzD,zzE,zzF]at x0 x1 x2;obtain⟨d2,d4,d5⟩:=HDC.out wx HEX.out;have HFE:=zh (zxt HE0.out HEX.out);by_cases q1:xp≤(u1:Int)
   ·have HRF:Hid (R=false):=zh (by rw[HR1.out,zw14 (show ¬(u1:Int)<xp by omega),zw51])
    go_wp2_with fail;go_ret;exact⟨by rw[HRF.out];rfl,HFE.out⟩
   by_cases q2:u2<1
   ·have HRF:Hid (R=false):=zh (by rw[HR1.out,zw14 (show ¬1≤u2 by omega),zw51,Bool.and_false])
    have q2':(u2:Int)<1:=by omega
    go_wp2_with fail;go_ret;exact⟨by rw[HRF.out];rfl,HFE.out⟩
   by_cases q3:5<u2
   ·have HRF:Hid (R=false):=zh (by rw[HR1.out,zw14 (show ¬u2≤5 by omega)];simp)
    have q2':¬(u2:Int)<1:=by omega
    have q3':(5:Int)<(u2:Int):=by omega
    go_wp2_with fail;go_ret;exact⟨by rw[HRF.out];rfl,HFE.out⟩
   have q2':¬(u2:Int)<1:=by omega
   have q3':¬(5:Int)<(u2:Int):=by omega
   have HR2:Hid (R=(walkB xt u3 && (!decide (u3∈tk) && mayB xp xt (u3::tk) (us.drop (k+1))))):=zh (by
    rw[HR1.out,zw15 (show(u1:Int)<xp by omega),zw15 (show 1≤u2 by omega),zw15 (show u2≤5 by omega)];rfl)
   clear HR1 q2 q3;by_cases q4:u3<0
   ·have HRF:Hid (R=false):=zh (by rw[HR2.out,walkB_no (.inl q4),zw51])
    go_wp2_with fail;go_ret;exact⟨by rw[HRF.out];rfl,HFE.out⟩
   by_cases q5:(xt.size:Int)≤u3
   ·have HRF:Hid (R=false):=zh (by rw[HR2.out,walkB_no (.inr q5),zw51])
    go_wp2_with fail;go_ret;exact⟨by rw[HRF.out];rfl,HFE.out⟩
   obtain⟨t,rfl⟩:∃q:Nat,u3=(q:Int):=⟨u3.toNat,by omega⟩;have htt:t<xt.size:=by omega
   have r1:(0:Int)≤(t:Int):=by omega
   have r2:(t:Int)<(xt.size:Int):=by omega
   have HWB:=zh (walkB_at htt);by_cases q6:xt[t].toNat=0
   rotate_left
   ·have hz1:((xt[t].toNat:Int)==0)=false:=zw12.2 (by omega)
    have hz2:((xt[t].toNat:Int) != 0)=true:=by simp[bne,hz1]
    have HRF:Hid (R=false):=zh (by rw[HR2.out,HWB.out,hz1,zw51]);clear q6;go_wp2_with fail;go_ret;exact⟨by rw[HRF.out];rfl,HFE.out⟩
   have hz1:((xt[t].toNat:Int)==0)=true:=beq_iff_eq.2 (by omega);have hz2:((xt[t].toNat:Int) != 0)=false:=by simp[bne,hz1]
   have HR3:Hid (R=(!decide ((t:Int)∈tk) && mayB xp xt ((t:Int)::tk) (us.drop (k+1)))):=zh (by rw[HR2.out,HWB.out,hz1,zw50]);clear HR2 q6 HWB;go_wp2_with fail;clear x0 x1 x2 d2 d4 d5 hz1 hz2
   go_loopg [5] k (fun gi iv wr=>∃j:Nat,j+gi=k∧iv= .int .i64 (j:Int)∧(∀i (h:i<us.length),i<j→us[i].tile≠(t:Int))∧Ext wx wr)
   case atStart=>exact⟨0,by omega,rfl,fun i _ h=>absurd h (by omega),zxr _⟩
   case round=>
    obtain⟨j,hj,rfl,hpre,hE⟩:=hrel;obtain⟨wj,rfl⟩:∃wi:World,wi=wr:=⟨_,rfl⟩;obtain⟨gi,rfl⟩:∃gh:Nat,gh=gk:=⟨_,rfl⟩;have HEJ:=zh hE;have HPRE:=zh hpre;clear hE hpre;have y3:(0:Int)≤(j:Int):=by omega
    by_cases hjk:j<k
    ·have y4:(j:Int)<(k:Int):=by omega
     have y5:(j:Int)<(m:Int):=by omega
     have hje:j<us.length:=by omega
     have a2:=HALL.out j hje wj (zxt HFE.out HEJ.out);have x2:=kc HEJ.out (HHX.out.cell 2);have d5:=(HDC.out wj (zxt HEX.out HEJ.out)).2.2;have HMM:Hid (us[j].tile=(t:Int)→(t:Int)∈tk):=zh (fun h=>(HTK.out _).2 ⟨j,hje,hjk,h⟩);have HPN:Hid (us[j].tile≠(t:Int)→∀i (h:i<us.length),i<j+1→us[i].tile≠(t:Int)):=zh (fun hn i h hi=>by
      by_cases e:i=j
      ·subst e;exact hn
      ·exact HPRE.out i h (by omega))
     generalize us[j].tile=q at a2 HMM HPN;clear hke hje;by_cases he:q=(t:Int)
     ·have HRF:Hid (R=false):=zh (by rw[HR3.out,zw15 (HMM.out he),Bool.not_true,zw51])
      have he':(q==(t:Int))=true:=beq_iff_eq.2 he;clear HMM HPN;go_wp2_with fail
      (refine wp_still (by kernel_rfl) (by kernel_rfl) ?_;repeat still_step);refine wpStill_nil ?_;go_wp2_with fail;go_ret;exact⟨by rw[HRF.out];rfl,zxt HFE.out (zxd HEJ.out)⟩
     ·have HPX:=zh (HPN.out he)
      have he':(q==(t:Int))=false:=zw12.2 he;clear HMM HPN;go_wp2_with fail
      (refine wp_still (by kernel_rfl) (by kernel_rfl) ?_;repeat still_step);refine wpStill_nil ?_;go_wp2_with fail
      go_roundg (gi-1)
      case measure=>omega
      case rel=>exact⟨j+1,by omega,by go_num,HPX.out,zxd HEJ.out⟩
    ·obtain rfl:gi=0:=by omega
     obtain rfl:j=k:=by omega
     have y4:¬(j:Int)<(j:Int):=by omega
     have HR4:Hid (R=mayB xp xt ((t:Int)::tk) (us.drop (j+1))):=zh (by
      rw[HR3.out,zw14,Bool.not_false,zw50];intro h;obtain⟨i,h1,h2,h3⟩:=(HTK.out _).1 h;exact HPRE.out i h1 h2 h3)
     clear HR3;go_wp2_with fail
     go_roundg (gh-1)
     case measure=>omega
     case rel=>exact⟨j+1,(t:Int)::tk,by omega,by go_num,HTN.out,zxt HEX.out HEJ.out,HR4.out⟩
  ·obtain rfl:gh=0:=by omega
   have y2:¬(k:Int)<(m:Int):=by omega
   have HRT:Hid (R=true):=zh (by rw[HRK.out,zw21 (by rw[HLEN.out];omega),mayB]);go_wp2_with fail;go_ret;exact⟨by rw[HRT.out];rfl,zxt HE0.out HE.out⟩
open Trk (Sl Tv Tk mayT RfV)
open Log (Hv Ev cH cV mayH putL)
instance (r:Rc):Decidable (mayR r):=by unfold mayR;infer_instance
theorem rpV_at (T:Option (List Nat)):∃s ec,rpV T= .tuple #[.string s,.int .i64 ec]∧(ec==0)=T.isSome:=by
 cases T with
 | none=>exact⟨_,_,rfl,rfl⟩
 | some L=>exact⟨_,_,rfl,rfl⟩
theorem rmay20 (p:Pv) (x:Hv) (evs:List Ev) (N KI:Int) (tr:Tk) (ts:List ByteArray) (w:World) (h:RfP w p x evs tr ts) (hl:Lit x evs tr ts) (hsf:∀u∈x.starts,u.fits) (hef:∀e∈evs,e.fits)
  (hw: -9223372036854775808≤x.w∧x.w≤9223372036854775807∧ -9223372036854775808≤x.h∧x.h≤9223372036854775807) (hN: -9223372036854775808≤N∧N≤9223372036854775807) (hcl:evs.length≤p.cl∧p.cl≤9223372036854775807):
  Calls Tryz.prog 10 #[.agg (cPa x (.slice p.A x.starts.length p.c) (.slice p.Al evs.length p.cl) N KI p.t (.slice p.Af ts.length p.cf))] w fun e w'=>e= .returned (.bool (decide (mayR ⟨x,evs,N,KI,tr,ts.map natsOf⟩)))∧Ext w w':=by
 obtain⟨l1,l2,l3,l4,l5,l6⟩:=hl;have HE0:=zh (zxa (zxr w) (.cells (cPa x (.slice p.A x.starts.length p.c) (.slice p.Al evs.length p.cl) N KI p.t (.slice p.Af ts.length p.cf)) 34));have HH0:=zh (Blk.new w 34 (cPa x (.slice p.A x.starts.length p.c) (.slice p.Al evs.length p.cl) N KI p.t (.slice p.Af ts.length p.cf)));have HM17:=zh (fun(W:World) (e:Ext w W)=>rmay17 x p.A x.starts.length p.c W (h.1.ext e) hsf (by omega) (by omega) hw.1 hw.2.1 hw.2.2.1 hw.2.2.2);have HM19:=zh (fun(W:World) (e:Ext w W)=>Trk.rmay_tr p.t tr N W (h.2.2.1.ext e) hN.1 hN.2);have HPU:=zh (fun(W:World) (e:Ext w W)=>rput17 p.Al evs.length p.cl evs N W (h.2.1.ext e) hef (by omega) hcl.1 hcl.2);have HP:=zh h.2.2.2;have HSZ:=zh l6;obtain⟨R,hR⟩:∃q,q=decide (mayR ⟨x,evs,N,KI,tr,ts.map natsOf⟩):=⟨_,rfl⟩;rw[←hR];have HRF:Hid (¬mayR ⟨x,evs,N,KI,tr,ts.map natsOf⟩→R=false):=zh (fun h=>by rw[hR];exact zw14 h);have HRT:Hid (mayH x→mayT N tr=true→1≤KI→KI≤256→(ts.length:Int)=N+1→R=(putL N evs).isSome):=zh (fun a1 a2 a3 a4 a5=>by
  rw[hR]
  cases hq:(putL N evs).isSome with
  | true=>exact zw15 ⟨a1,hq,a2,a3,a4,fun f hf=>(by obtain⟨s,hs,rfl⟩:=List.mem_map.1 hf;rw[natsOf_len];have:=l6 s hs;omega),by simpa using a5⟩
  | false=>exact zw14 (fun h=>by have:=h.2.1;rw[hq]at this;cases this))
 have HRH:Hid (mayR ⟨x,evs,N,KI,tr,ts.map natsOf⟩→mayH x∧mayT N tr=true∧1≤KI∧KI≤256∧(ts.length:Int)=N+1∧0≤N∧N≤4096):=zh (fun h=>by
  obtain⟨a1,a2,a3,a4,a5,a6,a7⟩:=h;have a8:=a3;unfold mayT at a8;simp only[zw48,zw49]at a8;exact⟨a1,a3,a4,a5,by simpa using a7,a8.1.1,a8.1.2⟩)
 clear h hR hsf hef hw hN hcl l6 l5;generalize hbh:decide (mayH x)=bh at HM17;have HBH:=zh hbh;generalize hbt:mayT N tr=bt at HM19 HRT HRH;generalize hT:putL N evs=T at HPU HRT;clear hbh hbt hT;obtain⟨A,c,Al,cl,⟨⟨A0,n0,c0⟩,⟨A1,n1,c1⟩,⟨A2,n2,c2⟩,⟨A3,n3,c3⟩,⟨Am,nm,cm⟩⟩,Af,cf⟩:=p;obtain⟨xw,xh,xp,xs,xt,us⟩:=x;simp only[cPa,Tv.cells,cH]at HE0 HH0 HM17 HM19 ⊢;simp only at l1 l2;obtain⟨q1,hq1⟩:∃q,us.length=q:=⟨_,rfl⟩;obtain⟨q2,hq2⟩:∃q,evs.length=q:=⟨_,rfl⟩;obtain⟨m,hm⟩:∃q,ts.length=q:=⟨_,rfl⟩;rw[hq1,hq2,hm]at HE0 HH0 ⊢;rw[hq1]at HM17;simp only at HPU;rw[hq2]at HPU;rw[hm]at l4 HRT HRH;have HM:=zh hm;clear hq1 hq2 hm l1 l2 l3;have hm9:m≤9223372036854775807:=by omega
 go_enter Tryz.func10,Tryz.ntmps10;go_upto_region 1 with fail;obtain⟨w0,hw0⟩:∃q,q=w.alloc (.cells #[.int .i64 xw,.int .i64 xh,.int .i64 xp,.int .u32 (xs:Int),.string xt,.slice A q1 c,.slice Al q2 cl,.int .i64 N,.int .i64 KI,.slice A0 n0 c0,.slice A1 n1 c1,.slice A2 n2 c2,.slice A3 n3 c3,.slice Am nm cm,.slice Af m cf] 34):=⟨_,rfl⟩;rw[←hw0]at HE0 HH0 ⊢;clear hw0;generalize w.heap.size=hb at*;have HC:=zh (fun(W:World) (e:Ext w0 W)=>(⟨kc e (HH0.out.cell 6),kc e (HH0.out.cell 7),kc e (HH0.out.cell 8),kc e (HH0.out.cell 9),kc e (HH0.out.cell 10),kc e (HH0.out.cell 11),kc e (HH0.out.cell 12),kc e (HH0.out.cell 13),kc e (HH0.out.cell 14)⟩:W.cell? ⟨hb,6,none⟩=some (.slice Al q2 cl)∧W.cell? ⟨hb,7,none⟩=some (.int .i64 N)∧W.cell? ⟨hb,8,none⟩=some (.int .i64 KI)∧W.cell? ⟨hb,9,none⟩=some (.slice A0 n0 c0)∧W.cell? ⟨hb,10,none⟩=some (.slice A1 n1 c1)∧W.cell? ⟨hb,11,none⟩=some (.slice A2 n2 c2)∧W.cell? ⟨hb,12,none⟩=some (.slice A3 n3 c3)∧W.cell? ⟨hb,13,none⟩=some (.slice Am nm cm)∧W.cell? ⟨hb,14,none⟩=some (.slice Af m cf)));have d0:=HH0.out.cell 0;have d1:=HH0.out.cell 1;have d2:=HH0.out.cell 2;have d3:=HH0.out.cell 3;have d4:=HH0.out.cell 4;have d5:=HH0.out.cell 5;simp only[zzD,zzE,zzF]at d0 d1 d2 d3 d4 d5;go_wp2_with fail;refine(HM17.out _ HE0.out).mono ?_;rintro e w1 ⟨rfl,hE⟩;have HE:=zh hE;clear hE d0 d1 d2 d3 d4 d5
 cases bh with
 | false=>
  have HF:Hid (R=false):=zh (HRF.out (fun h=>of_decide_eq_false HBH.out (HRH.out h).1));go_wp2_with fail;go_ret;exact⟨by rw[HF.out];rfl,zxt HE0.out HE.out⟩
 | true=>
 obtain⟨d6,d7,d8,d9,d10,d11,d12,d13,d14⟩:=HC.out w1 HE.out;by_cases g1:N<0
 ·have HF:Hid (R=false):=zh (HRF.out (fun h=>by have:=(HRH.out h).2.2.2.2.2;omega))
  go_wp2_with fail;go_ret;exact⟨by rw[HF.out];rfl,zxt HE0.out HE.out⟩
 by_cases g2:4096<N
 ·have HF:Hid (R=false):=zh (HRF.out (fun h=>by have:=(HRH.out h).2.2.2.2.2;omega))
  go_wp2_with fail;go_ret;exact⟨by rw[HF.out];rfl,zxt HE0.out HE.out⟩
 by_cases g3:KI<1
 ·have HF:Hid (R=false):=zh (HRF.out (fun h=>by have:=(HRH.out h).2.2.1;omega))
  go_wp2_with fail;go_ret;exact⟨by rw[HF.out];rfl,zxt HE0.out HE.out⟩
 by_cases g4:256<KI
 ·have HF:Hid (R=false):=zh (HRF.out (fun h=>by have:=(HRH.out h).2.2.2.1;omega))
  go_wp2_with fail;go_ret;exact⟨by rw[HF.out];rfl,zxt HE0.out HE.out⟩
 go_wp2_with fail;refine(HM19.out _ (zxt HE0.out HE.out)).mono ?_;rintro e w2 ⟨rfl,hE⟩;replace HE:=zh (zxt HE.out hE);clear hE d6 d7 d8 d9 d10 d11 d12 d13 d14;obtain⟨d6,d7,_,_,_,_,_,_,d14⟩:=HC.out w2 HE.out
 cases bt with
 | false=>
  have HF:Hid (R=false):=zh (HRF.out (fun h=>by have:=(HRH.out h).2.1;cases this));go_wp2_with fail;go_ret;exact⟨by rw[HF.out];rfl,zxt HE0.out HE.out⟩
 | true=>
 by_cases g5:(m:Int)=N+1
 rotate_left
 ·have HF:Hid (R=false):=zh (HRF.out (fun h=>g5 (HRH.out h).2.2.2.2.1))
  have z1:((m:Int)==N+1)=false:=zw12.2 g5;have z2:((m:Int) != N+1)=true:=by simp[bne,z1]
  go_wp2_with fail;go_ret;exact⟨by rw[HF.out];rfl,zxt HE0.out HE.out⟩
 have HR:Hid (R=T.isSome):=zh (HRT.out (of_decide_eq_true HBH.out) rfl (by omega) (by omega) g5);have z1:((m:Int)==N+1)=true:=beq_iff_eq.2 g5;have z2:((m:Int) != N+1)=false:=by simp[bne,z1]
 go_wp2_with fail;refine(HPU.out _ (zxt HE0.out HE.out)).mono ?_;rintro e w3 ⟨hE,rfl⟩;replace HE:=zh (zxt HE.out hE);obtain⟨s,ec,hv,hec⟩:=rpV_at T;rw[hv];rw[←hec]at HR;clear hE d6 d7 d14 hv hec HRT HRH HRF z1 z2 HBH HM17 HM19 HPU;have d14:=(HC.out w3 HE.out).2.2.2.2.2.2.2.2;go_wp2_with fail
 go_loopg [5] m (fun gh iv wr=>∃(k:Nat),k+gh=m∧iv= .int .i64 (k:Int)∧wr=w3)
 case atStart=>exact⟨0,by omega,rfl,rfl⟩
 case round=>
  obtain⟨k,hk,rfl,rfl⟩:=hrel;obtain⟨gh,rfl⟩:∃gh:Nat,gh=gk:=⟨_,rfl⟩;have y1:(0:Int)≤(k:Int):=by omega
  by_cases hlt:k<m
  ·have y2:(k:Int)<(m:Int):=by omega
   have hkl:k<ts.length:=by rw[HM.out];exact hlt
   obtain⟨bs,os,hAf,hbw,hcell⟩:=HP.out.2 (by show 0<ts.length;omega)
   try simp only at hAf
   subst hAf;have hst:=kc (zxt HE0.out HE.out) (hcell k hkl 0 (by omega));have hts:=HSZ.out _ (zw25 hkl);generalize ts[k]=T at hst hts;simp only[cT,List.getElem?_cons_zero,Nat.mul_one,Nat.add_zero]at hst;have hts':¬(131072:Int)<(T.size:Int):=by omega
   clear hcell;go_wp2_with fail
   go_roundg (gh-1)
   case measure=>omega
   case rel=>exact⟨k+1,by omega,by go_num,rfl⟩
  ·obtain rfl:gh=0:=by omega
   have y2:¬(k:Int)<(m:Int):=by omega
   go_wp2_with fail;go_ret;exact⟨by rw[HR.out];rfl,zxt HE0.out HE.out⟩
end Go.Proofs.YtidnboeihkeljaaGreatDoor.Fil
