/- Law 20: the document's track as bytes. -/
import Derived.Test.YtbopblbhjcemaaaGreatDoorFilY
import Derived.Test.YtbopblbhjcemaaaGreatDoorTrkS
set_option maxHeartbeats 16000000
set_option maxRecDepth 100000
set_option linter.all false
open Go.ChangeShapes Go.WideShapes Go.ChangeAt Go.RowKit
namespace Go.Proofs.YtbopblbhjcemaaaGreatDoor.Fil
open Wire
open Rec
open Trk (Sl Tv Tk mayT encT RfV Pt Mk cR cM mayC mayM mayCam okP okM encC encP encM encMs sl_get lt5)
theorem rnum19 (n:Nat) (h:n≤9223372036854775807) (w:World):Calls Tryz.prog 113 #[.int .i64 (n:Int)] w fun e w'=>e= .returned (.string (strOf (vb n)))∧Ext w w':=by
  have HV:=zh (fun W=>Wire.refVarint n (by omega) W);have hw:IntKind.u64.wrap (n:Int)=(n:Int):=by rw[IntKind.wrap_u64];omega
  go_enter Tryz.func113,Tryz.ntmps113;go_wp2_with fail;refine(HV.out _).mono ?_;rintro e w1 ⟨rfl,hE⟩;go_wp2_with fail;go_ret;exact⟨rfl,hE⟩
theorem cams_at (x:Tk) (p:Nat) (hp:p<4):x.cams.drop p=x.cam p::x.cams.drop (p+1):=by
  rcases lt5 (show p<5 by omega)with rfl | rfl | rfl | rfl | rfl<;>first | (exfalso;omega) | rfl
def CRel (w0:World) (x:Tk) (n:Int) (Z:List Nat) (gh:Nat) (sv iv:Value) (wr:World):Prop:=
  ∃(p:Nat) (P:List Nat),p+gh=4∧iv= .int .i64 (p:Int)∧sv= .string (strOf P)∧P++((x.cams.drop p).flatMap encC++encM x.marks)=Z∧P.length≤2000*p∧(x.cams.drop p).all (mayCam n)=true∧Ext w0 wr
def DRel (w0:World) (c:List Pt) (n:Int) (Y Z:List Nat) (B nl gh:Nat) (sv lv iv:Value) (wr:World):Prop:=
  ∃(i:Nat) (last lo:Int) (P:List Nat),i+gh=nl∧iv= .int .i64 (i:Int)∧lv= .int .i64 last∧sv= .string (strOf P)∧0≤last∧last≤lo+1∧last≤4096∧P++(encP last (c.drop i)++Y)=Z∧P.length≤B+30*i∧mayC n lo (c.drop i)=true∧Ext w0 wr
def ERel (w0:World) (ms:List Mk) (n:Int) (Z:List Nat) (nm gh:Nat) (sv lv iv:Value) (wr:World):Prop:=
  ∃(i:Nat) (last:Int) (P:List Nat),i+gh=nm∧iv= .int .i64 (i:Int)∧lv= .int .i64 last∧sv= .string (strOf P)∧0≤last∧last≤4096∧P++encMs last (ms.drop i)=Z∧P.length≤8010+60*i∧mayM n last (ms.drop i)=true∧Ext w0 wr
theorem rbytes (t : Tv) (x : Tk) (n : Int) (w : World) (hB : RfV w t x) (hm : mayT n x = true) :
    Calls Tryz.prog 76 #[.agg t.cells] w fun e w'=>e= .returned (.string (strOf (encT x)))∧Ext w w':=by
  obtain⟨Z,hZ⟩:∃q,q=encT x:=⟨_,rfl⟩;have HZ:Hid (([]:List Nat)++((x.cams.drop 0).flatMap encC++encM x.marks)=Z):=zh hZ.symm;rw[←hZ];clear hZ;unfold mayT at hm;simp only[zw48,zw49]at hm;obtain⟨⟨n0,n4⟩,hm32,hmc,hmm⟩:=hm;have HMC:=zh hmc;have HMM:=zh hmm;have HE0:=zh (zxa (zxr w) (.cells t.cells 102));have HH0:=zh (Blk.new w 102 t.cells);have HB:=zh (hB.ext HE0.out);have HSL:=zh (sl_get t);have HLM:=zh hB.2.2.2.2.1.1;clear hB hmc hmm;obtain⟨tc,htc⟩:∃q,q=t.cells:=⟨_,rfl⟩;rw[←htc]at HE0 HH0 HSL HB ⊢;clear htc;obtain⟨nm,hnm⟩:∃q,q=t.sm.n:=⟨_,rfl⟩;rw[←hnm]at HLM;have hm9:nm≤32:=by rw[←HLM.out];exact hm32
  have HNM:=zh hnm;clear hnm hm32;go_enter Tryz.func76,Tryz.ntmps76;go_upto_region 1 with fail;obtain⟨w0,hw0⟩:∃q,q=w.alloc (.cells tc 102):=⟨_,rfl⟩;obtain⟨hb,hhb⟩:∃q,q=w.heap.size:=⟨_,rfl⟩;rw[←hw0]at HE0 HH0 HB ⊢;rw[←hhb]at HH0 ⊢;clear hw0 hhb;obtain⟨Am,hAm⟩:∃q,q=t.sm.A:=⟨_,rfl⟩;have HM4:Hid (∀W,Ext w0 W→W.cell? ⟨hb,4,none⟩=some (.slice Am nm t.sm.c)):=zh (fun W e=>kc e ((HH0.out.cell 4).trans (by rw[HSL.out 4 (by omega),HNM.out,hAm];rfl)));have HMK:Hid (RowR w0 Am nm 2 cM x.marks):=zh (by rw[HNM.out,hAm];exact HB.out.2.2.2.2.1);clear hAm;go_wp2_with fail
  go_loopg [3,4] 4 (fun gh sv iv wr=>CRel w0 x n Z gh sv iv wr)
  case atStart=>exact⟨0,[],rfl,rfl,rfl,HZ.out,by simp,HMC.out,zxr _⟩
  case round=>
    clear HZ HMC;obtain⟨p,P,hp,rfl,rfl,hP,hpl,hcm,hE⟩:=hrel;obtain⟨wi,rfl⟩:∃wi:World,wi=wr:=⟨_,rfl⟩;obtain⟨gh,rfl⟩:∃gh:Nat,gh=gk:=⟨_,rfl⟩;have HE:=zh hE;have HP:=zh hP;clear hE hP;have y1:(0:Int)≤(p:Int):=by omega
    by_cases hlt:p<4
    · have y2:(p:Int)<4:=by omega
      rw[cams_at x p hlt,List.all_cons,zw48]at hcm;obtain⟨hc0,hcr⟩:=hcm;unfold mayCam at hc0;rw[zw48,zw49]at hc0;obtain⟨hc1,hc2⟩:=hc0;have HCR:=zh hcr;have HPT:=zh (HB.out.cam p hlt);have hsp:=((HH0.out.ext HE.out).cell p).trans (HSL.out p (by omega));obtain⟨⟨Ad,nl,cd⟩,hsl⟩:∃q,q=t.sl p:=⟨_,rfl⟩;rw[←hsl]at HPT hsp;simp only at HPT hsp;clear hsl hcr;have HLEN:=zh HPT.out.1.1;have hl9:nl≤64:=by rw[←HLEN.out];exact hc2
      have HQ:Hid ((P++vb nl)++(encP 0 ((x.cam p).drop 0)++((x.cams.drop (p+1)).flatMap encC++encM x.marks))=Z):=zh (by
        rw[←HP.out,cams_at x p hlt,List.flatMap_cons,encC,HLEN.out,zw28];simp only[zw7])
      have HC1:Hid (mayC n (-1) ((x.cam p).drop 0)=true):=zh (by rw[zw28];exact hc1);obtain⟨Y,hY⟩:∃q,q=(x.cams.drop (p+1)).flatMap encC++encM x.marks:=⟨_,rfl⟩;rw[←hY]at HQ;have HY:=zh hY;have HN:=zh (fun W=>rnum19 nl (by omega) W);have v1:(vb nl).length≤10:=vb_ten (by omega);have HQL:Hid ((P++vb nl).length≤(2000*p+10)+30*0):=zh (by rw[zw0];omega);have HSA:Hid (strOf P++strOf (vb nl)=strOf (P++vb nl)):=zh (strOf_app _ _).symm;rw[←strOf_size]at v1 hpl;obtain⟨S,hS⟩:∃q,q=strOf P:=⟨_,rfl⟩;obtain⟨K,hK⟩:∃q,q=strOf (vb nl):=⟨_,rfl⟩;rw[←hS,←hK]at HSA;rw[←hK]at HN v1;rw[←hS]at hpl ⊢;have q1:¬9223372036854775807<S.size+K.size:=by omega
      clear hS hK hY hc1 hc2 hpl v1;go_wp2_with fail;refine(HN.out _).mono ?_;rintro e w2 ⟨rfl,hE2⟩;have HE2:=zh (zxt HE.out hE2);clear hE2 hsp;go_wp2_with fail;rw[HSA.out]
      go_loopg [3,6,7] nl (fun gi sv lv iv wr=>DRel w0 (x.cam p) n Y Z (2000*p+10) nl gi sv lv iv wr)
      case atStart=>exact⟨0,0,-1,P++vb nl,by omega,rfl,rfl,rfl,by omega,by omega,by omega,HQ.out,HQL.out,HC1.out,HE2.out⟩
      case round=>
        clear HE HE2 HP HQ HQL HC1 HSA HN;obtain⟨i,last,lo,P,hi,rfl,rfl,rfl,hl0,hl1,hl4,hP,hpl,hmc,hE⟩:=hrel;obtain⟨wi,rfl⟩:∃wi:World,wi=wr:=⟨_,rfl⟩;obtain⟨gi,rfl⟩:∃gh:Nat,gh=gk:=⟨_,rfl⟩;have HE:=zh hE;have HP:=zh hP;clear hE hP;have y3:(0:Int)≤(i:Int):=by omega
        by_cases hki:i<nl
        · have y4:(i:Int)<(nl:Int):=by omega
          have hke:i<(x.cam p).length:=by rw[HLEN.out];exact hki
          obtain⟨b,o,rfl,hbw,hc⟩:=HPT.out.1.2 (by omega);have hq:=fun j hj=>(HE.out.cell (p:=⟨b,o+i*3+j,none⟩) hbw).trans (hc i hke j hj);have hdr:(x.cam p).drop i=(x.cam p)[i]::(x.cam p).drop (i+1):=zw20 hke;rw[hdr,mayC,zw48,zw49]at hmc;obtain⟨hok,hmr⟩:=hmc;have hnx:P++(((vb ((x.cam p)[i].tick-last).toNat++(vb (x.cam p)[i].x.toNat++vb (x.cam p)[i].y.toNat))++encP (x.cam p)[i].tick ((x.cam p).drop (i+1)))++Y)=Z:=by rw[←HP.out,hdr];rfl
          generalize (x.cam p)[i]=u at hq hok hmr hnx;obtain⟨tk,px,py⟩:=u;obtain⟨k1,k2,k3,k4,k5,k6⟩:=hok;simp only at k1 k2 k3 k4 k5 k6 hmr hnx;have a0:=hq 0 (by omega);have a1:=hq 1 (by omega);have a2:=hq 2 (by omega);simp only[cR,Nat.add_zero,List.getElem?_cons_zero,List.getElem?_cons_succ]at a0 a1 a2;obtain⟨l,rfl⟩:∃q:Nat,last=(q:Int):=⟨last.toNat,by omega⟩;obtain⟨d,rfl⟩:∃q:Nat,tk=((l+q:Nat):Int):=⟨(tk-l).toNat,by omega⟩;obtain⟨px,rfl⟩:∃q:Nat,px=(q:Int):=⟨px.toNat,by omega⟩;obtain⟨py,rfl⟩:∃q:Nat,py=(q:Int):=⟨py.toNat,by omega⟩;have hd1:((l+d:Nat):Int)-(l:Int)=(d:Int):=by omega
          rw[hd1,zw35,zw35,zw35]at hnx;have HNX:Hid ((P++(vb d++(vb px++vb py)))++(encP ((l+d:Nat):Int) ((x.cam p).drop (i+1))++Y)=Z):=zh (by rw[←hnx];simp only[zw7]);have HMR:=zh hmr;obtain⟨tk,ht⟩:∃q:Int,q=((l+d:Nat):Int):=⟨_,rfl⟩;rw[←ht]at hd1 a0 HNX HMR k1 k2;have tk0:0≤tk:=by omega
          have tk4:tk≤4096:=by omega
          have hd4:d≤4096:=by omega
          have HSZ:Hid ((P++(vb d++(vb px++vb py))).length≤(2000*p+10)+30*(i+1)):=zh (by
            have v1:(vb d).length≤10:=vb_ten (by omega);have v2:(vb px).length≤10:=vb_ten (by omega);have v3:(vb py).length≤10:=vb_ten (by omega);simp only[zw0];omega)
          clear hc hke hq hdr hmr hnx ht HP;have v1:(vb d).length≤10:=vb_ten (by omega);have v2:(vb px).length≤10:=vb_ten (by omega);have v3:(vb py).length≤10:=vb_ten (by omega);have HK1:=zh (fun W=>rnum19 d (by omega) W);have HK2:=zh (fun W=>rnum19 px (by omega) W);have HK3:=zh (fun W=>rnum19 py (by omega) W);have HSA:Hid (strOf P++strOf (vb d)++strOf (vb px)++strOf (vb py)=strOf (P++(vb d++(vb px++vb py)))):=zh (by simp only[strOf_app,zw53]);rw[←strOf_size]at v1 v2 v3 hpl;obtain⟨S,hS⟩:∃q,q=strOf P:=⟨_,rfl⟩;obtain⟨K1,hK1⟩:∃q,q=strOf (vb d):=⟨_,rfl⟩;obtain⟨K2,hK2⟩:∃q,q=strOf (vb px):=⟨_,rfl⟩;obtain⟨K3,hK3⟩:∃q,q=strOf (vb py):=⟨_,rfl⟩;rw[←hS,←hK1,←hK2,←hK3]at HSA;rw[←hK1]at HK1 v1;rw[←hK2]at HK2 v2;rw[←hK3]at HK3 v3;rw[←hS]at hpl ⊢;have q1:¬9223372036854775807<S.size+K1.size:=by omega
          have q2:¬9223372036854775807<S.size+K1.size+K2.size:=by omega
          have q3:¬9223372036854775807<S.size+K1.size+K2.size+K3.size:=by omega
          have z0:IntKind.i64.wrap (d:Int)=(d:Int):=IntWalk.i64_in _ (by omega);clear hS hK1 hK2 hK3 v1 v2 v3 hpl;go_upto_region 11 with fail;have MKS:=zh (fun(W:World) (e:Ext wi W)=>(⟨kc e a0,kc e a1,kc e a2⟩:W.cell? ⟨b,o+i*3,none⟩=some (.int .i64 tk)∧W.cell? ⟨b,o+i*3+1,none⟩=some (.int .i64 (px:Int))∧W.cell? ⟨b,o+i*3+2,none⟩=some (.int .i64 (py:Int))));have HX:Hid (Ext wi wi.drew):=zh (zxd (zxr wi));clear a0 a1 a2;generalize hwd:wi.drew=WA at HX;have HS:=zh (MKS.out _ HX.out);refine zw38 (S:=fun W=>W.cell? ⟨b,o+i*3,none⟩=some (.int .i64 tk)∧W.cell? ⟨b,o+i*3+1,none⟩=some (.int .i64 (px:Int))∧W.cell? ⟨b,o+i*3+2,none⟩=some (.int .i64 (py:Int))) hmxF (by rw[hwd];exact HS.out) (fun _=>?_);rw[hwd];clear hwd
          iterate 18
           refine zqT (v:=?_) HS.out rfl ?_ ?_;rotate_left
           · intro w' hSw;obtain⟨s0,s1,s2⟩:=hSw;go_simp;try with_reducible rfl
           (try simp only[Act.put,zzA,zzB,zzC])
          refine zqO (i:=8) (by kernel_rfl) rfl fun K hK=>?_;go_simp
          (try rw[hd1])
          refine(HK1.out _).mono ?_;rintro e WA ⟨rfl,hE⟩;replace HX:=zh (zxt HX.out hE);have HS:=zh (MKS.out _ HX.out);clear hE
          (try go_wp2_with fail)
          refine hK.out _ _ HS.out fun _=>?_;clear hK K
          (try simp only[Act.put,zzA,zzB,zzC])
          (refine zqT (v:=?_) HS.out rfl ?_ ?_);rotate_left
          · intro w' hSw;obtain⟨s0,s1,s2⟩:=hSw;go_simp;try with_reducible rfl
          (try simp only[Act.put,zzA,zzB,zzC])
          refine zqO (i:=15) (by kernel_rfl) rfl fun K hK=>?_;go_simp
          (try rw[hd1])
          refine(HK2.out _).mono ?_;rintro e WA ⟨rfl,hE⟩;replace HX:=zh (zxt HX.out hE);have HS:=zh (MKS.out _ HX.out);clear hE
          (try go_wp2_with fail)
          refine hK.out _ _ HS.out fun _=>?_;clear hK K
          (try simp only[Act.put,zzA,zzB,zzC])
          (refine zqT (v:=?_) HS.out rfl ?_ ?_);rotate_left
          · intro w' hSw;obtain⟨s0,s1,s2⟩:=hSw;go_simp;try with_reducible rfl
          (try simp only[Act.put,zzA,zzB,zzC])
          refine zqO (i:=22) (by kernel_rfl) rfl fun K hK=>?_;go_simp
          (try rw[hd1])
          refine(HK3.out _).mono ?_;rintro e WA ⟨rfl,hE⟩;replace HX:=zh (zxt HX.out hE);have HS:=zh (MKS.out _ HX.out);clear hE
          (try go_wp2_with fail)
          refine hK.out _ _ HS.out fun _=>?_;clear hK K
          (try simp only[Act.put,zzA,zzB,zzC])
          iterate 2
           refine zqT (v:=?_) HS.out rfl ?_ ?_;rotate_left
           · intro w' hSw;obtain⟨s0,s1,s2⟩:=hSw;go_simp;try with_reducible rfl
           (try simp only[Act.put,zzA,zzB,zzC])
          refine zw39 (by kernel_rfl) ?_ _;obtain⟨d0,d1,d2⟩:=HS.out;go_wp2_with fail;rw[HSA.out]
          go_roundg (gi-1)
          case measure=>omega
          case rel=>exact⟨i+1,tk,tk,P++(vb d++(vb px++vb py)),by omega,by go_num,rfl,rfl,tk0,by omega,tk4,HNX.out,HSZ.out,HMR.out,zxt HE.out HX.out⟩
        · obtain rfl:gi=0:=by omega
          have y4:¬(i:Int)<(nl:Int):=by omega
          have HQ2:Hid (P++((x.cams.drop (p+1)).flatMap encC++encM x.marks)=Z):=zh (by
            rw[←HP.out,show(x.cam p).drop i=[]from zw21 (by rw[HLEN.out];omega),HY.out];rfl)
          have HPL2:Hid (P.length≤2000*(p+1)):=zh (by omega);clear hpl hmc;obtain⟨S,hS⟩:∃q,q=strOf P:=⟨_,rfl⟩;rw[←hS];go_wp2_with fail
          go_roundg (gh-1)
          case measure=>omega
          case rel=>exact⟨p+1,P,by omega,by go_num,by first | rfl | rw[hS],HQ2.out,HPL2.out,HCR.out,HE.out⟩
    · obtain rfl:gh=0:=by omega
      obtain rfl:p=4:=by omega
      have y2:¬((4:Nat):Int)<4:=by omega
      have HQ:Hid ((P++vb nm)++encMs 0 (x.marks.drop 0)=Z):=zh (by
        rw[←HP.out,zw28];show _=P++([]++encM x.marks);rw[encM,HLM.out];simp only[zw7,zw17])
      have h4:=HM4.out wi HE.out;have HN:=zh (fun W=>rnum19 nm (by omega) W);have v1:(vb nm).length≤10:=vb_ten (by omega);have HQL:Hid ((P++vb nm).length≤8010+60*0):=zh (by rw[zw0];omega);have HSA:Hid (strOf P++strOf (vb nm)=strOf (P++vb nm)):=zh (strOf_app _ _).symm;rw[←strOf_size]at v1 hpl;obtain⟨S,hS⟩:∃q,q=strOf P:=⟨_,rfl⟩;obtain⟨K,hK⟩:∃q,q=strOf (vb nm):=⟨_,rfl⟩;rw[←hS,←hK]at HSA;rw[←hK]at HN v1;rw[←hS]at hpl ⊢;have q1:¬9223372036854775807<S.size+K.size:=by omega
      clear hS hK hpl v1 hcm;go_wp2_with fail;refine(HN.out _).mono ?_;rintro e w2 ⟨rfl,hE2⟩;have HE2:=zh (zxt HE.out hE2);clear hE2 h4;go_wp2_with fail;rw[HSA.out]
      go_loopg [3,8,9] nm (fun gi sv lv iv wr=>ERel w0 x.marks n Z nm gi sv lv iv wr)
      case atStart=>exact⟨0,0,P++vb nm,by omega,rfl,rfl,rfl,by omega,by omega,HQ.out,HQL.out,by rw[zw28];exact HMM.out,HE2.out⟩
      case round=>
        clear HE HE2 HP HQ HQL HSA HN;obtain⟨i,last,P,hi,rfl,rfl,rfl,hl0,hl4,hP,hpl,hmc,hE⟩:=hrel;obtain⟨wi,rfl⟩:∃wi:World,wi=wr:=⟨_,rfl⟩;obtain⟨gi,rfl⟩:∃gh:Nat,gh=gk:=⟨_,rfl⟩;have HE:=zh hE;have HP:=zh hP;clear hE hP;have y3:(0:Int)≤(i:Int):=by omega
        have h4:=HM4.out wi HE.out;by_cases hki:i<nm
        · have y4:(i:Int)<(nm:Int):=by omega
          have hke:i<x.marks.length:=by rw[HLM.out];exact hki
          obtain⟨b,o,rfl,hbw,hc⟩:=HMK.out.2 (by omega);have hq:=fun j hj=>(HE.out.cell (p:=⟨b,o+i*2+j,none⟩) hbw).trans (hc i hke j hj);have hdr:x.marks.drop i=x.marks[i]::x.marks.drop (i+1):=zw20 hke;rw[hdr,mayM,zw48,zw48,zw49,zw49]at hmc;obtain⟨hle,hok,hmr⟩:=hmc;have hnx:P++((vb (x.marks[i].tick-last).toNat++(vb x.marks[i].name.size++natsOf x.marks[i].name))++encMs x.marks[i].tick (x.marks.drop (i+1)))=Z:=by rw[←HP.out,hdr];rfl
          generalize x.marks[i]=u at hq hle hok hmr hnx;obtain⟨tk,T⟩:=u;obtain⟨k1,k2,k3⟩:=hok;simp only at k1 k2 k3 hle hmr hnx;have a0:=hq 0 (by omega);have a1:=hq 1 (by omega);simp only[cM,Nat.add_zero,List.getElem?_cons_zero,List.getElem?_cons_succ]at a0 a1;obtain⟨l,rfl⟩:∃q:Nat,last=(q:Int):=⟨last.toNat,by omega⟩;obtain⟨d,rfl⟩:∃q:Nat,tk=((l+q:Nat):Int):=⟨(tk-l).toNat,by omega⟩;have hd1:((l+d:Nat):Int)-(l:Int)=(d:Int):=by omega
          rw[hd1,zw35]at hnx;have HNX:Hid ((P++(vb d++(vb T.size++natsOf T)))++encMs ((l+d:Nat):Int) (x.marks.drop (i+1))=Z):=zh (by rw[←hnx];simp only[zw7]);have HMR:=zh hmr;obtain⟨tk,ht⟩:∃q:Int,q=((l+d:Nat):Int):=⟨_,rfl⟩;rw[←ht]at hd1 a0 HNX HMR k1 k2;have tk4:tk≤4096:=by omega
          have hd4:d≤4096:=by omega
          have v1:(vb d).length≤10:=vb_ten (by omega);have v2:(vb T.size).length≤10:=vb_ten (by omega);have HSZ:Hid ((P++(vb d++(vb T.size++natsOf T))).length≤8010+60*(i+1)):=zh (by
            simp only[zw0,natsOf_len];omega)
          clear hc hke hq hdr hmr hnx ht HP hle;have HK1:=zh (fun W=>rnum19 d (by omega) W);have HK2:=zh (fun W=>rnum19 T.size (by omega) W);have HSA:Hid (strOf P++strOf (vb d)++strOf (vb T.size)++T=strOf (P++(vb d++(vb T.size++natsOf T)))):=zh (by simp only[strOf_app,zw53,strOf_nats]);rw[←strOf_size]at v1 v2 hpl;obtain⟨S,hS⟩:∃q,q=strOf P:=⟨_,rfl⟩;obtain⟨K1,hK1⟩:∃q,q=strOf (vb d):=⟨_,rfl⟩;obtain⟨K2,hK2⟩:∃q,q=strOf (vb T.size):=⟨_,rfl⟩;rw[←hS,←hK1,←hK2]at HSA;rw[←hK1]at HK1 v1;rw[←hK2]at HK2 v2;rw[←hS]at hpl ⊢;have q1:¬9223372036854775807<S.size+K1.size:=by omega
          have q2:¬9223372036854775807<S.size+K1.size+K2.size:=by omega
          have q3:¬9223372036854775807<S.size+K1.size+K2.size+T.size:=by omega
          have z0:IntKind.i64.wrap (d:Int)=(d:Int):=IntWalk.i64_in _ (by omega);clear hS hK1 hK2 v1 v2 hpl;go_upto_region 18 with fail;have MKS:=zh (fun(W:World) (e:Ext wi W)=>(⟨kc e h4,kc e a0,kc e a1⟩:W.cell? ⟨hb,4,none⟩=some (.slice (some ⟨b,o,none⟩) nm t.sm.c)∧W.cell? ⟨b,o+i*2,none⟩=some (.int .i64 tk)∧W.cell? ⟨b,o+i*2+1,none⟩=some (.string T)));have HX:Hid (Ext wi wi.drew):=zh (zxd (zxr wi));clear a0 a1 h4;generalize hwd:wi.drew=WA at HX;have HS:=zh (MKS.out _ HX.out);refine zw38 (S:=fun W=>W.cell? ⟨hb,4,none⟩=some (.slice (some ⟨b,o,none⟩) nm t.sm.c)∧W.cell? ⟨b,o+i*2,none⟩=some (.int .i64 tk)∧W.cell? ⟨b,o+i*2+1,none⟩=some (.string T)) hmxF (by rw[hwd];exact HS.out) (fun _=>?_);rw[hwd];clear hwd
          iterate 22
           refine zqT (v:=?_) HS.out rfl ?_ ?_;rotate_left
           · intro w' hSw;obtain⟨s0,s1,s2⟩:=hSw;go_simp;try with_reducible rfl
           (try simp only[Act.put,zzA,zzB,zzC])
          refine zqO (i:=9) (by kernel_rfl) rfl fun K hK=>?_;go_simp
          (try rw[hd1])
          refine(HK1.out _).mono ?_;rintro e WA ⟨rfl,hE⟩;replace HX:=zh (zxt HX.out hE);have HS:=zh (MKS.out _ HX.out);clear hE
          (try go_wp2_with fail)
          refine hK.out _ _ HS.out fun _=>?_;clear hK K
          (try simp only[Act.put,zzA,zzB,zzC])
          (refine zqT (v:=?_) HS.out rfl ?_ ?_);rotate_left
          · intro w' hSw;obtain⟨s0,s1,s2⟩:=hSw;go_simp;try with_reducible rfl
          (try simp only[Act.put,zzA,zzB,zzC])
          refine zqO (i:=18) (by kernel_rfl) rfl fun K hK=>?_;go_simp
          (try rw[hd1])
          refine(HK2.out _).mono ?_;rintro e WA ⟨rfl,hE⟩;replace HX:=zh (zxt HX.out hE);have HS:=zh (MKS.out _ HX.out);clear hE
          (try go_wp2_with fail)
          refine hK.out _ _ HS.out fun _=>?_;clear hK K
          (try simp only[Act.put,zzA,zzB,zzC])
          iterate 3
           refine zqT (v:=?_) HS.out rfl ?_ ?_;rotate_left
           · intro w' hSw;obtain⟨s0,s1,s2⟩:=hSw;go_simp;try with_reducible rfl
           (try simp only[Act.put,zzA,zzB,zzC])
          refine zw39 (by kernel_rfl) ?_ _;obtain⟨d0,d1,d2⟩:=HS.out;go_wp2_with fail;rw[HSA.out]
          go_roundg (gi-1)
          case measure=>omega
          case rel=>exact⟨i+1,tk,P++(vb d++(vb T.size++natsOf T)),by omega,by go_num,rfl,rfl,k1,tk4,HNX.out,HSZ.out,HMR.out,zxt HE.out HX.out⟩
        · obtain rfl:gi=0:=by omega
          have y4:¬(i:Int)<(nm:Int):=by omega
          have HPF:Hid (P=Z):=zh (by
            rw[←HP.out,zw21 (by rw[HLM.out];omega)];simp[encMs])
          clear hpl hmc;obtain⟨S,hS⟩:∃q,q=strOf P:=⟨_,rfl⟩;have HSS:=zh hS;rw[←hS];clear hS;go_wp2_with fail;go_ret;exact⟨by rw[HSS.out,HPF.out];rfl,zxt HE0.out HE.out⟩
end Go.Proofs.YtbopblbhjcemaaaGreatDoor.Fil
