/- Law 20: the document's header. -/
import Derived.Test.YtbopblbhjcemaaaGreatDoorF22
set_option maxHeartbeats 16000000
set_option maxRecDepth 100000
set_option linter.all false
open Go.ChangeShapes Go.WideShapes Go.ChangeAt Go.RowKit
namespace Go.Proofs.YtbopblbhjcemaaaGreatDoor.Fil
open Wire
open Rec
open Log (Hv Sv cS cH mayH encH encS mayB_tiles)
theorem rnum17 (n:Nat) (h:n≤9223372036854775807) (w:World):Calls Tryz.prog 107 #[.int .i64 (n:Int)] w fun e w'=>e= .returned (.string (strOf (vb n)))∧Ext w w':=by
  have HV:=zh (fun W=>Wire.refVarint n (by omega) W);have hw:IntKind.u64.wrap (n:Int)=(n:Int):=by rw[IntKind.wrap_u64];omega
  go_enter Tryz.func107,Tryz.ntmps107;go_wp2_with fail;refine(HV.out _).mono ?_;rintro e w1 ⟨rfl,hE⟩;go_wp2_with fail;go_ret;exact⟨rfl,hE⟩
def HRel (w:World) (us:List Sv) (Z:List Nat) (m gh:Nat) (sv iv:Value) (wr:World):Prop:=
  ∃(i:Nat) (P:List Nat),i+gh=m∧iv= .int .i64 (i:Int)∧sv= .string (strOf P)∧P++encS ((us.drop i).map Log.Sv.st)=Z∧P.length≤6000+30*i∧Ext w wr
theorem rheader (x : Hv) (A : Option Addr) (c : Nat) (w : World) (hm : mayH x) (hs : x.seed < 4294967296) (hf : ∀ u ∈ x.starts, u.fits) (hB : RowR w A x.starts.length 3 cS x.starts) :
    Calls Tryz.prog 74 #[.agg (cH x (.slice A x.starts.length c))] w fun e w'=>e= .returned (.string (strOf (encH x.hd)))∧Ext w w':=by
  obtain⟨⟨o1,o2,o3,o4,o5,_⟩,p1,p4,p8,hb⟩:=hm;have ht:=mayB_tiles _ _ _ _ hb;have hts:x.tiles.size≤4096:=by
    have:(x.tiles.size:Int)≤64*64:=by rw[o5];exact Int.mul_le_mul o2 o4 (by omega) (by omega)
    omega
  obtain⟨xw,xh,xp,xs,T,us⟩:=x;simp only at o1 o2 o3 o4 p1 p4 p8 ht hts hs hf hB;clear o5 hb;obtain⟨a1,rfl⟩:∃n:Nat,xw=(n:Int):=⟨xw.toNat,by omega⟩;obtain⟨a2,rfl⟩:∃n:Nat,xh=(n:Int):=⟨xh.toNat,by omega⟩;obtain⟨a3,rfl⟩:∃n:Nat,xp=(n:Int):=⟨xp.toNat,by omega⟩;have HN1:=zh (fun W=>rnum17 a1 (by omega) W);have HN2:=zh (fun W=>rnum17 a2 (by omega) W);have HN3:=zh (fun W=>rnum17 a3 (by omega) W);have HN4:=zh (fun W=>Wire.refFixed xs hs W);have HN5:=zh (fun W=>rnum17 T.size (by omega) W);have HN6:=zh (fun W=>rnum17 us.length (by omega) W);have HB:=zh hB;have HF:=zh hf;have HT:=zh ht;have l1:(strOf (vb a1)).size≤10:=by rw[strOf_size];exact vb_ten (by omega)
  have l2:(strOf (vb a2)).size≤10:=by rw[strOf_size];exact vb_ten (by omega)
  have l3:(strOf (vb a3)).size≤10:=by rw[strOf_size];exact vb_ten (by omega)
  have l4:(strOf (fx xs)).size≤10:=by rw[strOf_size,fx_len];omega
  have l5:(strOf (vb T.size)).size≤10:=by rw[strOf_size];exact vb_ten (by omega)
  have l6:(strOf (vb us.length)).size≤10:=by rw[strOf_size];exact vb_ten (by omega)
  obtain⟨X,hX⟩:∃q,q=vb a1++(vb a2++(vb a3++(fx xs++(vb T.size++(natsOf T++vb us.length))))):=⟨_,rfl⟩;have HX:Hid (strOf (vb a1)++strOf (vb a2)++strOf (vb a3)++strOf (fx xs)++strOf (vb T.size)++T++strOf (vb us.length)=strOf X):=zh (by
    rw[hX];simp only[strOf_app,strOf_nats,zw53])
  have HXL:Hid (X.length≤6000):=zh (by
    rw[hX];simp only[zw0,fx_len,natsOf_len];rw[strOf_size]at l1 l2 l3 l5 l6;omega)
  have HZ:Hid (X++encS (us.map Log.Sv.st)=encH (Log.Hv.hd ⟨(a1:Int),(a2:Int),(a3:Int),xs,T,us⟩)):=zh (by
    rw[hX];unfold encH Log.Hv.hd;simp only[zw35,natsOf_len,zw4,zw7])
  obtain⟨m,hm⟩:∃q,us.length=q:=⟨_,rfl⟩;obtain⟨Z,hZ⟩:∃q,encH (Log.Hv.hd ⟨(a1:Int),(a2:Int),(a3:Int),xs,T,us⟩)=q:=⟨_,rfl⟩;rw[hZ]at HZ;show Calls Tryz.prog 74 #[.agg #[.int .i64 (a1:Int),.int .i64 (a2:Int),.int .i64 (a3:Int),.int .u32 (xs:Int),.string T,.slice A us.length c]] w fun e w'=>e= .returned (.string (strOf (encH (Log.Hv.hd ⟨(a1:Int),(a2:Int),(a3:Int),xs,T,us⟩))))∧Ext w w';rw[hZ];obtain⟨S1,hS1⟩:∃q,q=strOf (vb a1):=⟨_,rfl⟩;obtain⟨S2,hS2⟩:∃q,q=strOf (vb a2):=⟨_,rfl⟩;obtain⟨S3,hS3⟩:∃q,q=strOf (vb a3):=⟨_,rfl⟩;obtain⟨S4,hS4⟩:∃q,q=strOf (fx xs):=⟨_,rfl⟩;obtain⟨S5,hS5⟩:∃q,q=strOf (vb T.size):=⟨_,rfl⟩;obtain⟨S6,hS6⟩:∃q,q=strOf (vb us.length):=⟨_,rfl⟩;rw[←hS1,←hS2,←hS3,←hS4,←hS5,←hS6]at HX;rw[←hS1]at HN1 l1;rw[←hS2]at HN2 l2;rw[←hS3]at HN3 l3;rw[←hS4]at HN4 l4;rw[←hS5]at HN5 l5;rw[←hS6]at HN6 l6;rw[hm]at HN6 ⊢;rw[hm]at p8;have HM:=zh hm;have q1:¬9223372036854775807<S1.size+S2.size:=by omega
  have q2:¬9223372036854775807<S1.size+S2.size+S3.size:=by omega
  have q3:¬9223372036854775807<S1.size+S2.size+S3.size+S4.size:=by omega
  have q4:¬9223372036854775807<S1.size+S2.size+S3.size+S4.size+S5.size:=by omega
  have q5:¬9223372036854775807<S1.size+S2.size+S3.size+S4.size+S5.size+T.size:=by omega
  have q6:¬9223372036854775807<S1.size+S2.size+S3.size+S4.size+S5.size+T.size+S6.size:=by omega
  have HH0:=zh (Blk.new w 56 #[.int .i64 (a1:Int),.int .i64 (a2:Int),.int .i64 (a3:Int),.int .u32 (xs:Int),.string T,.slice A m c]);have HE0:=zh (zxa (zxr w) (.cells #[.int .i64 (a1:Int),.int .i64 (a2:Int),.int .i64 (a3:Int),.int .u32 (xs:Int),.string T,.slice A m c] 56));clear hS1 hS2 hS3 hS4 hS5 hS6 hX hZ hm l1 l2 l3 l4 l5 l6 ht hf hB o1 o2 o3 o4 p1 p4 hs;go_enter Tryz.func74,Tryz.ntmps74;go_upto_region 1 with fail;obtain⟨w0,hw0⟩:∃q,q=w.alloc (.cells #[.int .i64 (a1:Int),.int .i64 (a2:Int),.int .i64 (a3:Int),.int .u32 (xs:Int),.string T,.slice A m c] 56):=⟨_,rfl⟩;rw[←hw0]at HE0 HH0 ⊢;clear hw0;generalize w.heap.size=hb at*;have HW0:Hid (Ext w0 w0.drew):=zh (zxd (zxr w0));have HH:=zh (HH0.out.ext (zxd (zxr w0)));generalize hwd:w0.drew=wd at HW0 HH;have HE:=zh (zxr wd);have MKS:=zh (fun(W:World) (e:Ext wd W)=>(⟨kc e (HH.out.cell 0),kc e (HH.out.cell 1),kc e (HH.out.cell 2),kc e (HH.out.cell 3),kc e (HH.out.cell 4),kc e (HH.out.cell 5)⟩:W.cell? ⟨hb,0,none⟩=some (.int .i64 (a1:Int))∧W.cell? ⟨hb,1,none⟩=some (.int .i64 (a2:Int))∧W.cell? ⟨hb,2,none⟩=some (.int .i64 (a3:Int))∧W.cell? ⟨hb,3,none⟩=some (.int .u32 (xs:Int))∧W.cell? ⟨hb,4,none⟩=some (.string T)∧W.cell? ⟨hb,5,none⟩=some (.slice A m c)));have HS:=zh (MKS.out _ HE.out);refine zw38 (S:=fun W=>W.cell? ⟨hb,0,none⟩=some (.int .i64 (a1:Int))∧W.cell? ⟨hb,1,none⟩=some (.int .i64 (a2:Int))∧W.cell? ⟨hb,2,none⟩=some (.int .i64 (a3:Int))∧W.cell? ⟨hb,3,none⟩=some (.int .u32 (xs:Int))∧W.cell? ⟨hb,4,none⟩=some (.string T)∧W.cell? ⟨hb,5,none⟩=some (.slice A m c)) hmxF (by rw[hwd];exact HS.out) (fun _=>?_)
  rw[hwd]
  iterate 16
   refine zqT (v:=?_) HS.out rfl ?_ ?_;rotate_left
   · intro w' hSw;obtain⟨s0,s1,s2,s3,s4,s5⟩:=hSw;go_simp;try with_reducible rfl
   (try simp only[Act.put,zzA,zzB,zzC])
  refine zqO (i:=2) (by kernel_rfl) rfl fun K hK=>?_;go_simp;refine(HN1.out _).mono ?_;rintro e w2 ⟨rfl,hE⟩;replace HE:=zh (zxt HE.out hE);have HS:=zh (MKS.out _ HE.out);clear hE
  (try go_wp2_with fail)
  refine hK.out _ _ HS.out fun _=>?_;clear hK K
  (try simp only[Act.put,zzA,zzB,zzC])
  refine zqO (i:=5) (by kernel_rfl) rfl fun K hK=>?_;go_simp;refine(HN2.out _).mono ?_;rintro e w2 ⟨rfl,hE⟩;replace HE:=zh (zxt HE.out hE);have HS:=zh (MKS.out _ HE.out);clear hE
  (try go_wp2_with fail)
  refine hK.out _ _ HS.out fun _=>?_;clear hK K
  (try simp only[Act.put,zzA,zzB,zzC])
  (refine zqT (v:=?_) HS.out rfl ?_ ?_);rotate_left
  · intro w' hSw;obtain⟨s0,s1,s2,s3,s4,s5⟩:=hSw;go_simp;try with_reducible rfl
  (try simp only[Act.put,zzA,zzB,zzC])
  refine zqO (i:=9) (by kernel_rfl) rfl fun K hK=>?_;go_simp;refine(HN3.out _).mono ?_;rintro e w2 ⟨rfl,hE⟩;replace HE:=zh (zxt HE.out hE);have HS:=zh (MKS.out _ HE.out);clear hE
  (try go_wp2_with fail)
  refine hK.out _ _ HS.out fun _=>?_;clear hK K
  (try simp only[Act.put,zzA,zzB,zzC])
  (refine zqT (v:=?_) HS.out rfl ?_ ?_);rotate_left
  · intro w' hSw;obtain⟨s0,s1,s2,s3,s4,s5⟩:=hSw;go_simp;try with_reducible rfl
  (try simp only[Act.put,zzA,zzB,zzC])
  refine zqO (i:=13) (by kernel_rfl) rfl fun K hK=>?_;go_simp;refine(HN4.out _).mono ?_;rintro e w2 ⟨rfl,hE⟩;replace HE:=zh (zxt HE.out hE);have HS:=zh (MKS.out _ HE.out);clear hE
  (try go_wp2_with fail)
  refine hK.out _ _ HS.out fun _=>?_;clear hK K
  (try simp only[Act.put,zzA,zzB,zzC])
  (refine zqT (v:=?_) HS.out rfl ?_ ?_);rotate_left
  · intro w' hSw;obtain⟨s0,s1,s2,s3,s4,s5⟩:=hSw;go_simp;try with_reducible rfl
  (try simp only[Act.put,zzA,zzB,zzC])
  refine zqO (i:=18) (by kernel_rfl) rfl fun K hK=>?_;go_simp;refine(HN5.out _).mono ?_;rintro e w2 ⟨rfl,hE⟩;replace HE:=zh (zxt HE.out hE);have HS:=zh (MKS.out _ HE.out);clear hE
  (try go_wp2_with fail)
  refine hK.out _ _ HS.out fun _=>?_;clear hK K
  (try simp only[Act.put,zzA,zzB,zzC])
  iterate 2
   refine zqT (v:=?_) HS.out rfl ?_ ?_;rotate_left
   · intro w' hSw;obtain⟨s0,s1,s2,s3,s4,s5⟩:=hSw;go_simp;try with_reducible rfl
   (try simp only[Act.put,zzA,zzB,zzC])
  refine zqO (i:=26) (by kernel_rfl) rfl fun K hK=>?_;go_simp;refine(HN6.out _).mono ?_;rintro e w2 ⟨rfl,hE⟩;replace HE:=zh (zxt HE.out hE);have HS:=zh (MKS.out _ HE.out);clear hE
  (try go_wp2_with fail)
  refine hK.out _ _ HS.out fun _=>?_;clear hK K
  (try simp only[Act.put,zzA,zzB,zzC])
  iterate 2
   refine zqT (v:=?_) HS.out rfl ?_ ?_;rotate_left
   · intro w' hSw;obtain⟨s0,s1,s2,s3,s4,s5⟩:=hSw;go_simp;try with_reducible rfl
   (try simp only[Act.put,zzA,zzB,zzC])
  refine zw39 (by kernel_rfl) ?_ _;go_wp2_with fail;rw[HX.out];have HEX:=zh (zxt HW0.out HE.out);clear q1 q2 q3 q4 q5 q6 HN1 HN2 HN3 HN4 HN5 HN6 HX HS MKS
  go_loopg [3,4] m (fun gh sv iv wr=>HRel w0 us Z m gh sv iv wr)
  case atStart=>exact⟨0,X,by omega,rfl,rfl,HZ.out,by have:=HXL.out;omega,HEX.out⟩
  case round=>
    obtain⟨i,P,hi,rfl,rfl,hP,hpl,hE⟩:=hrel;obtain⟨wi,rfl⟩:∃wi:World,wi=wr:=⟨_,rfl⟩;obtain⟨gh,rfl⟩:∃gh:Nat,gh=gk:=⟨_,rfl⟩;have y1:(0:Int)≤(i:Int):=by omega
    have d5:=(HH0.out.ext hE).cell 5;simp only[zzD,zzE,zzF]at d5;have HEI:=zh hE;by_cases hlt:i<m
    · have y2:(i:Int)<(m:Int):=by omega
      have hil:i<us.length:=by rw[HM.out];exact hlt
      obtain⟨bs,os,rfl,hbw,hcell⟩:=HB.out.2 (by show 0<us.length;omega);have e0w:Ext w wi:=zxt HE0.out hE;have t0:=kc e0w (hcell i hil 0 (by omega));have t1:=kc e0w (hcell i hil 1 (by omega));have t2:=kc e0w (hcell i hil 2 (by omega));have hdr:us.drop i=us[i]::us.drop (i+1):=zw20 hil;have hfit:=HF.out _ (zw25 hil);have htl:=HT.out _ (zw25 hil);rw[hdr]at hP;generalize us[i]=u at t0 t1 t2 hfit htl hP;obtain⟨b1,b2,b3⟩:=u;simp only[cS,List.getElem?_cons_zero,List.getElem?_cons_succ,Nat.add_zero]at t0 t1 t2;obtain⟨f1,f2,f3,f4⟩:=hfit;obtain⟨g1,g2,g3⟩:=htl;simp only at f1 f2 f3 f4 g1 g2 g3;obtain⟨b3,rfl⟩:∃n:Nat,b3=(n:Int):=⟨b3.toNat,by omega⟩;have HNX:Hid ((P++(vb b1++(vb b2++vb b3)))++encS ((us.drop (i+1)).map Log.Sv.st)=Z):=zh (by
        rw[←hP,List.map_cons,encS];simp[Log.Sv.st,zw7])
      have v1:(vb b1).length≤10:=vb_ten (by omega);have v2:(vb b2).length≤10:=vb_ten (by omega);have v3:(vb b3).length≤10:=vb_ten (by omega);have HPL:Hid ((P++(vb b1++(vb b2++vb b3))).length≤6000+30*(i+1)):=zh (by simp only[zw0];omega);have HK1:=zh (fun W=>rnum17 b1 (by omega) W);have HK2:=zh (fun W=>rnum17 b2 (by omega) W);have HK3:=zh (fun W=>rnum17 b3 (by omega) W);have HSA:Hid (strOf P++strOf (vb b1)++strOf (vb b2)++strOf (vb b3)=strOf (P++(vb b1++(vb b2++vb b3)))):=zh (by simp only[strOf_app,zw53]);rw[←strOf_size]at v1 v2 v3 hpl;obtain⟨S,hS⟩:∃q,q=strOf P:=⟨_,rfl⟩;obtain⟨K1,hK1⟩:∃q,q=strOf (vb b1):=⟨_,rfl⟩;obtain⟨K2,hK2⟩:∃q,q=strOf (vb b2):=⟨_,rfl⟩;obtain⟨K3,hK3⟩:∃q,q=strOf (vb b3):=⟨_,rfl⟩;rw[←hS,←hK1,←hK2,←hK3]at HSA;rw[←hK1]at HK1 v1;rw[←hK2]at HK2 v2;rw[←hK3]at HK3 v3;rw[←hS]at hpl ⊢;have q1:¬9223372036854775807<S.size+K1.size:=by omega
      have q2:¬9223372036854775807<S.size+K1.size+K2.size:=by omega
      have q3:¬9223372036854775807<S.size+K1.size+K2.size+K3.size:=by omega
      clear hS hK1 hK2 hK3 v1 v2 v3 hpl hP hdr hcell e0w hE hil;have w1:IntKind.i64.wrap (b1:Int)=(b1:Int):=IntWalk.i64_in _ (by omega);have w2':IntKind.i64.wrap (b2:Int)=(b2:Int):=IntWalk.i64_in _ (by omega);go_upto_region 5 with fail;have C5:=zh (⟨d5,t0,t1,t2⟩:wi.cell? ⟨hb,5,none⟩=some (.slice (some ⟨bs,os,none⟩) m c)∧wi.cell? ⟨bs,os+i*3,none⟩=some (.int .u8 (b1:Int))∧wi.cell? ⟨bs,os+i*3+1,none⟩=some (.int .u8 (b2:Int))∧wi.cell? ⟨bs,os+i*3+2,none⟩=some (.int .i64 (b3:Int)));clear d5 t0 t1 t2;have HLW:Hid (hb<wi.heap.size∧bs<wi.heap.size):=zh ⟨zw9 HH0.out.lt HEI.out.size,zw9 hbw (zw10 HE0.out.size HEI.out.size)⟩;have HE6:=zh (zxd HEI.out);have MK6:=zh (fun(W:World) (e:Ext wi W)=>(⟨kc e C5.out.1,kc e C5.out.2.1,kc e C5.out.2.2.1,kc e C5.out.2.2.2⟩:W.cell? ⟨hb,5,none⟩=some (.slice (some ⟨bs,os,none⟩) m c)∧W.cell? ⟨bs,os+i*3,none⟩=some (.int .u8 (b1:Int))∧W.cell? ⟨bs,os+i*3+1,none⟩=some (.int .u8 (b2:Int))∧W.cell? ⟨bs,os+i*3+2,none⟩=some (.int .i64 (b3:Int))));have HDW:Hid (Ext wi wi.drew):=zh (zxd (zxr wi));generalize hwd5:wi.drew=wd5 at HE6 HDW;have HE5:=zh (zxr wd5);have MK5:=zh (fun(W:World) (e:Ext wd5 W)=>MK6.out W (zxt HDW.out e));have HS:=zh (MK5.out _ HE5.out);refine zw38 (S:=fun W=>W.cell? ⟨hb,5,none⟩=some (.slice (some ⟨bs,os,none⟩) m c)∧W.cell? ⟨bs,os+i*3,none⟩=some (.int .u8 (b1:Int))∧W.cell? ⟨bs,os+i*3+1,none⟩=some (.int .u8 (b2:Int))∧W.cell? ⟨bs,os+i*3+2,none⟩=some (.int .i64 (b3:Int))) hmxF (by rw[hwd5];exact HS.out) (fun _=>?_);rw[hwd5]
      iterate 21
       refine zqT (v:=?_) HS.out rfl ?_ ?_;rotate_left
       · intro w' hSw;obtain⟨s0,s1,s2,s3⟩:=hSw;go_simp;try with_reducible rfl
       (try simp only[Act.put,zzA,zzB,zzC])
      refine zqO (i:=8) (by kernel_rfl) rfl fun K hK=>?_;go_simp;refine(HK1.out _).mono ?_;rintro e w2 ⟨rfl,hE⟩;replace HE5:=zh (zxt HE5.out hE);have HS:=zh (MK5.out _ HE5.out);clear hE
      (try go_wp2_with fail)
      refine hK.out _ _ HS.out fun _=>?_;clear hK K
      (try simp only[Act.put,zzA,zzB,zzC])
      (refine zqT (v:=?_) HS.out rfl ?_ ?_);rotate_left
      · intro w' hSw;obtain⟨s0,s1,s2,s3⟩:=hSw;go_simp;try with_reducible rfl
      (try simp only[Act.put,zzA,zzB,zzC])
      refine zqO (i:=17) (by kernel_rfl) rfl fun K hK=>?_;go_simp;refine(HK2.out _).mono ?_;rintro e w2 ⟨rfl,hE⟩;replace HE5:=zh (zxt HE5.out hE);have HS:=zh (MK5.out _ HE5.out);clear hE
      (try go_wp2_with fail)
      refine hK.out _ _ HS.out fun _=>?_;clear hK K
      (try simp only[Act.put,zzA,zzB,zzC])
      (refine zqT (v:=?_) HS.out rfl ?_ ?_);rotate_left
      · intro w' hSw;obtain⟨s0,s1,s2,s3⟩:=hSw;go_simp;try with_reducible rfl
      (try simp only[Act.put,zzA,zzB,zzC])
      refine zqO (i:=25) (by kernel_rfl) rfl fun K hK=>?_;go_simp;refine(HK3.out _).mono ?_;rintro e w2 ⟨rfl,hE⟩;replace HE5:=zh (zxt HE5.out hE);have HS:=zh (MK5.out _ HE5.out);clear hE
      (try go_wp2_with fail)
      refine hK.out _ _ HS.out fun _=>?_;clear hK K
      (try simp only[Act.put,zzA,zzB,zzC])
      iterate 2
       refine zqT (v:=?_) HS.out rfl ?_ ?_;rotate_left
       · intro w' hSw;obtain⟨s0,s1,s2,s3⟩:=hSw;go_simp;try with_reducible rfl
       (try simp only[Act.put,zzA,zzB,zzC])
      refine zw39 (by kernel_rfl) ?_ _;go_wp2_with fail;rw[HSA.out]
      go_roundg (gh-1)
      case measure=>omega
      case rel=>exact⟨i+1,P++(vb b1++(vb b2++vb b3)),by omega,by go_num,rfl,HNX.out,HPL.out,zxt HE6.out HE5.out⟩
    · obtain rfl:gh=0:=by omega
      have y2:¬(i:Int)<(m:Int):=by omega
      have hf:P=Z:=by
        rw[←hP,zw21 (by rw[HM.out];omega)];simp[encS]
      subst hf;obtain⟨S,hS⟩:∃S,S=strOf P:=⟨_,rfl⟩;rw[←hS];have HSS:=zh hS;clear hE hS;go_wp2_with fail;go_ret;exact⟨by rw[←HSS.out];rfl,zxt HE0.out HEI.out⟩
end Go.Proofs.YtbopblbhjcemaaaGreatDoor.Fil
