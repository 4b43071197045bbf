
import Derived.Test.YtidnboeihkeljaaGreatDoorFiG
import Derived.Test.YtidnboeihkeljaaGreatDoorFiC
set_option maxHeartbeats 16000000
set_option maxRecDepth 100000
set_option linter.all false
open Go.ChangeShapes Go.WideShapes Go.ChangeAt Go.RowKit
namespace Go.Proofs.YtidnboeihkeljaaGreatDoor.Fil
open Wire
open Rec
open Trk (Sl Tv Tk TkV)
open Log (Hv Ev cH cS cV)
theorem RfP.ext' {w w':World} {p:Pv} {x:Hv} {evs:List Ev} {tr:Tk} {ts:List ByteArray} (h:RfP w p x evs tr ts) (e:Ext w w'):RfP w' p x evs tr ts:=⟨h.1.ext e,h.2.1.ext e,h.2.2.1.ext e,h.2.2.2.ext e⟩
structure Rdy (r:Rc) (ts:List ByteArray):Prop where
  fs:r.fs=ts.map natsOf
  win:∀c∈r.tr.cams,∀p∈c,(-2147483648≤p.x∧p.x≤2147483647)∧ -2147483648≤p.y∧p.y≤2147483647
  few:(∀c∈r.tr.cams,c.length≤1000000)∧r.tr.marks.length≤1000000
theorem reads_st (A : Option Addr) (n c : Nat) (xs : List Nat) (r : Rc) (L : List Nat) (b3 b4 iA : Nat) (p : Pv) (ts : List ByteArray) (w : World) (hT : Crc.Tab w) (hB : Bs w A n xs) (hn : n ≤ c) (hc : c ≤ 9223372036854775807) (hO : Opn xs r L b3 b4 iA) (h : RfP w p r.x r.evs r.tr ts) (hy : Rdy r ts) :
    Calls Tryz.prog 20 #[.slice A n c,.agg (cPa r.x (.slice p.A r.x.starts.length p.c) (.slice p.Al r.evs.length p.cl) r.N r.K p.t (.slice p.Af ts.length p.cf))] w fun e w'=>e= .returned (.bool true)∧Ext w w':=by
  have hlo:=hO.low;have h1:=hlo.starts;have h2:=hlo.evs;have HOP:=zh (fun(W:World) (e:Ext w W)=>open_ok A n c xs r L b3 b4 iA W (hT.ext e) (hB.ext e) hn hc hO);have HPA:=zh (fun(f:Nat) (W:World) (hF:FV W f xs r b3 b4 iA)=>parts_st f xs r b3 b4 iA W hF ⟨by omega,by omega,hy.few.1,hy.few.2⟩);have HSA:=zh (fun(W:World) (e:Ext w W) A c Al cl t (hA:RowR W A r.x.starts.length 3 cS r.x.starts) (hL:RowR W Al r.evs.length 7 cV r.evs) (hT':TkV W t r.tr)=>same20 r.x r.evs r.N r.K r.tr ts A c Al cl t p W hA hL hT' (h.ext' e) hy.win hy.few ⟨by omega,by omega⟩);have hfl:r.fs.length=ts.length:=by rw[hy.fs,zw4]
  have hget:∀i (hi:i<ts.length),r.fs.getD i []=natsOf ts[i]:=fun i hi=>by rw[hy.fs];simp[zw5,zw6 hi]
  have HFR:=zh (fun(f t:Nat) (W:World) (e:Ext w W) (hF:FV W f xs r b3 b4 iA) (ht:t<ts.length)=>by
    have h3:=frame_in f xs r L b3 b4 iA t W (hT.ext e) hF hO (by rw[hfl];exact ht);rw[hget t ht]at h3;exact h3)
  obtain⟨m,hm⟩:∃z,ts.length=z:=⟨_,rfl⟩;have hNm:r.N=(m:Int)-1∧m≤40:=by
    have h3:=hO.may.2.2.2.2.2.2;have h4:=hlo.frames;rw[hfl,hm]at h3 h4;omega
  have HSZ:=zh (fun i (hi:i<ts.length)=>(show ts[i].size≤500 from by
    have h5:=hlo.frame _ (get_mem (show i<r.fs.length from by rw[hfl];exact hi));rw[hget i hi,natsOf_len]at h5;exact h5))
  have HTX:=zh h.2.2.2;have HE0:=zh (zxa (zxr w) (.cells (cPa r.x (.slice p.A r.x.starts.length p.c) (.slice p.Al r.evs.length p.cl) r.N r.K p.t (.slice p.Af ts.length p.cf)) 34));have HH0:=zh (Blk.new w 34 (cPa r.x (.slice p.A r.x.starts.length p.c) (.slice p.Al r.evs.length p.cl) r.N r.K p.t (.slice p.Af ts.length p.cf)));clear hO h hy hT hB hlo h1 h2 hfl hget;obtain⟨⟨xw,xh,xp,xz,xt,us⟩,evs,N,K,tr,fs⟩:=r;obtain⟨B,d,Bl,dl,⟨⟨B0,m0,d0⟩,⟨B1,m1,d1⟩,⟨B2,m2,d2⟩,⟨B3,m3,d3⟩,⟨Bm,mm,dm⟩⟩,Bf,df⟩:=p;simp only[cPa]at HSA HE0 HH0 hNm ⊢;obtain⟨hNm,hm40⟩:=hNm;replace hNm:=zh hNm;rw[hm]at HSA HE0 HH0 HTX ⊢;have HML:=zh hm;clear hm;go_enter Tryz.func20,Tryz.ntmps20;go_upto_region 1 with fail;obtain⟨w0,hw0⟩:∃q,q=w.alloc (.cells #[.int .i64 xw,.int .i64 xh,.int .i64 xp,.int .u32 (xz:Int),.string xt,.slice B us.length d,.slice Bl evs.length dl,.int .i64 N,.int .i64 K,.slice B0 m0 d0,.slice B1 m1 d1,.slice B2 m2 d2,.slice B3 m3 d3,.slice Bm mm dm,.slice Bf m df] 34):=⟨_,rfl⟩;rw[←hw0]at HE0 HH0 ⊢;clear hw0;generalize w.heap.size=hb at*;go_wp2_with fail;refine(HOP.out _ HE0.out).mono ?_;rintro e w1 ⟨f,rfl,hF,hE⟩;have HFV:=zh hF;have HE1:=zh (zxt HE0.out hE);have HH1:=zh (HH0.out.ext hE);clear hF hE HOP HH0 HE0;have MKS:=zh (fun(W:World) (e:Ext w1 W)=>(⟨kc e (HH1.out.cell 0),kc e (HH1.out.cell 1),kc e (HH1.out.cell 2),kc e (HH1.out.cell 3),kc e (HH1.out.cell 4),kc e (HH1.out.cell 5),kc e (HH1.out.cell 6),kc e (HH1.out.cell 7),kc e (HH1.out.cell 8),kc e (HH1.out.cell 9),kc e (HH1.out.cell 10),kc e (HH1.out.cell 11),kc e (HH1.out.cell 12),kc e (HH1.out.cell 13),kc e (HH1.out.cell 14)⟩:W.cell? ⟨hb,0,none⟩=some (.int .i64 xw)∧W.cell? ⟨hb,1,none⟩=some (.int .i64 xh)∧W.cell? ⟨hb,2,none⟩=some (.int .i64 xp)∧W.cell? ⟨hb,3,none⟩=some (.int .u32 (xz:Int))∧W.cell? ⟨hb,4,none⟩=some (.string xt)∧W.cell? ⟨hb,5,none⟩=some (.slice B us.length d)∧W.cell? ⟨hb,6,none⟩=some (.slice Bl evs.length dl)∧W.cell? ⟨hb,7,none⟩=some (.int .i64 N)∧W.cell? ⟨hb,8,none⟩=some (.int .i64 K)∧W.cell? ⟨hb,9,none⟩=some (.slice B0 m0 d0)∧W.cell? ⟨hb,10,none⟩=some (.slice B1 m1 d1)∧W.cell? ⟨hb,11,none⟩=some (.slice B2 m2 d2)∧W.cell? ⟨hb,12,none⟩=some (.slice B3 m3 d3)∧W.cell? ⟨hb,13,none⟩=some (.slice Bm mm dm)∧W.cell? ⟨hb,14,none⟩=some (.slice Bf m df)))
  go_upto_region 2 with fail;have HX:=zh (zxd (zxr w1));generalize hwd:w1.drew=WA at HX;have HS:=zh (MKS.out _ HX.out);refine zw38 (S:=fun W=>W.cell? ⟨hb,0,none⟩=some (.int .i64 xw)∧W.cell? ⟨hb,1,none⟩=some (.int .i64 xh)∧W.cell? ⟨hb,2,none⟩=some (.int .i64 xp)∧W.cell? ⟨hb,3,none⟩=some (.int .u32 (xz:Int))∧W.cell? ⟨hb,4,none⟩=some (.string xt)∧W.cell? ⟨hb,5,none⟩=some (.slice B us.length d)∧W.cell? ⟨hb,6,none⟩=some (.slice Bl evs.length dl)∧W.cell? ⟨hb,7,none⟩=some (.int .i64 N)∧W.cell? ⟨hb,8,none⟩=some (.int .i64 K)∧W.cell? ⟨hb,9,none⟩=some (.slice B0 m0 d0)∧W.cell? ⟨hb,10,none⟩=some (.slice B1 m1 d1)∧W.cell? ⟨hb,11,none⟩=some (.slice B2 m2 d2)∧W.cell? ⟨hb,12,none⟩=some (.slice B3 m3 d3)∧W.cell? ⟨hb,13,none⟩=some (.slice Bm mm dm)∧W.cell? ⟨hb,14,none⟩=some (.slice Bf m df)) hmxF (by rw[hwd];exact HS.out) (fun _=>?_);rw[hwd];clear hwd
  iterate 9
   refine zqT (v:=?_) HS.out rfl ?_ ?_;rotate_left
   · intro w' hSw;obtain⟨s0,s1,s2,s3,s4,s5,s6,s7,s8,s9,s10,s11,s12,s13,s14⟩:=hSw;go_simp;try with_reducible rfl
   (try simp only[Act.put,zzA,zzB,zzC])
  refine zqO (i:=8) (by kernel_rfl) rfl fun K hK=>?_;go_simp;refine(HPA.out f _ (HFV.out.ext HX.out)).mono ?_;rintro e WA ⟨A7,c7,Al7,cl7,⟨⟨A0,n0,c0⟩,⟨A1,n1,c1⟩,⟨A2,n2,c2⟩,⟨A3,n3,c3⟩,⟨Am,nm,cm⟩⟩,rfl,hA,hL,hTk,hE⟩;have HAT:=zh hA;have HLT:=zh hL;have HTT:=zh hTk;replace HX:=zh (zxt HX.out hE);have HS:=zh (MKS.out _ HX.out);clear hA hL hTk hE;simp only[cPa]
  (try go_wp2_with fail)
  refine hK.out _ _ HS.out fun _=>?_;clear hK K
  (try simp only[Act.put,zzA,zzB,zzC])
  refine zqO (i:=10) (by kernel_rfl) rfl fun K hK=>?_;have HSM:=zh (HSA.out _ (zxt HE1.out HX.out) _ c7 _ cl7 _ HAT.out HLT.out HTT.out);simp only[cPa]at HSM;go_simp;refine(HSM.out).mono ?_;rintro e WA ⟨rfl,hE⟩;replace HX:=zh (zxt HX.out hE);have HS:=zh (MKS.out _ HX.out);clear hE HSM
  (try go_wp2_with fail)
  refine hK.out _ _ HS.out fun _=>?_;clear hK K
  (try simp only[Act.put,zzA,zzB,zzC])
  iterate 2
   refine zqT (v:=?_) HS.out rfl ?_ ?_;rotate_left
   · intro w' hSw;obtain⟨s0,s1,s2,s3,s4,s5,s6,s7,s8,s9,s10,s11,s12,s13,s14⟩:=hSw;go_simp;try with_reducible rfl
   (try simp only[Act.put,zzA,zzB,zzC])
  refine zw39 (by kernel_rfl) ?_ _;go_wp2_with fail;obtain⟨W0,rfl⟩:∃z,z=WA:=⟨_,rfl⟩;have HW0:=zh (zxt HE1.out HX.out);have HF0:=zh (HFV.out.ext HX.out);have MK0:=zh (fun(W:World) (e:Ext W0 W)=>MKS.out W (zxt HX.out e));clear HFV HX HS MKS HSA HPA HAT HLT HTT HE1 HH1
  go_loopg [7] m (fun gh iv wr=>∃k:Nat,k+gh=m∧iv= .int .i64 (k:Int)∧Ext W0 wr)
  case atStart=>exact⟨0,by omega,rfl,zxr _⟩
  case round=>
    obtain⟨k,hk,rfl,hE⟩:=hrel;obtain⟨wi,rfl⟩:∃wi:World,wi=wr:=⟨_,rfl⟩;obtain⟨gh,rfl⟩:∃gh:Nat,gh=gk:=⟨_,rfl⟩;have HE:=zh hE;obtain⟨s0,s1,s2,s3,s4,s5,s6,s7,s8,s9,s10,s11,s12,s13,s14⟩:=MK0.out _ hE;clear hE s0 s1 s2 s3 s4 s5 s6 s8 s9 s10 s11 s12 s13;have y1:(0:Int)≤(k:Int):=by omega
    by_cases hlt:k<m
    · have hkt:k<ts.length:=by rw[HML.out];exact hlt
      obtain⟨bs,os,rfl,hbw,hcell⟩:=HTX.out.2 (by omega);have HST:=zh (fun W (e:Ext w W)=>kc e (hcell k hkt 0 (by omega)));simp only[cT,List.getElem?_cons_zero,Nat.mul_one,Nat.add_zero]at HST;have htz:=HSZ.out k hkt;have HFK:=zh (HFR.out f k wi (zxt HW0.out HE.out) (HF0.out.ext HE.out) hkt);have y2:(k:Int)≤N:=by have:=hNm.out;omega
      have y3:(k:Int)<(m:Int):=by omega
      generalize ts[k]=T at*;clear hcell hkt;go_wp2_with fail;refine(HFK.out).mono ?_;rintro e w3 ⟨A8,c8',rfl,hB8,hE8⟩;have HB8:=zh hB8;have HE8:=zh (zxt HE.out hE8);obtain⟨l8,hl8⟩:∃z,(natsOf T).length=z:=⟨_,rfl⟩;rw[hl8]at HB8 ⊢;have HCV:Hid (∀W,Bs W A8 l8 (natsOf T)→(convert 48 9 (.slice A8 l8 c8')).run Tryz.prog W= .ok (.string T) W):=zh (fun W h=>by have:=Com.conv8 h c8';rwa [strOf_nats]at this);have MKT:=zh (fun(W:World) (e:Ext w3 W)=>(⟨(MK0.out _ (zxt HE8.out e)).2.2.2.2.2.2.2.2.2.2.2.2.2.2,HST.out _ (zxt HW0.out (zxt HE8.out e)),HB8.out.ext e⟩:W.cell? ⟨hb,14,none⟩=some (.slice (some ⟨bs,os,none⟩) m df)∧W.cell? ⟨bs,os+k,none⟩=some (.string T)∧Bs W A8 l8 (natsOf T)));clear hB8 hE8 HFK s7 s14 hl8;go_upto_region 8 with fail;have HX:=zh (zxd (zxr w3));generalize hwd:w3.drew=WB at HX;have HS:=zh (MKT.out _ HX.out);refine zw38 (S:=fun W=>W.cell? ⟨hb,14,none⟩=some (.slice (some ⟨bs,os,none⟩) m df)∧W.cell? ⟨bs,os+k,none⟩=some (.string T)∧Bs W A8 l8 (natsOf T)) hmxF (by rw[hwd];exact HS.out) (fun _=>?_);rw[hwd];clear hwd
      iterate 4
       refine zqT (v:=?_) HS.out rfl ?_ ?_;rotate_left
       · intro w' hSw;obtain⟨s0,s1,hg⟩:=hSw;go_simp;try with_reducible rfl
       (try simp only[Act.put,zzA,zzB,zzC])
      (refine zqK (i:=4) (v:= .string T) rfl (Or.inl ⟨by rfl,?_⟩) HS.out ?_)
      · (intro w' hSw;obtain⟨s0,s1,hg⟩:=hSw;have hcv:=HCV.out w' hg;go_simp;try with_reducible rfl)
      (try simp only[Act.put,zzA,zzB,zzC])
      iterate 7
       refine zqT (v:=?_) HS.out rfl ?_ ?_;rotate_left
       · intro w' hSw;obtain⟨s0,s1,hg⟩:=hSw;go_simp;try with_reducible rfl
       (try simp only[Act.put,zzA,zzB,zzC])
      refine zw39 (by kernel_rfl) ?_ _;go_wp2_with fail
      go_roundg (gh-1)
      case measure=>omega
      case rel=>exact⟨k+1,by omega,by go_num,zxt HE8.out HX.out⟩
    · obtain rfl:gh=0:=by omega
      obtain rfl:k=m:=by omega
      have y2:¬(k:Int)≤N:=by have:=hNm.out;omega
      go_wp2_with fail;go_ret;exact⟨rfl,zxt HW0.out HE.out⟩
open Trk (Sl Tv Tk TkV RfV mayT encT Within Small)
open Log (Hv Ev cH cS cV mayH putL encH)
theorem sum_bad {xs:List Nat} (hs:∀c∈xs,c<256) (hl:12≤xs.length) (hsum:xs.drop (xs.length-4)=fx (Chk.crc (xs.take (xs.length-4)))) {j y:Nat} (hj:j<xs.length) (hy:y<256) (hne:y≠xs.getD j 0):
  ¬be ((xs.set j y).drop ((xs.set j y).length-4))=Chk.crc ((xs.set j y).take ((xs.set j y).length-4)):=by
 rw[List.length_set];obtain⟨k,hk⟩:∃k,k=xs.length-4:=⟨_,rfl⟩;rw[←hk]at hsum ⊢;intro h;by_cases hjk:j<k
 ·rw[List.drop_set_of_lt hjk,hsum,be_fx (Chk.crc_lt _),List.take_set]at h
  have h2:=Chk.burst1 (head:=xs.take k) (fun c hc=>hs c (List.mem_of_mem_take hc)) (i:=j) (by rw[zw2];omega) hy h;rw[zw5,List.getElem?_take,if_pos hjk,←zw5]at h2;exact hne h2
 ·rw[List.take_set_of_le (by omega),List.drop_set,if_neg hjk,hsum]at h
  have hg:(fx (Chk.crc (xs.take k))).getD (j-k) 0=xs.getD j 0:=by
   rw[←hsum,zw5,List.getElem?_drop,←zw5,show k+(j-k)=j by omega]
  have hlt:=Chk.crc_lt (xs.take k);have hlen:(xs.drop k).length=4:=by rw[zw1];omega
  rw[hsum]at hlen;generalize Chk.crc (xs.take k)=C at*;have h5:=Chk.fx_be' (ys:=(fx C).set (j-k) y) (fun c hc=>by
   rcases List.mem_or_eq_of_mem_set hc with q | q
   ·exact fx_mem hlt c q
   ·omega) (by rw[List.length_set];exact hlen)
  rw[h]at h5;have h6:=congrArg (fun l=>l.getD (j-k) 0) h5;simp only[zw5,List.getElem?_set]at h6;rw[if_pos trivial,if_pos (by rw[hlen];omega),←zw5,hg]at h6;exact hne h6.symm
theorem frs_pos {k:Nat} {fs:List (List Nat)} (h:0<fs.length):0<(frs k 0 [] fs).length:=by
 cases fs with
 | nil=>simp at h
 | cons f l=>rw[frs,zw0,tk_eq];have:=Chk.chunk_pos (kd k 0) (dt k 0 [] f);omega
theorem opn_built {r:Rc} {L:List Nat} (hl:Low r) (hm:mayR r) (hL:putL r.N r.evs=some L):
  Opn (built (encH r.x.hd) L (encT r.tr) r.N.toNat r.K.toNat r.fs) r L (pre (encH r.x.hd) L r.N.toNat r.K.toNat).length (lead (encH r.x.hd) L (encT r.tr) r.N.toNat r.K.toNat).length ((lead (encH r.x.hd) L (encT r.tr) r.N.toNat r.K.toNat).length+(frs r.K.toNat 0 [] r.fs).length):=by
 rw[pre_len];obtain⟨m1,m2,m3,m4,m5,m6,m7⟩:=hm;have hN:=(Trk.mayT_parts m3).1;exact⟨rds_built _ _ _ _ _ _ (Log.encH_small _ hl.seed (mem_small (natsOf_small _))) (Log.putL_small hl.efit hL) (Trk.encT_both m3).2 hl.small (by have:=Log.encH_len _ m1 hl.sfit;omega) (Log.putL_len hl.efit (by have:=hl.evs;omega) hL) (Trk.encT_both m3).1 hl.frame (by have:=hl.frames;omega) (by omega) (by omega),hL,hl,⟨m1,m2,m3,m4,m5,m6,m7⟩⟩
structure Kit (w:World) (p:Pv) (x:Hv) (evs:List Ev) (N KI:Int) (tr:Tk) (tv:Tv) (t2:Tk) (ts:List ByteArray) (B1 B2:List Nat) (F:World→Nat→Prop):Prop where
 len:12≤B1.length∧B1.length≤900000
 sm:∀j,B1.getD j 0<256
 sm2:mayT N t2=true→∀j,B2.getD j 0<256
 bu:∀W e W',BuPost W ⟨x,evs,N,KI,tr,ts.map natsOf⟩ e W'→Ext W W'∧∃v,e= .returned (.tuple #[v,.int .i64 0])∧OwnB W.heap.size W' v B1
 rd1:∀W A m c,Ext w W→Bs W A m B1→m≤c→c≤9223372036854775807→Calls Tryz.prog 20 #[.slice A m c,.agg (cPa x (.slice p.A x.starts.length p.c) (.slice p.Al evs.length p.cl) N KI p.t (.slice p.Af ts.length p.cf))] W fun e w'=>e= .returned (.bool true)∧Ext W w'
 rd2:mayT N t2=true→∀W A m c,Ext w W→Bs W A m B2→m≤c→c≤9223372036854775807→Calls Tryz.prog 20 #[.slice A m c,.agg (cPa x (.slice p.A x.starts.length p.c) (.slice p.Al evs.length p.cl) N KI tv (.slice p.Af ts.length p.cf))] W fun e w'=>e= .returned (.bool true)∧Ext W w'
 op:∀W A m c,Ext w W→Bs W A m B1→m≤c→c≤9223372036854775807→Calls Tryz.prog 21 #[.slice A m c] W fun e w'=>∃f,e= .returned (.tuple #[.pointer (some ⟨f,0,none⟩),.int .i64 0])∧F w' f∧Ext W w'
 fe:∀W W' f,F W f→Ext W W'→F W' f
 wi:∀W f t,Ext w W→F W f→TkV W t t2→Calls Tryz.prog 15 #[.pointer (some ⟨f,0,none⟩),.agg t.cells] W (WiPost W (mayT N t2) B2)
 bad:∀j y,j<B1.length→y<256→y≠B1.getD j 0→∀W A m c,Crc.Tab W→Bs W A m (B1.set j y)→m≤c→c≤9223372036854775807→Calls Tryz.prog 21 #[.slice A m c] W fun e w'=>e= .returned (.tuple #[.pointer none,.int .i64 5])∧Ext W w'
theorem rdy_of {x:Hv} {evs:List Ev} {N KI:Int} {tr:Tk} {ts:List ByteArray} (hw:∀c∈tr.cams,∀q∈c,Within q) (hs:Small tr):Rdy ⟨x,evs,N,KI,tr,ts.map natsOf⟩ ts:=
 ⟨rfl,fun c hc q hq=>by have:=hw c hc q hq;unfold Within at this;omega,⟨fun c hc=>zw10 (hs.2.2 c hc) (by decide),by have:=hs.1;show tr.marks.length≤_;omega⟩⟩
theorem kit_of (w:World) (p:Pv) (x:Hv) (evs:List Ev) (N KI:Int) (tr:Tk) (tv:Tv) (t2:Tk) (ts:List ByteArray) (hT:Crc.Tab w) (h:RfP w p x evs tr ts) (h2:RfV w tv t2) (hl:Low ⟨x,evs,N,KI,tr,ts.map natsOf⟩) (hm:mayR ⟨x,evs,N,KI,tr,ts.map natsOf⟩)
  (hw:∀c∈tr.cams,∀q∈c,Within q) (hs:Small tr) (hw2:∀c∈t2.cams,∀q∈c,Within q) (hs2:Small t2):∃B1 B2 F,Kit w p x evs N KI tr tv t2 ts B1 B2 F:=by
 obtain⟨L,hL⟩:=Option.isSome_iff_exists.1 hm.2.1;simp only at hL;have hO:=opn_built hl hm hL;have hN:=(Trk.mayT_parts hm.2.2.1).1;have hK:=hm.2.2.2;have hfl:=hl.frames;simp only at hO hN hK hfl;obtain⟨n,rfl⟩:∃n:Nat,N=n:=⟨N.toNat,by omega⟩;obtain⟨k,rfl⟩:∃k:Nat,KI=k:=⟨KI.toNat,by omega⟩;simp only[zw35]at hO;have hm2:mayT n t2=true→mayR ⟨x,evs,n,k,t2,ts.map natsOf⟩:=fun q=>⟨hm.1,hm.2.1,q,hm.2.2.2⟩;have hl2:Low ⟨x,evs,n,k,t2,ts.map natsOf⟩:=⟨hl.1,hl.2,hl.3,hl.4,hl.5,hl.6,hl.7,hl.8,hl.9,hl.10,hl.11,hl.12⟩;have hO2:=fun q=>opn_built hl2 (hm2 q) hL;simp only[zw35]at hO2;have hup:=fun(a:Nat) (ha:a+(frs k 0 [] (ts.map natsOf)).length≤1000000000)=>up_pls k (ts.map natsOf) 0 [] a 0 (by omega) ha;have hfp:0<(frs k 0 [] (ts.map natsOf)).length:=frs_pos (by omega);have hWI:=fun W f t (e:Ext w W) hF hTk=>with_ok f (encH x.hd) L (encT tr) (ts.map natsOf) ⟨x,evs,n,k,tr,ts.map natsOf⟩ L t t2 W (hT.ext e) rfl rfl rfl n k rfl rfl hF hTk hO.rds.high hO.rds.small hfp (by omega) (by omega) (fun q=>(hO2 q).rds.small) (fun q=>(hO2 q).rds.high) hup;have hBU:∀W e W',BuPost W ⟨x,evs,n,k,tr,ts.map natsOf⟩ e W'→Ext W W'∧∃v,e= .returned (.tuple #[v,.int .i64 0])∧OwnB W.heap.size W' v (built (encH x.hd) L (encT tr) n k (ts.map natsOf)):=fun W e W' hb=>⟨hb.1,hb.2.1 hm L hL⟩;have hR2:=fun q W A m c (e:Ext w W) hB h1 h3=>reads_st A m c _ _ _ _ _ _ ⟨p.A,p.c,p.Al,p.cl,tv,p.Af,p.cf⟩ ts W (hT.ext e) hB h1 h3 (hO2 q) ⟨h.1.ext e,h.2.1.ext e,h2.ext e,h.2.2.2.ext e⟩ (rdy_of hw2 hs2);have hS2:=fun q=>(hO2 q).rds.small;clear hup hfp hO2 hm2 hl2
 generalize built (encH x.hd) L (encT t2) n k (ts.map natsOf)=B2 at*;generalize (lead (encH x.hd) L (encT tr) n k).length+(frs k 0 [] (ts.map natsOf)).length=iA at*;generalize (lead (encH x.hd) L (encT tr) n k).length=b4 at*;generalize (pre (encH x.hd) L n k).length=b3 at*;generalize built (encH x.hd) L (encT tr) n k (ts.map natsOf)=B1 at*;have hRD:∀W A m c,Ext w W→Bs W A m B1→m≤c→c≤9223372036854775807→Calls Tryz.prog 20 #[.slice A m c,.agg (cPa x (.slice p.A x.starts.length p.c) (.slice p.Al evs.length p.cl) n k p.t (.slice p.Af ts.length p.cf))] W fun e w'=>e= .returned (.bool true)∧Ext W w':=
  fun W A m c e hB h1 h3=>reads_st A m c _ ⟨x,evs,n,k,tr,ts.map natsOf⟩ L b3 b4 iA p ts W (hT.ext e) hB h1 h3 hO (h.ext' e) (rdy_of hw hs)
 have hOP:=fun W A m c (e:Ext w W) hB h1 h3=>open_ok A m c B1 ⟨x,evs,n,k,tr,ts.map natsOf⟩ L b3 b4 iA W (hT.ext e) hB h1 h3 hO;have hBD:∀j y,j<B1.length→y<256→y≠B1.getD j 0→∀W A m c,Crc.Tab W→Bs W A m (B1.set j y)→m≤c→c≤9223372036854775807→Calls Tryz.prog 21 #[.slice A m c] W fun e w'=>e= .returned (.tuple #[.pointer none,.int .i64 5])∧Ext W w':=by
  intro j y hj hy hne W A m c hT' hB h1 h3;have h5:B1.length=m:=by have:=hB.1;rwa [List.length_set]at this
  have h6:=hO.rds.low;have h7:=hO.rds.high;exact open_bad A m c _ W hT' hB h1 h3 (by omega) (by omega) (sum_bad (mem_small hO.rds.small) hO.rds.low hO.rds.sum hj hy hne)
 have hln:12≤B1.length∧B1.length≤900000:=⟨hO.rds.low,hO.rds.high⟩;have hsm:∀j,B1.getD j 0<256:=hO.rds.small;clear hO;refine⟨B1,B2,fun W f=>FV W f B1 ⟨x,evs,n,k,tr,ts.map natsOf⟩ b3 b4 iA,?_⟩;refine⟨hln,hsm,hS2,hBU,hRD,?_,?_,?_,?_,hBD⟩
 ·exact hR2
 ·exact hOP
 ·exact fun W W' f hF e=>hF.ext e
 ·exact hWI
open Trk (Sl Tv Tk mayT encT RfV Room)
open Log (Hv Ev cH cV mayH putL encH)
theorem RfP.ext {w w':World} {p:Pv} {x:Hv} {evs:List Ev} {tr:Tk} {ts:List ByteArray} (h:RfP w p x evs tr ts) (e:Ext w w'):RfP w' p x evs tr ts:=⟨h.1.ext e,h.2.1.ext e,h.2.2.1.ext e,h.2.2.2.ext e⟩
structure InP (p:Pv) (x:Hv) (evs:List Ev) (N KI:Int) (tr:Tk) (ts:List ByteArray):Prop where
 room:Room tr
 evl:evs.length≤2000000
 frl:ts.length≤2000000
 frz:∀s∈ts,s.size≤100000000000
 sfit:∀u∈x.starts,u.fits
 efit:∀e∈evs,e.fits
 seed:x.seed<4294967296
 whi: -9223372036854775808≤x.w∧x.w≤9223372036854775807∧ -9223372036854775808≤x.h∧x.h≤9223372036854775807
 nn: -9223372036854775808≤N∧N≤9223372036854775807
 kk: -9223372036854775808≤KI∧KI≤9223372036854775807
 tiles:x.tiles.size≤9223372036854775807
 starts:x.starts.length≤9223372036854775807
 cl:evs.length≤p.cl∧p.cl≤9223372036854775807
theorem InP.low {p:Pv} {x:Hv} {evs:List Ev} {N KI:Int} {tr:Tk} {ts:List ByteArray} (h:InP p x evs N KI tr ts) (l:Lit x evs tr ts):Low ⟨x,evs,N,KI,tr,ts.map natsOf⟩:=
 ⟨l.1,l.2.1,h.sfit,h.seed,h.whi,l.2.2.1,h.efit,h.nn,h.kk,by simpa using l.2.2.2.1,fun f hf=>by
  obtain⟨s,hs,rfl⟩:=List.mem_map.1 hf;rw[natsOf_len];exact l.2.2.2.2.2 s hs,fun f hf=>by
  obtain⟨s,hs,rfl⟩:=List.mem_map.1 hf;exact mem_small (natsOf_small s)⟩
end Go.Proofs.YtidnboeihkeljaaGreatDoor.Fil
