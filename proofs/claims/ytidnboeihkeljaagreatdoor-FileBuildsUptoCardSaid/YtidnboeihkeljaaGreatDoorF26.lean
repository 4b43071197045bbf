
import Derived.Test.YtidnboeihkeljaaGreatDoorFilW
set_option maxHeartbeats 16000000
set_option maxRecDepth 100000
set_option linter.all false
open Go.ChangeShapes Go.WideShapes Go.ChangeAt Go.RowKit
namespace Go.Proofs.YtidnboeihkeljaaGreatDoor.Fil
open Wire
open Rec
open Trk (Sl Tv Tk TkV mayT encT takeT)
open Log (Hv Ev En cH cS cV mayH putL encH)
theorem FV.ext {w w':World} {f:Nat} {xs:List Nat} {r:Rc} {b3 b4 iA:Nat} (h:FV w f xs r b3 b4 iA) (e:Ext w w'):FV w' f xs r b3 b4 iA:=by
  obtain⟨o,A,c,Al,cl,t,Ap,cp,h1,h2,h3,h4,h5,h6,h7,h8,h9,h10,h11,h12,h13,h14,h15,h16⟩:=h.ex;exact⟨⟨o,A,c,Al,cl,t,Ap,cp,h1,h2.ext e,h3.ext e,h4,h5,h6.ext e,h7,h8,h9,h10.ext e,h11,h12,h13,h14.ext e,h15.ext e,h16⟩⟩
theorem FV.rd {w : World} {f : Nat} {xs : List Nat} {r : Rc} {b3 b4 iA : Nat} (h : FV w f xs r b3 b4 iA) : ∃ q n c Ap cp, w.cell? ⟨f, 0, none⟩ = some (.slice (some ⟨q, 0, none⟩) n c) ∧ w.cell? ⟨f, 9, none⟩ = some (.int .i64 r.K) ∧ w.cell? ⟨f, 18, none⟩ = some (.slice Ap r.fs.length cp) ∧
    Bs w (some ⟨q,0,none⟩) n xs∧n≤c∧c≤9223372036854775807∧RowR w Ap r.fs.length 1 cN (plc r.K.toNat b4 r.fs)∧f<w.heap.size:=by
  obtain⟨o,A,c,Al,cl,t,Ap,cp,h1,h2,h3,h4,h5,h6,h7,h8,h9,h10,h11,h12,h13,h14,h15,h16⟩:=h.ex;exact⟨o.q,o.n,o.c,Ap,cp,h2.cell 0,h2.cell 9,h2.cell 18,h3,h4,h5,h15,h2.lt⟩
theorem has_in (f:Nat) (xs:List Nat) (r:Rc) (b3 b4 iA t:Nat) (w:World) (h:FV w f xs r b3 b4 iA) (ht:t<r.fs.length):Calls Tryz.prog 45 #[.pointer (some ⟨f,0,none⟩),.int .i64 (t:Int)] w fun e w'=>e= .returned (.int .i64 0)∧w=w':=by
  obtain⟨q,n,c,Ap,cp,c0,c9,c18,_⟩:=h.rd;have y1:¬(t:Int)<0:=by omega
  have y2:¬(r.fs.length:Int)≤(t:Int):=by omega
  clear h ht;generalize r.fs.length=m at*;go_enter Tryz.func45,Tryz.ntmps45;go_wp2_with fail;go_ret;exact⟨rfl,rfl⟩
theorem has_out (f:Nat) (xs:List Nat) (r:Rc) (b3 b4 iA t:Nat) (w:World) (h:FV w f xs r b3 b4 iA) (ht:r.fs.length≤t):Calls Tryz.prog 45 #[.pointer (some ⟨f,0,none⟩),.int .i64 (t:Int)] w fun e w'=>e= .returned (.int .i64 8)∧w=w':=by
  obtain⟨q,n,c,Ap,cp,c0,c9,c18,_⟩:=h.rd;have y1:¬(t:Int)<0:=by omega
  have y2:(r.fs.length:Int)≤(t:Int):=by omega
  clear h ht;generalize r.fs.length=m at*;go_enter Tryz.func45,Tryz.ntmps45;go_wp2_with fail;go_ret;exact⟨rfl,rfl⟩
theorem size_st (f:Nat) (xs:List Nat) (r:Rc) (b3 b4 iA:Nat) (w:World) (h:FV w f xs r b3 b4 iA):Calls Tryz.prog 17 #[.pointer (some ⟨f,0,none⟩)] w fun e w'=>e= .returned (.int .i64 (xs.length:Int))∧w=w':=by
  obtain⟨q,n,c,Ap,cp,c0,c9,c18,hB,_⟩:=h.rd;rw[hB.1];clear h hB;go_enter Tryz.func17,Tryz.ntmps17;go_wp2_with fail;go_ret;exact⟨rfl,rfl⟩
def DPost (w:World) (zs:List Nat) (e:Ending) (w':World):Prop:=∃A' c',e= .returned (.tuple #[.slice A' zs.length c',.int .i64 0])∧Bs w' A' zs.length zs∧Ext w w'
def NPost (w:World) (x:Int) (e:Ending) (w':World):Prop:=e= .returned (.tuple #[.slice none 0 0,.int .i64 x])∧Ext w w'
theorem frame_out (f:Nat) (xs:List Nat) (r:Rc) (b3 b4 iA t:Nat) (w:World) (h:FV w f xs r b3 b4 iA) (ht:r.fs.length≤t):Calls Tryz.prog 14 #[.pointer (some ⟨f,0,none⟩),.int .i64 (t:Int)] w (NPost w 8):=by
  have HH:=zh (has_out f xs r b3 b4 iA t w h ht);clear h ht;go_enter Tryz.func14,Tryz.ntmps14;go_wp2_with fail;refine(HH.out).mono ?_;rintro e w1 ⟨rfl,rfl⟩;go_wp2_with fail
  go_ret2
  exact⟨rfl,zxr _⟩
theorem data_in (f : Nat) (xs : List Nat) (r : Rc) (L : List Nat) (b3 b4 iA t kind most : Nat) (w : World) (hT : Crc.Tab w) (h : FV w f xs r b3 b4 iA) (hop : Opn xs r L b3 b4 iA) (ht : t < r.fs.length) (hkd : kd r.K.toNat t = kind)
    (hm:(dt r.K.toNat t (prv r.fs t) (r.fs.getD t [])).length≤most) (hm2:most≤1000000):
    Calls Tryz.prog 43 #[.pointer (some ⟨f,0,none⟩),.int .i64 (t:Int),.int .u8 (kind:Int),.int .i64 (most:Int)] w (DPost w (dt r.K.toNat t (prv r.fs t) (r.fs.getD t []))):=by
  have HHI:=zh (has_in f xs r b3 b4 iA t w h ht);obtain⟨q,n,c,Ap,cp,c0,c9,c18,hB,hn,hc,hR,_⟩:=h.rd;have hhi:=hop.rds.high;have hxl:xs.length=n:=hB.1;have HTK:=zh (fun(w':World) (e:Ext w w')=>Chk.take (some ⟨q,0,none⟩) n c xs ((bg r.K.toNat b4 r.fs t:Nat):Int) (most:Int) w' (hT.ext e) (hB.ext e) (fun h=>by cases h) hn hc (by omega));rw[hop.rds.data t most ht (by omega)]at HTK;obtain⟨k,hk⟩:∃k:Nat,r.K=(k:Int):=⟨r.K.toNat,by have:=hop.may.2.2.2.1;omega⟩;have hkk:r.K.toNat=k:=by omega
  have hk1:1≤k∧k≤256:=by have:=hop.may.2.2.2.1;have:=hop.may.2.2.2.2.1;omega
  have hfl:=hop.low.frames;rw[hkk]at hR HTK hkd ⊢;rw[hk]at c9;obtain⟨b,o,hA,hbw,hcell⟩:=hR.2 (by omega);have hpl:t<(plc k b4 r.fs).length:=by rw[plc,zw4,zw37];exact ht
  have c10:=hcell t hpl 0 (by omega);have hg:(plc k b4 r.fs)[t]=bg k b4 r.fs t:=by simp[plc]
  rw[hg]at c10;simp only[cN,List.getElem?_cons_zero,Nat.mul_one,Nat.add_zero]at c10;subst hA;have HKD:=zh (fun(W:World)=>(show Calls Tryz.prog 31 #[.int .i64 (t:Int),.int .i64 (k:Int)] W (fun e w'=>e= .returned (.int .u8 (kind:Int))∧W=w')from by rw[←hkd];exact kind_st t k (by omega) (by omega) (by omega) W));generalize dt k t (prv r.fs t) (r.fs.getD t [])=zs at*;rw[hkd]at HTK;generalize bg k b4 r.fs (t+1)=nx at*;generalize bg k b4 r.fs t=bt at*;obtain⟨m,hm9⟩:∃m,r.fs.length=m:=⟨_,rfl⟩;rw[hm9]at c18 ht;have y1:(0:Int)≤(t:Int):=by omega
  have y2:(t:Int)<(m:Int):=by omega
  obtain⟨nz,hnz⟩:∃q,zs.length=q:=⟨_,rfl⟩;unfold Chk.TPost at HTK;simp only[hnz]at HTK;unfold DPost;rw[hnz];have HC:=zh (And.intro c0 (And.intro c18 c10));clear h hB hn hc hR hop hT hm hm2 hcell hbw hg hpl hkd hkk hk1 hfl hnz hm9 hhi hxl;go_enter Tryz.func43,Tryz.ntmps43;go_wp2_with fail;refine(HHI.out).mono ?_;rintro e w1 ⟨rfl,rfl⟩;go_wp2_with fail;refine(HKD.out _).mono ?_;rintro e w1 ⟨rfl,rfl⟩;clear c0 c9 c18 c10;go_upto_region 6 with fail;have HE:=zh (zxd (zxr w));have HS:=zh (And.intro (kc HE.out HC.out.1) (And.intro (kc HE.out HC.out.2.1) (kc HE.out HC.out.2.2)));refine zw38 (S:=fun W=>W.cell? ⟨f,0,none⟩=some (.slice (some ⟨q,0,none⟩) n c)∧W.cell? ⟨f,18,none⟩=some (.slice (some ⟨b,o,none⟩) m cp)∧W.cell? ⟨b,o+t,none⟩=some (.int .i64 (bt:Int))) hmxF HS.out (fun _=>?_);generalize w.drew=wd at*
  iterate 12
   refine zqT (v:=?_) HS.out rfl ?_ ?_;rotate_left
   · intro w' hSw;obtain⟨s0,s1,s2⟩:=hSw;go_simp;try rfl
   (try simp only[Act.put,zzA,zzB,zzC])
  refine zqO (i:=12) (by kernel_rfl) rfl fun K hK=>?_;go_simp;refine(HTK.out _ HE.out).mono ?_;rintro e w2 ⟨hE,A',c',rfl,hB,_⟩;have HB:=zh hB;replace HE:=zh (zxt HE.out hE);clear hB hE;have HS:=zh (And.intro (kc HE.out HC.out.1) (And.intro (kc HE.out HC.out.2.1) (kc HE.out HC.out.2.2)))
  (try go_wp2_with fail)
  refine hK.out _ _ HS.out fun _=>?_;clear hK K
  (try simp only[Act.put,zzA,zzB,zzC])
  iterate 9
   refine zqT (v:=?_) HS.out rfl ?_ ?_;rotate_left
   · intro w' hSw;obtain⟨s0,s1,s2⟩:=hSw;go_simp;try rfl
   (try simp only[Act.put,zzA,zzB,zzC])
  refine zw39 (by kernel_rfl) ?_ _;go_wp2_with fail
  go_ret2
  exact⟨_,_,rfl,HB.out,HE.out⟩
theorem low_dt {r:Rc} (h:Low r) (k t:Nat) (ht:t<r.fs.length):(dt k t (prv r.fs t) (r.fs.getD t [])).length≤800∧(r.fs.getD t []).length≤500:=by
 have h1:=h.frame _ (get_mem ht);have h2:=dt_len k t (prv r.fs t) (r.fs.getD t []) (by omega);omega
theorem key_in (f:Nat) (xs:List Nat) (r:Rc) (L:List Nat) (b3 b4 iA t:Nat) (w:World) (hT:Crc.Tab w) (h:FV w f xs r b3 b4 iA) (hop:Opn xs r L b3 b4 iA) (ht:t<r.fs.length) (hk:t%r.K.toNat=0):
  Calls Tryz.prog 12 #[.pointer (some ⟨f,0,none⟩),.int .i64 (t:Int)] w (DPost w (r.fs.getD t [])):=by
 have HD:=data_in f xs r L b3 b4 iA t 5 131072 w hT h hop ht (by unfold kd;rw[if_pos hk]) (by have:=low_dt hop.low r.K.toNat t ht;omega) (by omega);have hdt:dt r.K.toNat t (prv r.fs t) (r.fs.getD t [])=r.fs.getD t []:=by unfold dt;rw[if_pos hk]
 rw[hdt]at HD;replace HD:=zh HD;clear hT h hop ht hk hdt;generalize r.fs.getD t []=zs at*;go_enter Tryz.func12,Tryz.ntmps12;go_wp2_with fail;refine(HD.out).mono ?_;rintro e w1 ⟨A',c',rfl,hB,hE⟩;have HB:=zh hB;have HE:=zh hE;clear hB hE;obtain⟨nz,hnz⟩:∃q,zs.length=q:=⟨_,rfl⟩;rw[hnz]at HB ⊢;go_wp2_with fail
 go_ret2
 subst hnz;exact⟨A',c',rfl,HB.out,HE.out⟩
theorem delta_in (f:Nat) (xs:List Nat) (r:Rc) (L:List Nat) (b3 b4 iA t:Nat) (A:Option Addr) (m c:Nat) (w:World) (hT:Crc.Tab w) (h:FV w f xs r b3 b4 iA) (hop:Opn xs r L b3 b4 iA) (ht:t<r.fs.length) (hk:¬t%r.K.toNat=0)
  (hA:Bs w A m (prv r.fs t)) (hm:m≤1000000):
  Calls Tryz.prog 13 #[.pointer (some ⟨f,0,none⟩),.int .i64 (t:Int),.slice A m c] w (DPost w (r.fs.getD t [])):=by
 have HD:=data_in f xs r L b3 b4 iA t 6 262144 w hT h hop ht (by unfold kd;rw[if_neg hk]) (by have:=low_dt hop.low r.K.toNat t ht;omega) (by omega);have hdt:dt r.K.toNat t (prv r.fs t) (r.fs.getD t [])=Delta.diff (prv r.fs t) (r.fs.getD t []):=by unfold dt;rw[if_neg hk]
 have hlo:=low_dt hop.low r.K.toNat t ht;rw[hdt]at HD hlo;have hsm:=prv_small hop.low.small t;have hsf:=hop.low.small _ (get_mem ht);have happ:Delta.applied (prv r.fs t) (Delta.diff (prv r.fs t) (r.fs.getD t [])) 131072= .ok (r.fs.getD t []):=applied_most (Delta.applied_diff _ _ hsm hsf (by omega)) (by omega);have hpos:0<(Delta.diff (prv r.fs t) (r.fs.getD t [])).length:=by
  show 0<(vb _++_).length;rw[zw0];have:=vb_pos (Delta.mix (prv r.fs t) (r.fs.getD t [])).length;have h2:=vb_pos (r.fs.getD t []).length;omega
 have HD:=zh HD;have HAP:=zh happ;have HA:=zh hA;have HLP:=zh (And.intro hlo.1 hpos);have HSF:=zh (small_mem hsf);clear hT h hop ht hk hdt hlo hsm hsf happ hpos hA;generalize prv r.fs t=pf at*;generalize r.fs.getD t []=zs at*;generalize Delta.diff pf zs=ds at*;obtain⟨nd,hnd⟩:∃q,ds.length=q:=⟨_,rfl⟩;unfold DPost at HD;rw[hnd]at HD HLP;clear hnd;go_enter Tryz.func13,Tryz.ntmps13;go_wp2_with fail;refine(HD.out).mono ?_;rintro e w1 ⟨A',c',rfl,hB,hE⟩;have HB:=zh hB;have HE:=zh hE;have HAC:=zh (Delta.apply A A' m c nd c' pf ds 131072 w1 (HA.out.ext hE) hB (fun e=>by
  obtain⟨b,o,e',_⟩:=hB.2.2 HLP.out.2;rw[e]at e';cases e') hm (by have:=HLP.out.1;omega) (by omega) (by omega))
 unfold Delta.APost at HAC;simp only[HAP.out]at HAC;clear hB hE;obtain⟨nz,hnz⟩:∃q,zs.length=q:=⟨_,rfl⟩;rw[hnz]at HAC;replace hnz:=zh hnz;go_wp2_with fail;refine(HAC.out).mono ?_;rintro e w2 ⟨hE2,g,rfl,hO⟩;have HE2:=zh (zxt HE.out hE2);have HO:=zh hO;clear hO hE2;go_wp2_with fail
 go_ret2
 have h9:=hnz.out;subst h9;exact⟨_,_,rfl,Wire.Own.bs HO.out HSF.out,HE2.out⟩
theorem mod_step {t k a:Nat} (hk:0<k) (h1:t-t%k≤a) (h2:a<t):¬(a+1)%k=0:=by
 intro h;have e1:k*(t/k)+t%k=t:=Nat.div_add_mod t k;have e2:k*((a+1)/k)+(a+1)%k=a+1:=Nat.div_add_mod (a+1) k;have e3:t%k<k:=Nat.mod_lt t hk;rw[h,Nat.add_zero]at e2;have e4:k*(t/k)<k*((a+1)/k):=by omega
 have e5:t/k<(a+1)/k:=Nat.lt_of_mul_lt_mul_left e4;have e6:k*(t/k+1)≤k*((a+1)/k):=Nat.mul_le_mul_left k e5;rw[Nat.mul_add,Nat.mul_one]at e6;omega
theorem mod_base {t k:Nat}:(t-t%k)%k=0:=by
 have e1:k*(t/k)+t%k=t:=Nat.div_add_mod t k;rw[show t-t%k=k*(t/k)by omega];exact Nat.mul_mod_right k _
def FrRel (w:World) (r:Rc) (t b0:Nat) (gh:Nat) (av fv ev:Value) (wr:World):Prop:=
 ∃(a m:Nat) (A:Option Addr) (c:Nat),a+gh=t∧b0≤a∧av= .int .i64 (a:Int)∧fv= .slice A m c∧(r.fs.getD a []).length=m∧ev= .int .i64 0∧Bs wr A m (r.fs.getD a [])∧Ext w wr
theorem frame_in (f:Nat) (xs:List Nat) (r:Rc) (L:List Nat) (b3 b4 iA t:Nat) (w:World) (hT:Crc.Tab w) (h:FV w f xs r b3 b4 iA) (hop:Opn xs r L b3 b4 iA) (ht:t<r.fs.length):
  Calls Tryz.prog 14 #[.pointer (some ⟨f,0,none⟩),.int .i64 (t:Int)] w (DPost w (r.fs.getD t [])):=by
 have HHI:=zh (has_in f xs r b3 b4 iA t w h ht);obtain⟨q,n,c,Ap,cp,c0,c9,c18,hB,_⟩:=h.rd;obtain⟨k,hk⟩:∃k:Nat,r.K=(k:Int):=⟨r.K.toNat,by have:=hop.may.2.2.2.1;omega⟩;have hkk:r.K.toNat=k:=by omega
 have hk1:1≤k∧k≤256:=by have:=hop.may.2.2.2.1;have:=hop.may.2.2.2.2.1;omega
 rw[hk]at c9;obtain⟨md,hmd⟩:∃q,q=t%k:=⟨_,rfl⟩;obtain⟨b0,hb0⟩:∃q,q=t-t%k:=⟨_,rfl⟩;have hml:md≤t:=by rw[hmd];exact Nat.mod_le t k
 have h1:(t:Int).tmod (k:Int)=(md:Int):=by rw[hmd];rfl
 have h2:(t:Int)%(k:Int)=(md:Int):=by rw[hmd];rfl
 have h3:(t:Int)-(md:Int)=(b0:Int):=by omega
 have hfl:=hop.low.frames;have htl:t≤100:=by omega
 have hb0l:b0≤t:=by omega
 have HKY:=zh (fun(w':World) (e:Ext w w')=>key_in f xs r L b3 b4 iA b0 w' (hT.ext e) (h.ext e) hop (by omega) (by rw[hkk,hb0];exact mod_base));have HDL:=zh (fun(w':World) (a m:Nat) (A:Option Addr) (c:Nat) (e:Ext w w') (ha:b0≤a) (hat:a<t) (hm:(r.fs.getD a []).length=m) (hB:Bs w' A m (r.fs.getD a []))=>delta_in f xs r L b3 b4 iA (a+1) A m c w' (hT.ext e) (h.ext e) hop (by omega) (by rw[hkk];exact mod_step (by omega) (by omega) hat) (by rw[prv_succ r.fs a (by omega)];exact hB) (by have:=hop.low.frame _ (get_mem (show a<r.fs.length by omega));omega));have hk0:¬(k:Int)=0:=by omega
 replace hmd:=zh hmd;replace hb0:=zh hb0;clear h hB hop hT ht hkk hk hfl c0 c18 hk1;go_enter Tryz.func14,Tryz.ntmps14;go_wp2_with fail;refine(HHI.out).mono ?_;rintro e w1 ⟨rfl,rfl⟩;go_wp2_with fail;refine(HKY.out _ (zxr _)).mono ?_;rintro e w1 ⟨A1,c1,rfl,hB1,hE1⟩;obtain⟨m1,hm1⟩:∃q,(r.fs.getD b0 []).length=q:=⟨_,rfl⟩;rw[hm1]at hB1 ⊢;have HREL:Hid (FrRel w r t b0 (t-b0) (.int .i64 (b0:Int)) (.slice A1 m1 c1) (.int .i64 0) w1):=zh ⟨b0,m1,A1,c1,by omega,zw8 _,rfl,rfl,hm1,rfl,hB1,hE1⟩;clear hB1 hE1 hm1 c9 h1 h2 h3;go_wp2_with fail
 go_loopg [7,8,9] (t-b0) (fun gh av fv ev wr=>FrRel w r t b0 gh av fv ev wr)
 case atStart=>exact HREL.out
 case round=>
  obtain⟨a,m,A,c,ha,hba,rfl,rfl,hm,rfl,hB,hE⟩:=hrel;obtain⟨wi,rfl⟩:∃wi:World,wi=wr:=⟨_,rfl⟩;obtain⟨gh,rfl⟩:∃gh:Nat,gh=gk:=⟨_,rfl⟩;have HB:=zh hB;have HE:=zh hE;have HM:=zh hm;clear hB hE HREL hm;by_cases hlt:a<t
  ·have y2:(a:Int)<(t:Int):=by omega
   have HDC:=zh (HDL.out wi a m A c HE.out hba hlt HM.out HB.out);have hcast:((a+1:Nat):Int)=(a:Int)+1:=by omega
   rw[hcast]at HDC;clear hcast;go_wp2_with fail;refine(HDC.out).mono ?_;rintro e w3 ⟨A3,c3,rfl,hB3,hE3⟩;obtain⟨m3,hm3⟩:∃q,(r.fs.getD (a+1) []).length=q:=⟨_,rfl⟩;rw[hm3]at hB3 ⊢;have HB3:=zh hB3;have HE3:=zh (zxt HE.out hE3);have HM3:=zh hm3;clear hB3 hE3 hm3 HB HE HM;go_wp2_with fail
   go_roundg (gh-1)
   case measure=>omega
   case rel=>exact⟨a+1,m3,A3,c3,by omega,by omega,by go_num,rfl,HM3.out,rfl,HB3.out,HE3.out⟩
  ·obtain rfl:gh=0:=by omega
   obtain rfl:a=t:=by omega
   have y2:¬(a:Int)<(a:Int):=by omega
   go_wp2_with fail
   go_ret2
   have h9:=HM.out;subst h9;exact⟨A,c,rfl,HB.out,HE.out⟩
open Log (Ev cV pacedB encV putL eachI)
theorem held_more {P:Program} {ops:Array Oper} {Q:Exit→Act→World→Prop} {md:Region.Mode} {S S':World→Prop} (h:∀W,S' W→S W):∀(fuel:Nat) (listed:Array Bool) (a:Act) (w:World),wpAnyH P md ops Q S' fuel listed a w→wpAnyH P md ops Q S fuel listed a w
 | 0,_,_,_,k=>k
 | fuel+1,_,_,_,k=>⟨k.1,fun i hi=>wpOp_mono (fun a' w' q=>⟨h _ q.1,held_more h fuel _ a' w' q.2⟩) (k.2 i hi)⟩
def folB (t:Int):Nat→List Ev→Bool
 | s,[]=>decide (s<32)
 | s,e::l=> !decide (t<e.tick) && folB t (if e.tick=t then s+1 else s) l
def fols (n:Int) (l:List Ev) (t:Int):Bool:=decide (0≤t∧t<n) && folB t 0 l
def Sofar (l:List Ev) (last:Int) (each:Nat):Prop:=0≤last∧(∀e∈l,e.tick≤last)∧(l.filter (fun e=>decide (e.tick=last))).length=each∧((l=[]∧last=0)∨∃e∈l,e.tick=last)
theorem folB_eq (t:Int):∀(l:List Ev) (s:Nat),folB t s l=decide ((∀e∈l,e.tick≤t)∧s+(l.filter (fun e=>decide (e.tick=t))).length<32)
 | [],s=>by simp[folB]
 | e::l,s=>by
  rw[folB,folB_eq t l];by_cases h1:t<e.tick
  ·rw[zw15 h1,Bool.not_true,zw51,eq_comm,decide_eq_false_iff_not]
   intro h;have:=h.1 e List.mem_cons_self;omega
  ·rw[zw14 h1,Bool.not_false,zw50]
   by_cases h2:e.tick=t
   ·rw[if_pos h2,List.filter_cons_of_pos (by simpa using h2),zw3]
    congr 1
    rw[List.forall_mem_cons];exact propext ⟨fun h=>⟨⟨by omega,h.1⟩,by omega⟩,fun h=>⟨h.1.2,by omega⟩⟩
   ·rw[if_neg h2,List.filter_cons_of_neg (by simpa using h2)]
    congr 1
    rw[List.forall_mem_cons];exact propext ⟨fun h=>⟨⟨by omega,h.1⟩,h.2⟩,fun h=>⟨h.1.2,h.2⟩⟩
theorem fols_paced {l:List Ev} {last n t:Int} {each:Nat} (h:Sofar l last each):fols n l t=decide (last≤t∧t<n∧eachI last each t≤32):=by
 obtain⟨h0,h1,h2,h3⟩:=h;unfold fols;rw[folB_eq,←Bool.decide_and]
 congr 1
 have hl:0≤t→((∀e∈l,e.tick≤t)↔last≤t):=fun ht=>by
  constructor
  ·intro h
   rcases h3 with ⟨_,h3⟩ | ⟨e,he,h3⟩
   ·omega
   ·have:=h e he;omega
  ·intro h e he;have:=h1 e he;omega
 by_cases ht:t=last
 ·subst ht
  have he:eachI t each t=each+1:=by simp[eachI]
  rw[he,h2];exact propext ⟨fun h=>⟨by omega,h.1.2,by omega⟩,fun h=>⟨⟨h0,h.2.1⟩,h1,by omega⟩⟩
 ·have he:eachI last each t=1:=by simp[eachI,ht]
  rw[he];refine propext ⟨fun h=>⟨(hl h.1.1).1 h.2.1,h.1.2,by omega⟩,fun h=>⟨⟨by omega,h.2.1⟩,(hl (by omega)).2 h.1,?_⟩⟩;have:l.filter (fun e=>decide (e.tick=t))=[]:=by
   refine List.filter_eq_nil_iff.2 (fun e he=>?_);have:=h1 e he;simp only[zw49];omega
  rw[this];simp
theorem sofar_nil:Sofar [] 0 0:=⟨by omega,fun e h=>(by cases h),rfl,.inl ⟨rfl,rfl⟩⟩
theorem sofar_snoc {l:List Ev} {last:Int} {each:Nat} {x:Ev} (h:Sofar l last each) (hx:last≤x.tick):Sofar (l++[x]) x.tick (eachI last each x.tick):=by
 obtain⟨h0,h1,h2,h3⟩:=h;refine⟨by omega,fun e he=>?_,?_,.inr ⟨x,by simp,rfl⟩⟩
 ·rcases zw16.1 he with he | he
  ·have:=h1 e he;omega
  ·rw[zw52]at he;rw[he];omega
 ·rw[List.filter_append,zw0,List.filter_cons_of_pos (by simp),List.filter_nil,zw27]
  by_cases ht:x.tick=last
  ·rw[ht,h2];simp[eachI]
  ·have:l.filter (fun e=>decide (e.tick=x.tick))=[]:=by
    refine List.filter_eq_nil_iff.2 (fun e he=>?_);have:=h1 e he;simp only[zw49];omega
   rw[this];simp[eachI,ht]
theorem rfollows (A:Option Addr) (m c:Nat) (l:List Ev) (x:Ev) (n:Int) (w:World) (hB:RowR w A m 7 cV l) (hm:m≤1000000):
  Calls Tryz.prog 69 #[.slice A m c,.agg (cV x).toArray,.int .i64 n] w fun e w'=>e= .returned (.bool (fols n l x.tick))∧Ext w w':=by
 obtain⟨t,x1,x2,x3,x4,x5,x6⟩:=x;simp only[cV];generalize hR:fols n l t=R;replace hR:=zh hR;have HB:=zh hB;have HLEN:=zh hB.1;clear hB;have HE0:=zh (zxa (zxr w) (.cells #[.int .i64 t,.int .u8 (x1:Int),.int .u8 (x2:Int),.int .u16 (x3:Int),.int .u16 (x4:Int),.int .u16 (x5:Int),.int .u8 (x6:Int)] 127));have HH0:=zh (Blk.new w 127 #[.int .i64 t,.int .u8 (x1:Int),.int .u8 (x2:Int),.int .u16 (x3:Int),.int .u16 (x4:Int),.int .u16 (x5:Int),.int .u8 (x6:Int)]);go_enter Tryz.func69,Tryz.ntmps69;go_upto_region 1 with fail;obtain⟨w0,hw0⟩:∃q,q=w.alloc (.cells #[.int .i64 t,.int .u8 (x1:Int),.int .u8 (x2:Int),.int .u16 (x3:Int),.int .u16 (x4:Int),.int .u16 (x5:Int),.int .u8 (x6:Int)] 127):=⟨_,rfl⟩;rw[←hw0]at HE0 HH0 ⊢;clear hw0;generalize w.heap.size=hb at*;have p0:=HH0.out.cell 0;simp only[List.getElem?_toArray,List.getElem?_cons_zero]at p0;by_cases g1:t<0
 ·have HRF:Hid (R=false):=zh (by rw[←hR.out,fols,zw14 (by omega),zw51])
  go_wp2_with fail;go_ret;exact⟨by rw[HRF.out];rfl,HE0.out⟩
 by_cases g2:n≤t
 ·have HRF:Hid (R=false):=zh (by rw[←hR.out,fols,zw14 (by omega),zw51])
  go_wp2_with fail;go_ret;exact⟨by rw[HRF.out];rfl,HE0.out⟩
 have HRR:Hid (R=folB t 0 (l.drop 0)):=zh (by rw[←hR.out,fols,zw15 (show 0≤t∧t<n by omega),zw50,zw28]);go_wp2_with fail;clear p0
 go_loopg [7,8] m (fun gh sv iv wr=>∃(k s:Nat),k+gh=m∧iv= .int .i64 (k:Int)∧sv= .int .i64 (s:Int)∧s≤k∧R=folB t s (l.drop k)∧Ext w0 wr)
 case atStart=>exact⟨0,0,by omega,rfl,rfl,by omega,HRR.out,zxr _⟩
 case round=>
  obtain⟨k,s,hk,rfl,rfl,hs,hRk,hE⟩:=hrel;obtain⟨wi,rfl⟩:∃wi:World,wi=wr:=⟨_,rfl⟩;obtain⟨gh,rfl⟩:∃gh:Nat,gh=gk:=⟨_,rfl⟩;have HE:=zh hE;have HRK:=zh hRk;have y1:(0:Int)≤(k:Int):=by omega
  have p0:=(HH0.out.ext hE).cell 0;simp only[List.getElem?_toArray,List.getElem?_cons_zero]at p0;clear hE hRk HRR;by_cases hlt:k<m
  ·have y2:(k:Int)<(m:Int):=by omega
   have hke:k<l.length:=by rw[HLEN.out];exact hlt
   obtain⟨b,o,rfl,hbw,hc⟩:=HB.out.2 (by omega);have a0:=kc (zxt HE0.out HE.out) (hc k hke 0 (by omega));have hd:l.drop k=l[k]::l.drop (k+1):=zw20 hke;generalize l[k]=u at a0 hd;have HR1:Hid (R=(!decide (t<u.tick) && folB t (if u.tick=t then s+1 else s) (l.drop (k+1)))):=zh (by rw[HRK.out,hd,folB]);obtain⟨q,q1,q2,q3,q4,q5,q6⟩:=u;simp only[cV,Nat.add_zero,List.getElem?_cons_zero]at a0 HR1;clear hc hd hke;by_cases h1:t<q
   ·have HRF:Hid (R=false):=zh (by rw[HR1.out,zw15 h1,Bool.not_true,zw51])
    go_wp2_with fail
    (refine wp_still (by kernel_rfl) (by kernel_rfl) ?_;repeat still_step);refine wpStill_nil ?_;go_wp2_with fail;go_ret;exact⟨by rw[HRF.out];rfl,zxt HE0.out (zxd HE.out)⟩
   ·replace HR1:Hid (R=folB t (if q=t then s+1 else s) (l.drop (k+1))):=zh (by rw[HR1.out,zw14 h1,Bool.not_false,zw50])
    go_wp2_with fail
    (refine wp_still (by kernel_rfl) (by kernel_rfl) ?_;repeat still_step);refine wpStill_nil ?_;by_cases h2:q=t
    ·have HR2:Hid (R=folB t (s+1) (l.drop (k+1))):=zh (by rw[HR1.out,if_pos h2])
     have h2':(q==t)=true:=beq_iff_eq.2 h2;go_wp2_with fail
     (refine wp_still (by kernel_rfl) (by kernel_rfl) ?_;repeat still_step);refine wpStill_nil ?_;go_wp2_with fail
     go_roundg (gh-1)
     case measure=>omega
     case rel=>exact⟨k+1,s+1,by omega,by go_num,by go_num,by omega,HR2.out,zxd (zxd HE.out)⟩
    ·have HR2:Hid (R=folB t s (l.drop (k+1))):=zh (by rw[HR1.out,if_neg h2])
     have h2':(q==t)=false:=zw12.2 h2;go_wp2_with fail
     (refine wp_still (by kernel_rfl) (by kernel_rfl) ?_;repeat still_step);refine wpStill_nil ?_;go_wp2_with fail
     go_roundg (gh-1)
     case measure=>omega
     case rel=>exact⟨k+1,s,by omega,by go_num,rfl,by omega,HR2.out,zxd (zxd HE.out)⟩
  ·obtain rfl:gh=0:=by omega
   have y2:¬(k:Int)<(m:Int):=by omega
   by_cases h3:s<32
   ·have h3':(s:Int)<32:=by omega
    have HRF:Hid (R=true):=zh (by rw[HRK.out,zw21 (by rw[HLEN.out];omega),folB];exact zw15 h3);go_wp2_with fail;go_ret;exact⟨by rw[HRF.out];rfl,zxt HE0.out HE.out⟩
   ·have h3':¬(s:Int)<32:=by omega
    have HRF:Hid (R=false):=zh (by rw[HRK.out,zw21 (by rw[HLEN.out];omega),folB];exact zw14 h3);go_wp2_with fail;go_ret;exact⟨by rw[HRF.out];rfl,zxt HE0.out HE.out⟩
end Go.Proofs.YtidnboeihkeljaaGreatDoor.Fil
