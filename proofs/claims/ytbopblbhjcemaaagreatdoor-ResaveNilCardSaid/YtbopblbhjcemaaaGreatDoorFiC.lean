/- Law 20: the document's file. -/
import Derived.Test.YtbopblbhjcemaaaGreatDoorF27
import Derived.Test.YtbopblbhjcemaaaGreatDoorFilZ
import Derived.Test.YtbopblbhjcemaaaGreatDoorDelS
set_option maxHeartbeats 16000000
set_option maxRecDepth 100000
set_option linter.all false
open Go.ChangeShapes Go.WideShapes Go.ChangeAt Go.RowKit
namespace Go.Proofs.YtbopblbhjcemaaaGreatDoor.Fil
open Wire
open Rec
open Trk (Sl Tv Tk mayT encT RfV)
open Log (Hv Ev cH cV mayH putL encH)
theorem map_at {ts:List ByteArray} {i:Nat} (h:i<ts.length):(ts.map natsOf).getD i []=natsOf ts[i]:=by
  simp[zw5,zw6 h]
theorem lead_ok {x : Hv} {evs : List Ev} {tr : Tk} {fs : List (List Nat)} {n k : Nat} {L : List Nat} (hl : Low ⟨x, evs, n, k, tr, fs⟩) (hm : mayH x) (hL : putL n evs = some L) (ht : mayT n tr = true) (hk : k ≤ 256) (hn : n ≤ 4096) :
    ((encH x.hd).length≤20000∧∀j,(encH x.hd).getD j 0<256)∧(L.length≤100000∧∀j,L.getD j 0<256)∧((encT tr).length≤100000∧∀j,(encT tr).getD j 0<256)∧(lead (encH x.hd) L (encT tr) n k).length≤400000∧∀j,(lead (encH x.hd) L (encT tr) n k).getD j 0<256:=by
  have a1:(encH x.hd).length≤20000∧∀j,(encH x.hd).getD j 0<256:=⟨Log.encH_len _ hm hl.sfit,small_mem (Log.encH_small _ hl.seed (mem_small (natsOf_small _)))⟩;have a2:L.length≤100000∧∀j,L.getD j 0<256:=⟨Log.putL_len hl.efit (zw10 hl.evs (by decide)) hL,small_mem (Log.putL_small hl.efit hL)⟩;have a3:(encT tr).length≤100000∧∀j,(encT tr).getD j 0<256:=⟨(Trk.encT_both ht).1,small_mem (Trk.encT_both ht).2⟩;generalize encH x.hd=X1 at*;generalize encT tr=X3 at*;refine⟨a1,a2,a3,?_,small_mem (fun c hc=>?_)⟩
  · have c1:=chunk_max 1 (xs:=X1) (by omega)
    have c3:=chunk_max 3 (xs:=L) (by omega);have c4:=chunk_max 4 (xs:=X3) (by omega);have v1:=vb_ten (n:=n) (by omega);have v2:=vb_ten (n:=k) (by omega);have c2:=chunk_max 2 (xs:=vb n++vb k) (by rw[zw0];omega);rw[zw0]at c2;simp only[lead,zw0,zw3,zw26];omega
  · simp only[lead,zw16]at hc
    rcases hc with (((hc | hc) | hc) | hc) | hc
    · simp at hc;omega
    · exact Chk.chunk_small (by omega) a1.2 c hc
    · exact Chk.chunk_small (by omega) (small_app (vb_byte n) (vb_byte k)) c hc
    · exact Chk.chunk_small (by omega) a2.2 c hc
    · exact Chk.chunk_small (by omega) a3.2 c hc
def GRel (w0:World) (LD:List Nat) (fs:List (List Nat)) (k m gh:Nat) (sv av iv:Value) (wr:World):Prop:=
  ∃(i:Nat),i+gh=m∧iv= .int .i64 (i:Int)∧sv= .string (strOf (LD++frs k 0 [] (fs.take i)))∧OwnR w0.heap.size wr 3 1 cN av (pls k 0 [] LD.length (fs.take i))∧Ext w0 wr
theorem rbuild20 (p : Pv) (x : Hv) (evs : List Ev) (n k : Nat) (tr : Tk) (ts : List ByteArray) (L : List Nat) (w : World) (h : RfP w p x evs tr ts) (hlo : Low ⟨x, evs, n, k, tr, ts.map natsOf⟩) (hmh : mayH x) (hL : putL n evs = some L) (hmt : mayT n tr = true)
    (hk1:1≤k) (hk2:k≤256) (hn:n≤4096) (hm:ts.length=n+1) (hcl:evs.length≤p.cl∧p.cl≤9223372036854775807):
    Calls Tryz.prog 30 #[.agg (cPa x (.slice p.A x.starts.length p.c) (.slice p.Al evs.length p.cl) n k p.t (.slice p.Af ts.length p.cf))] w fun e w'=>e= .returned (.string (strOf (built (encH x.hd) L (encT tr) n k (ts.map natsOf))))∧Ext w w':=by
  obtain⟨Z,hZ⟩:∃q,q=built (encH x.hd) L (encT tr) n k (ts.map natsOf):=⟨_,rfl⟩;rw[←hZ];obtain⟨⟨a1,a2⟩,⟨a3,a4⟩,⟨a5,a6⟩,a7,a8⟩:=lead_ok hlo hmh hL hmt hk2 hn;have HE0:=zh (zxa (zxr w) (.cells (cPa x (.slice p.A x.starts.length p.c) (.slice p.Al evs.length p.cl) n k p.t (.slice p.Af ts.length p.cf)) 104));have HH0:=zh (Blk.new w 104 (cPa x (.slice p.A x.starts.length p.c) (.slice p.Al evs.length p.cl) n k p.t (.slice p.Af ts.length p.cf)));have HPU:=zh (fun(W:World) (e:Ext w W)=>rput17 p.Al evs.length p.cl evs n W (h.2.1.ext e) hlo.efit (by have:=hlo.evs;simp only at this;omega) hcl.1 hcl.2);rw[hL]at HPU;have HHD:=zh (fun(W:World) (e:Ext w W)=>rheader x p.A p.c W hmh hlo.seed hlo.sfit (h.1.ext e));have HTB:=zh (fun(W:World) (e:Ext w W)=>rbytes p.t tr n W (h.2.2.1.ext e) hmt);have HP:=zh h.2.2.2;have HZ:=zh hZ;have HFS:Hid (∀f∈ts.map natsOf,f.length≤500):=zh hlo.frame;have HFM:Hid (∀f∈ts.map natsOf,∀c∈f,c<256):=zh hlo.small;have hfn:(ts.map natsOf).length≤40:=hlo.frames;clear hZ h hlo hL hmh hmt hcl;generalize encH x.hd=X1 at*;generalize encT tr=X3 at*;obtain⟨A,c,Al,cl,⟨⟨A0,n0,c0⟩,⟨A1,n1,c1⟩,⟨A2,n2,c2⟩,⟨A3,n3,c3⟩,⟨Am,nm,cm⟩⟩,Af,cf⟩:=p;obtain⟨xw,xh,xp,xs,xt,us⟩:=x;simp only[cPa,Tv.cells,cH]at HE0 HH0 HHD HTB HPU ⊢;generalize us.length=q1 at*;generalize evs.length=q2 at*;obtain⟨m,hmm⟩:∃q,ts.length=q:=⟨_,rfl⟩;rw[hmm]at HE0 HH0 hm ⊢;have HM:=zh hmm;rw[zw4,hmm]at hfn;have HMN:=zh hm;clear hmm hm;have HC1:=zh (fun W=>Chk.refPutC 1 (by decide) (strOf X1) W (by rw[strOf_size];omega));have HC2:=zh (fun W=>Chk.refPutC 2 (by decide) (strOf (vb n)++strOf (vb k)) W (by rw[zw43,strOf_size,strOf_size];have:=vb_ten (n:=n) (by omega);have:=vb_ten (n:=k) (by omega);omega))
  have HC3:=zh (fun W=>Chk.refPutC 3 (by decide) (strOf L) W (by rw[strOf_size];omega));have HC4:=zh (fun W=>Chk.refPutC 4 (by decide) (strOf X3) W (by rw[strOf_size];omega));rw[nats_strOf a2]at HC1;rw[←strOf_app,nats_strOf (small_app (vb_byte n) (vb_byte k)),strOf_app]at HC2;rw[nats_strOf a4]at HC3;rw[nats_strOf a6]at HC4;have HN1:=zh (fun W=>rnum20 n (by omega) W);have HN2:=zh (fun W=>rnum20 k (by omega) W);obtain⟨LD,hLD⟩:∃q,q=lead X1 L X3 n k:=⟨_,rfl⟩;rw[←hLD]at a7 a8;have HLD:=zh (And.intro a7 a8);have HSA:Hid ((⟨#[82,77,67,72]⟩:ByteArray)++strOf (Chk.chunk 1 X1)++strOf (Chk.chunk 2 (vb n++vb k))++strOf (Chk.chunk 3 L)++strOf (Chk.chunk 4 X3)=strOf LD):=zh (by
    rw[show(⟨#[82,77,67,72]⟩:ByteArray)=strOf [82,77,67,72]from rfl,←strOf_app,←strOf_app,←strOf_app,←strOf_app,hLD];rfl)
  have HZL:Hid (Z=foot (LD++frs k 0 [] (ts.map natsOf)) (pls k 0 [] LD.length (ts.map natsOf))):=zh (by rw[HZ.out,hLD];rfl);have s1:(strOf (Chk.chunk 1 X1)).size≤200000:=by rw[strOf_size];have:=chunk_max 1 (xs:=X1) (by omega);omega
  have s2:(strOf (Chk.chunk 2 (vb n++vb k))).size≤200000:=by
    rw[strOf_size];have v1:=vb_ten (n:=n) (by omega);have v2:=vb_ten (n:=k) (by omega);have:=chunk_max 2 (xs:=vb n++vb k) (by rw[zw0];omega);rw[zw0]at this;omega
  have s3:(strOf (Chk.chunk 3 L)).size≤200000:=by rw[strOf_size];have:=chunk_max 3 (xs:=L) (by omega);omega
  have s4:(strOf (Chk.chunk 4 X3)).size≤200000:=by rw[strOf_size];have:=chunk_max 4 (xs:=X3) (by omega);omega
  have v1:(strOf (vb n)).size≤10:=by rw[strOf_size];exact vb_ten (by omega)
  have v2:(strOf (vb k)).size≤10:=by rw[strOf_size];exact vb_ten (by omega)
  clear hLD HZ;obtain⟨E1,hE1⟩:∃q,q=strOf X1:=⟨_,rfl⟩;obtain⟨E3,hE3⟩:∃q,q=strOf X3:=⟨_,rfl⟩;obtain⟨EL,hEL⟩:∃q,q=strOf L:=⟨_,rfl⟩;obtain⟨VN,hVN⟩:∃q,q=strOf (vb n):=⟨_,rfl⟩;obtain⟨VK,hVK⟩:∃q,q=strOf (vb k):=⟨_,rfl⟩;obtain⟨C1,hC1⟩:∃q,q=strOf (Chk.chunk 1 X1):=⟨_,rfl⟩;obtain⟨C2,hC2⟩:∃q,q=strOf (Chk.chunk 2 (vb n++vb k)):=⟨_,rfl⟩;obtain⟨C3,hC3⟩:∃q,q=strOf (Chk.chunk 3 L):=⟨_,rfl⟩;obtain⟨C4,hC4⟩:∃q,q=strOf (Chk.chunk 4 X3):=⟨_,rfl⟩;unfold RPut at HPU;rw[show rpV (some L)= .tuple #[.string (strOf L),.int .i64 0]from rfl]at HPU;rw[←hE1]at HHD HC1;rw[←hE3]at HTB HC4;rw[←hEL]at HPU HC3;rw[←hVN]at HN1 HC2 v1;rw[←hVK]at HN2 HC2 v2;rw[←hC1]at HC1 HSA s1;rw[←hC2]at HC2 HSA s2;rw[←hC3]at HC3 HSA s3;rw[←hC4]at HC4 HSA s4;clear hE1 hE3 hEL hVN hVK hC1 hC2 hC3 hC4 a1 a2 a3 a4 a5 a6 a7 a8;go_enter Tryz.func30,Tryz.ntmps30;go_upto_region 1 with fail;obtain⟨w0,hw0⟩:∃q,q=w.alloc (.cells #[.int .i64 xw,.int .i64 xh,.int .i64 xp,.int .u32 (xs:Int),.string xt,.slice A q1 c,.slice Al q2 cl,.int .i64 (n:Int),.int .i64 (k:Int),.slice A0 n0 c0,.slice A1 n1 c1,.slice A2 n2 c2,.slice A3 n3 c3,.slice Am nm cm,.slice Af m cf] 104):=⟨_,rfl⟩;rw[←hw0]at HE0 HH0 ⊢;clear hw0;generalize w.heap.size=hb at*;have MKS:=zh (fun(W:World) (e:Ext w0 W)=>(⟨kc e (HH0.out.cell 0),kc e (HH0.out.cell 1),kc e (HH0.out.cell 2),kc e (HH0.out.cell 3),kc e (HH0.out.cell 4),kc e (HH0.out.cell 5),kc e (HH0.out.cell 7),kc e (HH0.out.cell 8),kc e (HH0.out.cell 9),kc e (HH0.out.cell 10),kc e (HH0.out.cell 11),kc e (HH0.out.cell 12),kc e (HH0.out.cell 13)⟩:W.cell? ⟨hb,0,none⟩=some (.int .i64 xw)∧W.cell? ⟨hb,1,none⟩=some (.int .i64 xh)∧W.cell? ⟨hb,2,none⟩=some (.int .i64 xp)∧W.cell? ⟨hb,3,none⟩=some (.int .u32 (xs:Int))∧W.cell? ⟨hb,4,none⟩=some (.string xt)∧W.cell? ⟨hb,5,none⟩=some (.slice A q1 c)∧W.cell? ⟨hb,7,none⟩=some (.int .i64 (n:Int))∧W.cell? ⟨hb,8,none⟩=some (.int .i64 (k:Int))∧W.cell? ⟨hb,9,none⟩=some (.slice A0 n0 c0)∧W.cell? ⟨hb,10,none⟩=some (.slice A1 n1 c1)∧W.cell? ⟨hb,11,none⟩=some (.slice A2 n2 c2)∧W.cell? ⟨hb,12,none⟩=some (.slice A3 n3 c3)∧W.cell? ⟨hb,13,none⟩=some (.slice Am nm cm)))
  have HFC:=zh (fun(W:World) (e:Ext w0 W)=>(⟨kc e (HH0.out.cell 7),kc e (HH0.out.cell 8),kc e (HH0.out.cell 14)⟩:W.cell? ⟨hb,7,none⟩=some (.int .i64 (n:Int))∧W.cell? ⟨hb,8,none⟩=some (.int .i64 (k:Int))∧W.cell? ⟨hb,14,none⟩=some (.slice Af m cf)));have d6:=HH0.out.cell 6;have d7:=HH0.out.cell 7;simp only[zzD,zzE,zzF]at d6 d7;go_wp2_with fail;refine(HPU.out _ HE0.out).mono ?_;rintro e w1 ⟨hE,rfl⟩;have HW:=zh hE;clear hE d6 d7 HPU;go_upto_region 2 with fail;have HX:=zh (zxd HW.out);generalize hwd:w1.drew=WA at HX;have HS:=zh (MKS.out _ HX.out);have q1':¬9223372036854775807<4+C1.size:=by omega
  have q2':¬9223372036854775807<4+C1.size+C2.size:=by omega
  have q3':¬9223372036854775807<4+C1.size+C2.size+C3.size:=by omega
  have q4':¬9223372036854775807<4+C1.size+C2.size+C3.size+C4.size:=by omega
  have q5':¬9223372036854775807<VN.size+VK.size:=by omega
  have hM4:ByteArray.size ⟨#[82,77,67,72]⟩=4:=rfl;refine zw38 (S:=fun W=>W.cell? ⟨hb,0,none⟩=some (.int .i64 xw)∧W.cell? ⟨hb,1,none⟩=some (.int .i64 xh)∧W.cell? ⟨hb,2,none⟩=some (.int .i64 xp)∧W.cell? ⟨hb,3,none⟩=some (.int .u32 (xs:Int))∧W.cell? ⟨hb,4,none⟩=some (.string xt)∧W.cell? ⟨hb,5,none⟩=some (.slice A q1 c)∧W.cell? ⟨hb,7,none⟩=some (.int .i64 (n:Int))∧W.cell? ⟨hb,8,none⟩=some (.int .i64 (k:Int))∧W.cell? ⟨hb,9,none⟩=some (.slice A0 n0 c0)∧W.cell? ⟨hb,10,none⟩=some (.slice A1 n1 c1)∧W.cell? ⟨hb,11,none⟩=some (.slice A2 n2 c2)∧W.cell? ⟨hb,12,none⟩=some (.slice A3 n3 c3)∧W.cell? ⟨hb,13,none⟩=some (.slice Am nm cm)) hmxF (by rw[hwd];exact HS.out) (fun _=>?_);rw[hwd];clear hwd
  iterate 9
   refine zqT (v:=?_) HS.out rfl ?_ ?_;rotate_left
   · intro w' hSw;obtain⟨s0,s1,s2,s3,s4,s5,s6,s7,s8,s9,s10,s11,s12⟩:=hSw;go_simp;try with_reducible rfl
   (try simp only[Act.put,zzA,zzB,zzC])
  refine zqO (i:=2) (by kernel_rfl) rfl fun K hK=>?_;go_simp;refine(HHD.out _ (zxt HE0.out HX.out)).mono ?_;rintro e WA ⟨rfl,hE⟩;replace HX:=zh (zxt HX.out hE);have HS:=zh (MKS.out _ HX.out);clear hE
  (try go_wp2_with fail)
  refine hK.out _ _ HS.out fun _=>?_;clear hK K
  (try simp only[Act.put,zzA,zzB,zzC])
  refine zqO (i:=3) (by kernel_rfl) rfl fun K hK=>?_;go_simp;refine(HC1.out _).mono ?_;rintro e WA ⟨rfl,hE⟩;replace HX:=zh (zxt HX.out hE);have HS:=zh (MKS.out _ HX.out);clear hE
  (try go_wp2_with fail)
  refine hK.out _ _ HS.out fun _=>?_;clear hK K
  (try simp only[Act.put,zzA,zzB,zzC])
  (refine zqT (v:=?_) HS.out rfl ?_ ?_);rotate_left
  · intro w' hSw;obtain⟨s0,s1,s2,s3,s4,s5,s6,s7,s8,s9,s10,s11,s12⟩:=hSw;go_simp;try with_reducible rfl
  (try simp only[Act.put,zzA,zzB,zzC])
  refine zqO (i:=7) (by kernel_rfl) rfl fun K hK=>?_;go_simp;refine(HN1.out _).mono ?_;rintro e WA ⟨rfl,hE⟩;replace HX:=zh (zxt HX.out hE);have HS:=zh (MKS.out _ HX.out);clear hE
  (try go_wp2_with fail)
  refine hK.out _ _ HS.out fun _=>?_;clear hK K
  (try simp only[Act.put,zzA,zzB,zzC])
  refine zqO (i:=10) (by kernel_rfl) rfl fun K hK=>?_;go_simp;refine(HN2.out _).mono ?_;rintro e WA ⟨rfl,hE⟩;replace HX:=zh (zxt HX.out hE);have HS:=zh (MKS.out _ HX.out);clear hE
  (try go_wp2_with fail)
  refine hK.out _ _ HS.out fun _=>?_;clear hK K
  (try simp only[Act.put,zzA,zzB,zzC])
  (refine zqT (v:=?_) HS.out rfl ?_ ?_);rotate_left
  · intro w' hSw;obtain⟨s0,s1,s2,s3,s4,s5,s6,s7,s8,s9,s10,s11,s12⟩:=hSw;go_simp;try with_reducible rfl
  (try simp only[Act.put,zzA,zzB,zzC])
  refine zqO (i:=12) (by kernel_rfl) rfl fun K hK=>?_;go_simp;refine(HC2.out _).mono ?_;rintro e WA ⟨rfl,hE⟩;replace HX:=zh (zxt HX.out hE);have HS:=zh (MKS.out _ HX.out);clear hE
  (try go_wp2_with fail)
  refine hK.out _ _ HS.out fun _=>?_;clear hK K
  (try simp only[Act.put,zzA,zzB,zzC])
  (refine zqT (v:=?_) HS.out rfl ?_ ?_);rotate_left
  · intro w' hSw;obtain⟨s0,s1,s2,s3,s4,s5,s6,s7,s8,s9,s10,s11,s12⟩:=hSw;go_simp;try with_reducible rfl
  (try simp only[Act.put,zzA,zzB,zzC])
  refine zqO (i:=15) (by kernel_rfl) rfl fun K hK=>?_;go_simp;refine(HC3.out _).mono ?_;rintro e WA ⟨rfl,hE⟩;replace HX:=zh (zxt HX.out hE);have HS:=zh (MKS.out _ HX.out);clear hE
  (try go_wp2_with fail)
  refine hK.out _ _ HS.out fun _=>?_;clear hK K
  (try simp only[Act.put,zzA,zzB,zzC])
  (refine zqT (v:=?_) HS.out rfl ?_ ?_);rotate_left
  · intro w' hSw;obtain⟨s0,s1,s2,s3,s4,s5,s6,s7,s8,s9,s10,s11,s12⟩:=hSw;go_simp;try with_reducible rfl
  (try simp only[Act.put,zzA,zzB,zzC])
  refine zqO (i:=19) (by kernel_rfl) rfl fun K hK=>?_;go_simp;refine(HTB.out _ (zxt HE0.out HX.out)).mono ?_;rintro e WA ⟨rfl,hE⟩;replace HX:=zh (zxt HX.out hE);have HS:=zh (MKS.out _ HX.out);clear hE
  (try go_wp2_with fail)
  refine hK.out _ _ HS.out fun _=>?_;clear hK K
  (try simp only[Act.put,zzA,zzB,zzC])
  refine zqO (i:=20) (by kernel_rfl) rfl fun K hK=>?_;go_simp;refine(HC4.out _).mono ?_;rintro e WA ⟨rfl,hE⟩;replace HX:=zh (zxt HX.out hE);have HS:=zh (MKS.out _ HX.out);clear hE
  (try go_wp2_with fail)
  refine hK.out _ _ HS.out fun _=>?_;clear hK K
  (try simp only[Act.put,zzA,zzB,zzC])
  iterate 2
   refine zqT (v:=?_) HS.out rfl ?_ ?_;rotate_left
   · intro w' hSw;obtain⟨s0,s1,s2,s3,s4,s5,s6,s7,s8,s9,s10,s11,s12⟩:=hSw;go_simp;try with_reducible rfl
   (try simp only[Act.put,zzA,zzB,zzC])
  refine zw39 (by kernel_rfl) ?_ _;clear q1' q2' q3' q4' q5' s1 s2 s3 s4 v1 v2 HS MKS HC1 HC2 HC3 HC4 HN1 HN2 HHD HTB hM4;go_wp2_with fail;rw[HSA.out]
  go_loopg [5,6,7] m (fun gh sv av iv wr=>GRel w0 LD (ts.map natsOf) k m gh sv av iv wr)
  case atStart=>exact⟨0,by omega,rfl,by rw[zw29,frs,zw18],by rw[zw29,pls];exact OwnR.nil _ _ _ _ _,HX.out⟩
  case round=>
    obtain⟨i,hi,rfl,rfl,hO,hE⟩:=hrel;obtain⟨wi,rfl⟩:∃wi:World,wi=wr:=⟨_,rfl⟩;obtain⟨gh,rfl⟩:∃gh:Nat,gh=gk:=⟨_,rfl⟩;have HO:=zh hO;have HE:=zh hE;clear hO hE HX HSA;have y1:(0:Int)≤(i:Int):=by omega
    have HXL:Hid ((LD++frs k 0 [] ((ts.map natsOf).take i)).length≤430000):=zh (by
      have h1:=frs_le k (ts.map natsOf) i HFS.out (by rw[zw4,HM.out];exact hfn);have h2:=HLD.out.1;rw[zw0];omega)
    obtain⟨S,hS⟩:∃q,q=strOf (LD++frs k 0 [] ((ts.map natsOf).take i)):=⟨_,rfl⟩;have hsz:S.size≤430000:=by rw[hS,strOf_size];exact HXL.out
    rw[←hS];have HSS:=zh hS;clear hS;obtain⟨d7,d8,d14⟩:=HFC.out wi HE.out;by_cases hlt:i<m
    · have y2:(i:Int)≤(n:Int):=by have:=HMN.out;omega
      have hil:i<ts.length:=by rw[HM.out];exact hlt
      have hif:i<(ts.map natsOf).length:=by rw[zw4];exact hil
      obtain⟨bs,os,rfl,hbw,hcell⟩:=HP.out.2 (by show 0<ts.length;omega);have hst:=fun W (e:Ext w W)=>kc e (hcell i hil 0 (by omega));simp only[cT,List.getElem?_cons_zero,Nat.mul_one,Nat.add_zero]at hst;have HST:=zh hst;have htz:ts[i].size≤500:=by
        have:=HFS.out _ (List.mem_map.2 ⟨ts[i],zw25 hil,rfl⟩)
        rwa [natsOf_len]at this
      have HNX:Hid (LD++frs k 0 [] ((ts.map natsOf).take (i+1))=(LD++frs k 0 [] ((ts.map natsOf).take i))++tk k i (prv (ts.map natsOf) i) (natsOf ts[i])):=zh (by rw[frs_snoc k _ i hif,map_at hil,zw7]);have HPX:Hid (pls k 0 [] LD.length ((ts.map natsOf).take (i+1))=pls k 0 [] LD.length ((ts.map natsOf).take i)++[S.size]):=zh (by
        rw[pls_snoc k _ _ i hif,HSS.out,strOf_size,zw0];rfl)
      have HPR:Hid (∀j (hj:j<ts.length),i=j+1→prv (ts.map natsOf) i=natsOf ts[j]∧ts[j].size≤500∧∀W,Ext w W→W.cell? ⟨bs,os+j,none⟩=some (.string ts[j])):=zh (fun j hj e=>by
        subst e;refine⟨by rw[prv_succ _ j (by omega),map_at hj],?_,fun W e=>?_⟩
        · have:=HFS.out _ (List.mem_map.2 ⟨ts[j],zw25 hj,rfl⟩)
          rwa [natsOf_len]at this
        · have:=kc e (hcell j hj 0 (by omega))
          simpa [cT]using this)
      have HPC:=zh (fun W=>Chk.refPutC 5 (by decide) ts[i] W (by omega));have HDL:Hid ((pls k 0 [] LD.length ((ts.map natsOf).take i)).length≤100000000):=zh (by rw[pls_len,zw2];omega);have HSRC:=zh (src_rec (P:=Tryz.prog) (e':=3) Tryz.underlying60 wi (cN S.size) rfl (by intro u hu;simp[cN]at hu;subst hu;rfl) 1);rw[show(cN S.size).toArray= #[.int .i64 (S.size:Int)]from rfl]at HSRC;have HO8:=zh (HO.out.ext (zxa (zxr wi) (.cells #[.int .i64 (S.size:Int)] 3)));have HE8:=zh (zxa HE.out (.cells #[.int .i64 (S.size:Int)] 3));generalize pls k 0 [] LD.length ((ts.map natsOf).take i)=ps at HO HO8 HPX HDL;clear hcell hst hif;obtain⟨T,hT⟩:∃q,q=ts[i]:=⟨_,rfl⟩;rw[←hT]at HST htz HNX HPC;clear hT;go_upto_region 8 with (at_builtin;refine wpList_rec rfl (.tmp 44) (.tmp 47) 60 3 1 8 _ cN rfl Tryz.underlying60 infoN rfl (by decide) u6 _ ps S.size rfl rfl HO8.out HE8.out.size HSRC.out HDL.out ?_;intro v9 w9 hown9 hgr9;have HO9:=zh hown9;have HG9:=zh hgr9;clear hown9 hgr9)
      have HE9:=zh (ext_grown HE8.out HG9.out (fun q e=>(zw23 HO8.out q e).1));rw[←HPX.out]at HO9;clear d7 d8 d14 HG9 HO8 HE8 HSRC HO HE;obtain⟨d7,d8,d14⟩:=HFC.out w9 HE9.out;have hk0:¬(k:Int)=0:=by omega
      have e1:(i:Int).tmod (k:Int)=((i%k:Nat):Int):=rfl;have e2:(i:Int)%(k:Int)=((i%k:Nat):Int):=rfl;have z1:(i:Int)<(m:Int):=by omega
      by_cases hz:i%k=0
      · rw[hz]at e1 e2
        have hst:=HST.out w9 (zxt HE0.out HE9.out);have HNY:Hid (strOf (LD++frs k 0 [] ((ts.map natsOf).take (i+1)))=S++strOf (Chk.chunk 5 (natsOf T))):=zh (by rw[HNX.out,tk,if_pos hz,strOf_app,←HSS.out]);have hcz:(strOf (Chk.chunk 5 (natsOf T))).size≤10000:=by rw[strOf_size];have:=chunk_max 5 (xs:=natsOf T) (by rw[natsOf_len];omega);rw[natsOf_len]at this;omega
        generalize strOf (Chk.chunk 5 (natsOf T))=CT at HPC HNY hcz;have q1':¬9223372036854775807<S.size+CT.size:=by omega
        clear hz HPR;go_wp2_with fail;refine(HPC.out _).mono ?_;rintro e w2 ⟨rfl,hE⟩;have HE2:=zh (zxt HE9.out hE);have HO2:=zh (HO9.out.ext hE);clear hE d7 d8 d14;go_wp2_with fail
        go_roundg (gh-1)
        case measure=>omega
        case rel=>exact⟨i+1,by omega,by go_num,by rw[HNY.out],HO2.out,HE2.out⟩
      · obtain⟨j,hij⟩:∃j,i=j+1:=⟨i-1,by have:i≠0:=(by rintro rfl;exact hz (Nat.zero_mod k));omega⟩
        have hjl:j<ts.length:=by omega
        obtain⟨hp1,hp2,hp3⟩:=HPR.out j hjl hij;have HP3:=zh hp3;rw[hp1]at HNX;have HDF:=zh (fun W=>Delta.refDiff ts[j] T W (by omega) (by omega));obtain⟨Tj,hTj⟩:∃q,q=ts[j]:=⟨_,rfl⟩;rw[←hTj]at HP3 HDF HNX hp2;clear hTj hp1 hp3 HPR HPC;have hdl:=Delta.diff_len (natsOf Tj) (natsOf T) (by rw[natsOf_len];omega);rw[natsOf_len]at hdl;have HDN:Hid (natsOf (strOf (Delta.diff (natsOf Tj) (natsOf T)))=Delta.diff (natsOf Tj) (natsOf T)):=zh (nats_strOf (Delta.diff_small (natsOf_small _) (natsOf_small _)));have HPC:=zh (fun W=>Chk.refPutC 6 (by decide) (strOf (Delta.diff (natsOf Tj) (natsOf T))) W (by rw[strOf_size];omega));rw[HDN.out]at HPC;have HNY:Hid (strOf (LD++frs k 0 [] ((ts.map natsOf).take (i+1)))=S++strOf (Chk.chunk 6 (Delta.diff (natsOf Tj) (natsOf T)))):=zh (by rw[HNX.out,tk,if_neg hz,strOf_app,←HSS.out]);have hcz:(strOf (Chk.chunk 6 (Delta.diff (natsOf Tj) (natsOf T)))).size≤10000:=by rw[strOf_size];have:=chunk_max 6 (xs:=Delta.diff (natsOf Tj) (natsOf T)) (by omega);omega
        generalize strOf (Chk.chunk 6 (Delta.diff (natsOf Tj) (natsOf T)))=CT at HPC HNY hcz;generalize strOf (Delta.diff (natsOf Tj) (natsOf T))=DD at HPC HDF;have q1':¬9223372036854775807<S.size+CT.size:=by omega
        have hj1:(i:Int)-1=(j:Int):=by omega
        have zj:IntKind.i64.wrap (j:Int)=(j:Int):=IntWalk.i64_in _ (by omega);have z2:(j:Int)<(m:Int):=by omega
        have z3:(0:Int)≤(j:Int):=by omega
        obtain⟨r,hr⟩:∃r,r=i%k:=⟨_,rfl⟩;rw[←hr]at e1 e2 hz;have hz2:¬(r:Int)=0:=by omega
        have hz':((r:Int)==0)=false:=zw12.2 hz2;clear hdl HDN HNX hr hz hij;have MKT:=zh (fun(W:World) (e:Ext w0 W)=>(⟨(HFC.out W e).2.2,HP3.out W (zxt HE0.out e),HST.out W (zxt HE0.out e)⟩:W.cell? ⟨hb,14,none⟩=some (.slice (some ⟨bs,os,none⟩) m cf)∧W.cell? ⟨bs,os+j,none⟩=some (.string Tj)∧W.cell? ⟨bs,os+i,none⟩=some (.string T)));go_upto_region 10 with fail;have HX:=zh (zxd HE9.out);have HOX:=zh (HO9.out.ext (zxd (zxr w9)));clear d7 d8 d14;generalize hwd:w9.drew=WA at HX HOX;have HS:=zh (MKT.out _ HX.out);refine zw38 (S:=fun W=>W.cell? ⟨hb,14,none⟩=some (.slice (some ⟨bs,os,none⟩) m cf)∧W.cell? ⟨bs,os+j,none⟩=some (.string Tj)∧W.cell? ⟨bs,os+i,none⟩=some (.string T)) hmxF (by rw[hwd];exact HS.out) (fun _=>?_);rw[hwd];clear hwd
        iterate 12
         refine zqT (v:=?_) HS.out rfl ?_ ?_;rotate_left
         · intro w' hSw;obtain⟨s0,s1,s2⟩:=hSw;go_simp;try with_reducible rfl
         (try simp only[Act.put,zzA,zzB,zzC])
        refine zqO (i:=12) (by kernel_rfl) rfl fun K hK=>?_;go_simp
        (try rw[hj1])
        refine(HDF.out _).mono ?_;rintro e WA ⟨rfl,hE⟩;replace HX:=zh (zxt HX.out hE);replace HOX:=zh (HOX.out.ext hE);have HS:=zh (MKT.out _ HX.out);clear hE
        (try go_wp2_with fail)
        refine hK.out _ _ HS.out fun _=>?_;clear hK K
        (try simp only[Act.put,zzA,zzB,zzC])
        refine zqO (i:=13) (by kernel_rfl) rfl fun K hK=>?_;go_simp
        (try rw[hj1])
        refine(HPC.out _).mono ?_;rintro e WA ⟨rfl,hE⟩;replace HX:=zh (zxt HX.out hE);replace HOX:=zh (HOX.out.ext hE);have HS:=zh (MKT.out _ HX.out);clear hE
        (try go_wp2_with fail)
        refine hK.out _ _ HS.out fun _=>?_;clear hK K
        (try simp only[Act.put,zzA,zzB,zzC])
        iterate 2
         refine zqT (v:=?_) HS.out rfl ?_ ?_;rotate_left
         · intro w' hSw;obtain⟨s0,s1,s2⟩:=hSw;go_simp;try with_reducible rfl
         (try simp only[Act.put,zzA,zzB,zzC])
        refine zw39 (by kernel_rfl) ?_ _;go_wp2_with fail
        go_roundg (gh-1)
        case measure=>omega
        case rel=>exact⟨i+1,by omega,by go_num,by rw[HNY.out],HOX.out,HX.out⟩
    · obtain rfl:gh=0:=by omega
      obtain rfl:i=m:=by omega
      have y2:¬(i:Int)≤(n:Int):=by have:=HMN.out;omega
      have hall:(ts.map natsOf).take i=ts.map natsOf:=List.take_of_length_le (by rw[zw4,HM.out];exact zw8 _);rw[hall]at HXL HSS HO;have HLS:Hid (∀j,(LD++frs k 0 [] (ts.map natsOf)).getD j 0<256):=zh (small_mem (fun z hz=>by
        rcases zw16.1 hz with hz | hz
        · exact mem_small HLD.out.2 z hz
        · exact frs_small k _ 0 [] (fun c h=>by cases h) HFM.out z hz))
      have HUP:Hid (up 0 (pls k 0 [] LD.length (ts.map natsOf))):=zh (up_pls k _ 0 [] LD.length 0 (by omega) (by have:=HXL.out;rw[zw0]at this;omega));obtain⟨As,cs,rfl,_,_,_,_⟩:=HO.out.shape;have hpn:(pls k 0 [] LD.length (ts.map natsOf)).length=i:=by rw[pls_len,zw4,HM.out]
      rw[hpn]at HO ⊢;have HFT:=zh (fun(W:World) (e:Ext wi W)=>rfoot As i cs (pls k 0 [] LD.length (ts.map natsOf)) (LD++frs k 0 [] (ts.map natsOf)) W ((HO.out.row cN_len).ext e) HUP.out (by omega) (by have:=HXL.out;omega) HLS.out);rw[←HZL.out,←HSS.out]at HFT;clear hall hpn HUP HLS HO;obtain⟨ZZ,hZZ⟩:∃q,q=strOf Z:=⟨_,rfl⟩;rw[←hZZ]at HFT;replace hZZ:=zh hZZ;go_wp2_with fail;refine(HFT.out _ (zxr _)).mono ?_;rintro e w2 ⟨rfl,hE⟩;have HE2:=zh (zxt HE0.out (zxt HE.out hE));clear hE d7 d8 d14;go_wp2_with fail;go_ret;exact⟨by rw[hZZ.out];rfl,HE2.out⟩
end Go.Proofs.YtbopblbhjcemaaaGreatDoor.Fil
