/- Contracts of package file: Build. -/
import Derived.Test.YtidnboeihkeljaaGreatDoorF22
set_option maxHeartbeats 16000000
set_option maxRecDepth 100000
set_option linter.all false
open Go.ChangeShapes Go.WideShapes Go.ChangeAt Go.RowKit
namespace Go.Proofs.YtidnboeihkeljaaGreatDoor.Fil
open Wire
open Rec
open Trk (Sl Tv Tk TkV mayT encT BtPost)
open Log (Hv Ev cH cS cV mayH putL encH HdPost PtPost)
def BuPost (w:World) (r:Rc) (e:Ending) (w':World):Prop:=
  Ext w w'∧(mayR r→∀L,putL r.N r.evs=some L→∃v,e= .returned (.tuple #[v,.int .i64 0])∧OwnB w.heap.size w' v (built (encH r.x.hd) L (encT r.tr) r.N.toNat r.K.toNat r.fs))∧
    (¬mayR r→e= .returned (.tuple #[.slice none 0 0,.int .i64 2]))
theorem bu_bad {w w':World} {r:Rc} (hE:Ext w w') (h:¬mayR r):BuPost w r (.returned (.tuple #[.slice none 0 0,.int .i64 2])) w':=⟨hE,fun h'=>absurd h' h,fun _=>rfl⟩
theorem bu_ok {w w':World} {r:Rc} {v:Value} {L T:List Nat} (hE:Ext w w') (h:mayR r) (hL:putL r.N r.evs=some L) (hO:OwnB w.heap.size w' v T) (hT:T=built (encH r.x.hd) L (encT r.tr) r.N.toNat r.K.toNat r.fs):BuPost w r (.returned (.tuple #[v,.int .i64 0])) w':=
  ⟨hE,fun _ L' h'=>by
    have e:=hL.symm.trans h';cases e
    exact⟨v,rfl,by rw[←hT];exact hO⟩,fun h'=>absurd h h'⟩
theorem pls_snoc (k a:Nat) (fs:List (List Nat)) (i:Nat) (h:i<fs.length):pls k 0 [] a (fs.take (i+1))=pls k 0 [] a (fs.take i)++[bg k a fs i]:=by
  have hl:(fs.take i).length=i:=by rw[zw2];omega
  have hl1:(fs.take (i+1)).length=i+1:=by rw[zw2];omega
  refine List.ext_getElem? (fun j=>?_);by_cases hj:j<i
  · rw[pls_get k _ 0 [] a j (by omega),zw32 (by rw[pls_len];omega),pls_get k _ 0 [] a j (by omega),List.take_take,List.take_take]
    rw[show min j (i+1)=j by omega,show min j i=j by omega]
  · by_cases hj2:j=i
    · subst hj2
      rw[pls_get k _ 0 [] a j (by omega),zw33 (by rw[pls_len];omega),pls_len,List.take_take,show min j (j+1)=j by omega];simp[bg,show min j fs.length=j by omega]
    · rw[List.getElem?_eq_none (by rw[pls_len];omega),List.getElem?_eq_none (by rw[zw0,pls_len,zw27];omega)]
theorem frs_snoc (k:Nat) (fs:List (List Nat)) (i:Nat) (h:i<fs.length):frs k 0 [] (fs.take (i+1))=frs k 0 [] (fs.take i)++tk k i (prv fs i) (fs.getD i []):=by
  have e:fs.take (i+1)=fs.take i++[fs.getD i []]:=by
    rw[List.take_succ_eq_append_getElem h,zw5,zw6 h];rfl
  have hl:(fs.take i).length=i:=by rw[zw2];omega
  rw[e,frs_app,hl,frs,frs,zw18,Nat.zero_add];rfl
theorem frs_le (k:Nat) (fs:List (List Nat)) (i:Nat) (h:∀f∈fs,f.length≤500) (hn:fs.length≤40):(frs k 0 [] (fs.take i)).length≤30000:=by
  have h1:=frs_len k (fs.take i) 0 [] (fun f hf=>h f (List.mem_of_mem_take hf));have h2:(fs.take i).length≤fs.length:=by rw[zw2];omega
  omega
theorem up_pls (k:Nat):∀(l:List (List Nat)) (t:Nat) (was:List Nat) (a last:Nat),last≤a→a+(frs k t was l).length≤1000000000→up last (pls k t was a l)
  | [],_,_,_,_,_,_=>trivial
  | f::l,t,was,a,last,h,hb=>by
    rw[frs,zw0]at hb;exact⟨h,by omega,up_pls k l (t+1) f _ a (by omega) (by omega)⟩
theorem bd_new (w:World):Bd w ((w.alloc (.cells #[.int .u8 82,.int .u8 77,.int .u8 67,.int .u8 72] 5 (4,5))).alloc (.cells #[.slice (some ⟨w.heap.size,0,none⟩) 4 4,.slice none 0 0] 76)) (w.heap.size+1) (.slice (some ⟨w.heap.size,0,none⟩) 4 4) (.slice none 0 0) [82,77,67,72] []:=by
  have hs:(w.alloc (.cells #[.int .u8 82,.int .u8 77,.int .u8 67,.int .u8 72] 5 (4,5))).heap.size=w.heap.size+1:=zw22 _ _;have hb:=bs_new w 5 (4,5) [82,77,67,72] (small_mem (by decide));refine⟨Blk.new1 _ _ _ _,.inr ⟨w.heap.size,rfl,hb.ext (zxa (zxr _) _),zw8 _,by rw[zw22,hs];omega,by decide⟩,OwnR.nil _ _ _ _ _,zxa (zxa (zxr _) _) _,by omega,?_,?_,?_⟩
  · intro e
    have e':w.heap.size=w.heap.size+1:=by simpa [Value.ownBlock]using e
    omega
  · intro e;simp[Value.ownBlock]at e
  · intro k _ e;simp[Value.ownBlock]at e
theorem ob_app {base : Nat} {w : World} {v vx : Value} {tx : TypeId} {zs ys : List Nat} (h : OwnB base w v zs) (hsrc : Src Tryz.prog 1 tx vx ys.length (c8 ys) w) (hb : zs.length + ys.length ≤ 100000000000) (hs : base ≤ w.heap.size) :
    ∃v' w',(Builtin.append_ #[48,tx] 48 #[v,vx]).run Tryz.prog w= .ok v' w'∧OwnB base w' v' (zs++ys)∧Grew w w' v v':=by
  obtain⟨i0,hi0,hz0,hz1,hz2⟩:=info_parts info8;obtain⟨v',w',r1,r2,r3⟩:=run_app_own2 (P:=Tryz.prog) 48 tx 48 5 i0 (.int .u8 0) 1 1 Tryz.underlying48 hi0 hz0 hz1 hz2 rfl base v zs.length (c8 zs) h vx ys.length (c8 ys) hsrc (by unfold maxLen;omega) (by omega) hs;exact⟨v',w',r1,by unfold OwnB;rw[zw0,c8_app];exact r2,r3⟩
def FRel (W:World) (B k:Nat) (ld:List Nat) (fs:List (List Nat)) (gh:Nat) (wv iv:Value) (wr:World):Prop:=
  ∃(i:Nat) (v p:Value) (s:Sl),i+gh=fs.length∧iv= .int .i64 (i:Int)∧wv= .slice s.A s.n s.c∧BsV W s (prv fs i)∧Bd W wr B v p (ld++frs k 0 [] (fs.take i)) (pls k 0 [] ld.length (fs.take i))
theorem build_st (p : Pv) (r : Rc) (w : World) (hT : Crc.Tab w) (hP : PaV w p r) (hl : Low r) :
    Calls Tryz.prog 9 #[.agg (p.cells r)] w (BuPost w r):=by
  have HE0:=zh (zxa (zxr w) (.cells (p.cells r) 43));have HH0:=zh (Blk.new w 43 (p.cells r));have HP:=zh hP;have HNN:=zh hl.N;have HTB:=zh hT;have HHD:=zh (fun(w':World) (e:Ext w w')=>Log.header_st r.x p.A r.x.starts.length p.c w' (hP.1.ext e) hl.sfit (by have:=hl.tiles;omega) (by have:=hl.starts;omega) hl.seed hl.whi.1 hl.whi.2.1 hl.whi.2.2.1 hl.whi.2.2.2);have HLP:=zh (fun(w':World) (e:Ext w w')=>Log.put_st p.Al r.evs.length p.cl r.evs r.N w' (hP.2.1.ext e) hl.efit (by have:=hl.evs;omega));have HBY:=zh (fun(w':World) (e:Ext w w')=>Trk.bytes_st p.t r.tr r.N w' (hP.2.2.1.ext e) hl.N.1 hl.N.2);have HMF:=zh (fun(w':World) (e:Ext w w') (h:0≤r.N∧r.N≤4096)=>mayFrames_st p r w' (hP.2.2.2.ext e) h (by have:=hl.frames;omega));obtain⟨r0,hr0⟩:∃q,q=r:=⟨_,rfl⟩;rw[show BuPost w r=BuPost w r0 by rw[hr0]];have HLO:Hid (Low r0):=zh (by rw[hr0];exact hl);have HR0:=zh hr0;have HBAD:Hid (¬mayR r→¬mayR r0):=zh (by rw[hr0];exact fun h=>h);obtain⟨A,c,Al,cl,⟨⟨A0,n0,c0⟩,⟨A1,n1,c1⟩,⟨A2,n2,c2⟩,⟨A3,n3,c3⟩,⟨Am,nm,cm⟩⟩,Af,cf⟩:=p;obtain⟨⟨xw,xh,xp,xs,xt,us⟩,evs,N,K,tr,fs⟩:=r;have HMAY:Hid (mayR ⟨⟨xw,xh,xp,xs,xt,us⟩,evs,N,K,tr,fs⟩↔(mayH ⟨xw,xh,xp,xs,xt,us⟩∧(putL N evs).isSome=true∧mayT N tr=true∧1≤K∧K≤256∧(∀f∈fs,f.length≤131072)∧(fs.length:Int)=N+1)):=zh Iff.rfl;clear hT hP hl hr0;simp only[Pv.cells,cPa,cH,Tv.cells]at HE0 HH0 HHD HBY HMF HLP ⊢;generalize hm1:us.length=q1 at*;generalize hm2:evs.length=q2 at*;obtain⟨m,hm⟩:∃m,fs.length=m:=⟨_,rfl⟩;rw[hm]at HE0 HH0 HMF HMAY ⊢;replace hm:=zh hm;replace hm1:=zh hm1;replace hm2:=zh hm2
  go_enter Tryz.func9,Tryz.ntmps9;go_upto_region 1 with fail;obtain⟨w0,hw0⟩:∃q,q=w.alloc (.cells #[.int .i64 xw,.int .i64 xh,.int .i64 xp,.int .u32 (xs:Int),.string xt,.slice A q1 c,.slice Al q2 cl,.int .i64 N,.int .i64 K,.slice A0 n0 c0,.slice A1 n1 c1,.slice A2 n2 c2,.slice A3 n3 c3,.slice Am nm cm,.slice Af m cf] 43):=⟨_,rfl⟩;rw[←hw0]at HE0 HH0 ⊢;clear hw0;obtain⟨hb,hhb⟩:∃q,q=w.heap.size:=⟨_,rfl⟩;rw[←hhb]at HH0 ⊢;replace hhb:=zh hhb;have hh:=fun i=>HH0.out.cell i;go_upto_region 1 with fail;go_wp2_with fail;refine(HHD.out _ HE0.out).mono ?_;rintro e w1 ⟨hE1,hp1⟩;have HE1:=zh (zxt HE0.out hE1);have HH1:=zh (HH0.out.ext hE1);clear hE1 hh HH0;by_cases hmay1:mayH ⟨xw,xh,xp,xs,xt,us⟩
  case neg=>
    rw[if_neg hmay1]at hp1;subst hp1;have HNO:Hid (¬mayR r0):=zh (HBAD.out (fun h=>hmay1 (HMAY.out.1 h).1));clear hmay1;go_wp2_with fail
    go_ret2
    exact bu_bad HE1.out HNO.out
  rw[if_pos hmay1]at hp1;obtain⟨v1,rfl,hO1⟩:=hp1;have HO1:=zh hO1;have HY1:=zh hmay1;clear hO1 hmay1;have hh:=fun i=>HH1.out.cell i;go_wp2_with fail;refine(HLP.out _ HE1.out).mono ?_;rintro e w2 ⟨hE2,hp2⟩;have HE2:=zh (zxt HE1.out hE2);have HH2:=zh (HH1.out.ext hE2);replace HO1:=zh (HO1.out.ext hE2);clear hE2 hh HH1
  cases hpl:putL N evs with
  | none=>
    rw[hpl]at hp2;subst hp2;have HNO:Hid (¬mayR r0):=zh (HBAD.out (fun h=>by have:=(HMAY.out.1 h).2.1;rw[hpl]at this;cases this));clear hpl;go_wp2_with fail
    go_ret2
    exact bu_bad HE2.out HNO.out
  | some L=>
  rw[hpl]at hp2;obtain⟨v2,rfl,hO2⟩:=hp2;have HO2:=zh hO2;have HPL:=zh hpl;clear hO2 hpl;have hh:=fun i=>HH2.out.cell i;go_wp2_with fail;refine(HBY.out _ HE2.out).mono ?_;rintro e w3 ⟨hE3,hp3⟩;have HE3:=zh (zxt HE2.out hE3);have HH3:=zh (HH2.out.ext hE3);replace HO1:=zh (HO1.out.ext hE3);replace HO2:=zh (HO2.out.ext hE3);clear hE3 hh HH2
  cases hmt:mayT N tr with
  | false=>
    rw[hmt,if_neg (by simp)]at hp3;subst hp3;have HNO:Hid (¬mayR r0):=zh (HBAD.out (fun h=>by have:=(HMAY.out.1 h).2.2.1;rw[hmt]at this;cases this));clear hmt;go_wp2_with fail
    go_ret2
    exact bu_bad HE3.out HNO.out
  | true=>
  rw[hmt,if_pos rfl]at hp3;obtain⟨v3,rfl,hO3⟩:=hp3;have HO3:=zh hO3;have HMT:=zh hmt;have HN4:=zh (Trk.mayT_parts hmt).1;clear hO3 hmt;have hh:=fun i=>HH3.out.cell i;by_cases hk1:K<1
  · have HNO:Hid (¬mayR r0):=zh (HBAD.out (fun h=>by have:=(HMAY.out.1 h).2.2.2.1;omega))
    go_wp2_with fail
    go_ret2
    exact bu_bad HE3.out HNO.out
  by_cases hk2:256<K
  · have HNO:Hid (¬mayR r0):=zh (HBAD.out (fun h=>by have:=(HMAY.out.1 h).2.2.2.2.1;omega))
    go_wp2_with fail
    go_ret2
    exact bu_bad HE3.out HNO.out
  have HMF2:=zh (HMF.out _ HE3.out HN4.out);go_wp2_with fail;refine(HMF2.out).mono ?_;rintro e w4 ⟨rfl,hE4⟩;have HE4:=zh (zxt HE3.out hE4);have HH4:=zh (HH3.out.ext hE4);replace HO1:=zh (HO1.out.ext hE4);replace HO2:=zh (HO2.out.ext hE4);replace HO3:=zh (HO3.out.ext hE4);clear hE4 hh HH3 HMF HMF2 HHD HLP HBY HE0 HE1 HE2 HE3;by_cases hfr:(∀f∈fs,f.length≤131072)∧(m:Int)=N+1
  case neg=>
    have HNO:Hid (¬mayR r0):=zh (HBAD.out (fun h=>hfr (HMAY.out.1 h).2.2.2.2.2));rw[zw14 hfr];clear hfr;go_wp2_with fail
    go_ret2
    exact bu_bad HE4.out HNO.out
  rw[zw15 hfr];have HOK:Hid (mayR r0):=zh (by rw[HR0.out];exact HMAY.out.2 ⟨HY1.out,by rw[HPL.out];rfl,HMT.out,by omega,by omega,hfr⟩);have HNM:=zh hfr.2;obtain⟨k,rfl⟩:∃k:Nat,K=(k:Int):=⟨K.toNat,by omega⟩;obtain⟨n,rfl⟩:∃n:Nat,N=(n:Int):=⟨N.toNat,by have:=HN4.out;omega⟩;have HKK:Hid (1≤k∧k≤256∧n≤4096):=zh (by have:=HN4.out;omega);clear hfr HBAD HMAY HNN HN4;go_upto_region 10 with fail;have HX:=zh (bd_new w4);have kcv:=fun(w:World) (C:Array Value) (n c:Nat)=>Lib.run_convert_bytes_const (P:=Tryz.prog) w 48 5 C n c Tryz.underlying48 Tryz.underlying5;have HLOW:Hid (Low ⟨⟨xw,xh,xp,xs,xt,us⟩,evs,n,k,tr,fs⟩):=zh (by rw[←HR0.out];exact HLO.out)
  -- what has been put together
  obtain⟨X1,hX1⟩:∃X,X=encH (Hv.hd ⟨xw,xh,xp,xs,xt,us⟩):=⟨_,rfl⟩;obtain⟨X3,hX3⟩:∃X,X=encT tr:=⟨_,rfl⟩;have HL1:Hid (X1.length≤20000∧∀j,X1.getD j 0<256):=zh ⟨by rw[hX1];exact Log.encH_len _ HY1.out HLOW.out.sfit,by rw[hX1];exact small_mem (Log.encH_small _ HLOW.out.seed (mem_small (natsOf_small _)))⟩;have HL2:Hid (L.length≤100000∧∀j,L.getD j 0<256):=zh ⟨Log.putL_len HLOW.out.efit (zw10 HLOW.out.evs (by decide)) HPL.out,small_mem (Log.putL_small HLOW.out.efit HPL.out)⟩;have HL3:Hid (X3.length≤100000∧∀j,X3.getD j 0<256):=zh ⟨by rw[hX3];exact(Trk.encT_both HMT.out).1,by rw[hX3];exact small_mem (Trk.encT_both HMT.out).2⟩;rw[←hX1]at HO1;rw[←hX3]at HO3;obtain⟨G1,d1,hv1,z1,z2,z3,z4⟩:=HO1.out.shape;subst hv1;have HZ1:=zh (And.intro z1 (show d1≤9223372036854775807 from z2));have HB1:=zh (HO1.out.bs HL1.out.2).2;obtain⟨G2,d2,hv2,z1',z2',z3',z4'⟩:=HO2.out.shape;subst hv2;have HZ2:=zh (And.intro z1' (show d2≤9223372036854775807 from z2'));have HB2:=zh (HO2.out.bs HL2.out.2).2;obtain⟨G3,d3,hv3,z1'',z2'',z3'',z4''⟩:=HO3.out.shape;subst hv3;have HZ3:=zh (And.intro z1'' (show d3≤9223372036854775807 from z2''));have HB3:=zh (HO3.out.bs HL3.out.2).2;clear z1 z2 z3 z4 z1' z2' z3' z4' z1'' z2'' z3'' z4'' HO1 HO2 HO3;obtain⟨l1,hl1⟩:∃q,X1.length=q:=⟨_,rfl⟩;obtain⟨l2,hl2⟩:∃q,L.length=q:=⟨_,rfl⟩;obtain⟨l3,hl3⟩:∃q,X3.length=q:=⟨_,rfl⟩;rw[hl1]at HB1 HZ1 ⊢;rw[hl2]at HB2 HZ2 ⊢;rw[hl3]at HB3 HZ3 ⊢;replace hl1:=zh hl1;replace hl2:=zh hl2;replace hl3:=zh hl3;replace hX1:=zh hX1;replace hX3:=zh hX3;have HLD:Hid ((lead X1 L X3 n k).length≤400000∧∀j,(lead X1 L X3 n k).getD j 0<256):=zh (by
    have c1:=chunk_max 1 (xs:=X1) (by have:=HL1.out.1;omega);have c3:=chunk_max 3 (xs:=L) (by have:=HL2.out.1;omega);have c4:=chunk_max 4 (xs:=X3) (by have:=HL3.out.1;omega);have v1:=vb_ten (n:=n) (by have:=HKK.out;omega);have v2:=vb_ten (n:=k) (by have:=HKK.out;omega);have c2:=chunk_max 2 (xs:=vb n++vb k) (by rw[zw0];omega);rw[zw0]at c2;refine⟨?_,small_mem (fun c hc=>?_)⟩
    · simp only[lead,zw0,zw3,zw26]
      have:=HL1.out.1;have:=HL2.out.1;have:=HL3.out.1;omega
    · simp only[lead,zw16]at hc
      rcases hc with (((hc | hc) | hc) | hc) | hc
      · simp at hc;omega
      · exact Chk.chunk_small (by omega) HL1.out.2 c hc
      · exact Chk.chunk_small (by omega) (small_app (vb_byte n) (vb_byte k)) c hc
      · exact Chk.chunk_small (by omega) HL2.out.2 c hc
      · exact Chk.chunk_small (by omega) HL3.out.2 c hc)
  have HTW:Hid (Crc.Tab w4):=zh (HTB.out.ext HE4.out);have HFR:Hid (FrV w4 Af m fs):=zh (by have:=HP.out.2.2.2.ext HE4.out;simp only at this;rw[hm.out]at this;exact this);have HFS:Hid (∀f∈fs,f.length≤500):=zh HLOW.out.frame;have HFB:Hid (∀f∈fs,∀c∈f,c<256):=zh HLOW.out.small;have HFN:Hid (fs.length≤40):=zh HLOW.out.frames;go_upto_region 11 with fail;obtain⟨w5,hw5⟩:∃q,q=((w4.alloc (.cells #[.int .u8 82,.int .u8 77,.int .u8 67,.int .u8 72] 5 (4,5))).alloc (.cells #[.slice (some ⟨w4.heap.size,0,none⟩) 4 4,.slice none 0 0] 76)):=⟨_,rfl⟩;rw[←hw5]at HX ⊢;obtain⟨B,hB⟩:∃q,q=w4.heap.size+1:=⟨_,rfl⟩;rw[←hB]at HX ⊢;obtain⟨v5,hv5⟩:∃q,q=Value.slice (some ⟨w4.heap.size,0,none⟩) 4 4:=⟨_,rfl⟩;rw[←hv5]at HX;clear hw5 hB hv5 kcv;have HPT:=zh (put_st w4 w5 B v5 (.slice none 0 0) [82,77,67,72] [] 1 G1 l1 d1 X1 HTW.out HX.out (by omega) (HB1.out.ext HX.out.2.2.2.1) HZ1.out.1 HZ1.out.2 (by have:=HL1.out.1;have:=hl1.out;omega) (by decide));go_wp2_with fail;refine(HPT.out).mono ?_;rintro e w6 ⟨rfl,v6,hx6⟩;replace HX:=zh hx6;clear hx6 HPT;go_upto_region 12 with fail;have HBX:=zh (HH4.out.ext HX.out.2.2.2.1);replace HX:=zh (HX.out.ext (zxd (zxr w6)));replace HBX:=zh (HBX.out.ext (zxd (zxr w6)));have HS:=zh (And.intro (HBX.out.cell 7) (HBX.out.cell 8));simp only[zzD,zzE,zzF]at HS;have hwn:IntKind.u64.wrap (n:Int)=(n:Int):=by rw[IntKind.wrap_u64];have:=HKK.out;omega
  have hwk:IntKind.u64.wrap (k:Int)=(k:Int):=by rw[IntKind.wrap_u64];have:=HKK.out;omega
  refine zw38 (S:=fun W=>W.cell? ⟨hb,7,none⟩=some (.int .i64 (n:Int))∧W.cell? ⟨hb,8,none⟩=some (.int .i64 (k:Int))) hmxF HS.out (fun _=>?_);generalize w6.drew=w7 at*;have HLV:Hid ((vb n).length≤10∧(vb k).length≤10):=zh ⟨vb_ten (by have:=HKK.out;omega),vb_ten (by have:=HKK.out;omega)⟩;have HC1:Hid ((Chk.chunk 1 X1).length≤20026):=zh (by have:=chunk_max 1 (xs:=X1) (by have:=HL1.out.1;omega);have:=HL1.out.1;omega)
  iterate 7
   refine zqT (v:=?_) HS.out rfl ?_ ?_;rotate_left
   · intro w' hSw;obtain⟨s7,s8⟩:=hSw;go_simp;try with_reducible rfl
   (try simp only[Act.put,zzA,zzB,zzC])
  refine zqO (i:=4) (by kernel_rfl) rfl fun K hK=>?_;go_simp;refine(put_nil n (by have:=HKK.out;omega) _).mono ?_;rintro e w8 ⟨va,rfl,_,hO,hE⟩;have HE7:=zh hE;have HOA:=zh hO;clear hO hE;have HS:=zh (And.intro ((HBX.out.ext HE7.out).cell 7) ((HBX.out.ext HE7.out).cell 8));simp only[zzD,zzE,zzF]at HS
  (try go_wp2_with fail)
  refine hK.out _ _ HS.out fun _=>?_;clear hK K
  (try simp only[Act.put,zzA,zzB,zzC])
  refine zqO (i:=8) (by kernel_rfl) rfl fun K hK=>?_;go_simp;refine(put_nil k (by have:=HKK.out;omega) _).mono ?_;rintro e w9 ⟨vk,rfl,hsrc,_,hE⟩;replace HE7:=zh (zxt HE7.out hE);replace HOA:=zh (HOA.out.ext hE);have HSRC:=zh hsrc;clear hsrc hE;have HS:=zh (And.intro ((HBX.out.ext HE7.out).cell 7) ((HBX.out.ext HE7.out).cell 8));simp only[zzD,zzE,zzF]at HS
  (try go_wp2_with fail)
  refine hK.out _ _ HS.out fun _=>?_;clear hK K
  (try simp only[Act.put,zzA,zzB,zzC])
  refine zqO (i:=9) (by kernel_rfl) rfl fun K hK=>?_;obtain⟨vq,wq,hrun,hOq,hGq⟩:=ob_app HOA.out HSRC.out (by have:=vb_ten (n:=n) (by have:=HKK.out;omega);have:=vb_ten (n:=k) (by have:=HKK.out;omega);omega) HE7.out.size;obtain⟨lq,hlq⟩:∃q,(vb n++vb k).length=q:=⟨_,rfl⟩;obtain⟨Gq,dq,rfl,z1,z2,_,_⟩:=hOq.shape;replace HE7:=zh (hGq.ext HE7.out HOA.out (zw8 _));have HBQ:=zh (hOq.bs (small_app (vb_byte n) (vb_byte k))).2;rw[hlq]at hrun HBQ z1;have HRUN:=zh hrun;have HZQ:=zh (And.intro z1 (show dq≤9223372036854775807 from z2));replace hlq:=zh hlq;clear hrun hOq hGq z1 z2;have HS:=zh (And.intro ((HBX.out.ext HE7.out).cell 7) ((HBX.out.ext HE7.out).cell 8));simp only[zzD,zzE,zzF]at HS;refine wanted_append (by rfl) (.tmp 68) (.tmp 72) 48 48 (by rfl) _ _ (by rfl) (by rfl) HRUN.out ?_;refine hK.out _ _ HS.out fun _=>?_;clear hK K
  (try simp only[Act.put,zzA,zzB,zzC])
  refine zqO (i:=10) (by kernel_rfl) rfl fun K hK=>?_;have HPT:=zh (put_st w4 wq B v6 (.slice none 0 0) _ [] 2 Gq lq dq (vb n++vb k) HTW.out (HX.out.ext HE7.out) (by omega) HBQ.out HZQ.out.1 HZQ.out.2 (by have:=HLV.out;have:=hlq.out;rw[zw0]at this;omega) (by rw[zw0];have:=HC1.out;show 4+_≤_;omega));go_simp;refine(HPT.out).mono ?_;rintro e wr ⟨rfl,v10,hx10⟩;have HX2:=zh hx10;have HB2X:=zh (HH4.out.ext hx10.2.2.2.1);clear hx10 HPT;have HS:=zh (And.intro (HB2X.out.cell 7) (HB2X.out.cell 8));simp only[zzD,zzE,zzF]at HS
  (try go_wp2_with fail)
  refine hK.out _ _ HS.out fun _=>?_;clear hK K
  (try simp only[Act.put,zzA,zzB,zzC])
  refine zw39 (by kernel_rfl) ?_ _;clear HX HBX HE7 HOA HSRC HRUN HBQ HZQ hlq HS HB2X;replace HX:=HX2;clear HX2;have HC2:Hid ((Chk.chunk 2 (vb n++vb k)).length≤46):=zh (by have:=chunk_max 2 (xs:=vb n++vb k) (by rw[zw0];have:=HLV.out;omega);rw[zw0]at this;have:=HLV.out;omega);have HC3:Hid ((Chk.chunk 3 L).length≤100026):=zh (by have:=chunk_max 3 (xs:=L) (by have:=HL2.out.1;omega);have:=HL2.out.1;omega);have HPT:=zh (put_st w4 wr B v10 (.slice none 0 0) _ [] 3 G2 l2 d2 L HTW.out HX.out (by omega) (HB2.out.ext HX.out.2.2.2.1) HZ2.out.1 HZ2.out.2 (by have:=HL2.out.1;have:=hl2.out;omega) (by simp only[zw0];have:=HC1.out;have:=HC2.out;show 4+_+_≤_;omega));go_wp2_with fail;refine(HPT.out).mono ?_;rintro e wt ⟨rfl,v11,hx11⟩;replace HX:=zh hx11;clear hx11 HPT;have HPT:=zh (put_st w4 wt B v11 (.slice none 0 0) _ [] 4 G3 l3 d3 X3 HTW.out HX.out (by omega) (HB3.out.ext HX.out.2.2.2.1) HZ3.out.1 HZ3.out.2 (by have:=HL3.out.1;have:=hl3.out;omega) (by simp only[zw0];have:=HC1.out;have:=HC2.out;have:=HC3.out;show 4+_+_+_≤_;omega));go_wp2_with fail;refine(HPT.out).mono ?_;rintro e wu ⟨rfl,v12,hx12⟩;have HX:Hid (Bd w4 wu B v12 (.slice none 0 0) (lead X1 L X3 n k) []):=zh hx12;clear hx12 HPT;have HBT:Hid (built X1 L X3 n k fs=foot (lead X1 L X3 n k++frs k 0 [] fs) (pls k 0 [] (lead X1 L X3 n k).length fs)):=zh rfl;obtain⟨LD,hLD⟩:∃LD,lead X1 L X3 n k=LD:=⟨_,rfl⟩;rw[hLD]at HX HLD HBT;replace hLD:=zh hLD;have HBX:=zh (HH4.out.ext HX.out.2.2.2.1);have c14:=HBX.out.cell 14;simp only[zzD,zzE,zzF]at c14
  go_wp2_with fail;clear c14 HBX
  go_loopg [9,84] m (fun gh wv iv wx=>FRel w4 B k LD fs gh wv iv wx)
  case atStart=>exact⟨0,v12,.slice none 0 0,⟨none,0,0⟩,by rw[hm.out];omega,rfl,rfl,⟨Bs.none _ _,by simp,by simp,fun _=>⟨rfl,rfl⟩⟩,by have:=HX.out;simpa [frs,pls]using this⟩
  case round=>
    obtain⟨i,v,p,⟨Aw,nw,cw⟩,hi,rfl,rfl,hbw,hx⟩:=hrel;obtain⟨wi,rfl⟩:∃wi:World,wi=wr:=⟨_,rfl⟩;obtain⟨gh,rfl⟩:∃gh:Nat,gh=gk:=⟨_,rfl⟩;have HXI:=zh hx;have HBW:=zh hbw;clear hx hbw HX;rw[hm.out]at hi;have y1:(0:Int)≤(i:Int):=by omega
    have hmb:m≤40:=by rw[←hm.out];exact HFN.out
    have HPV:Hid ((prv fs i).length≤500):=zh (by
      unfold prv
      cases h:(fs.take i).getLast? with
      | none=>simp
      | some f=>exact HFS.out f (List.mem_of_mem_take (List.mem_of_getLast? h)))
    have HFL:=zh (frs_le k fs i HFS.out HFN.out);by_cases hlt:i<m
    · have y2:(i:Int)<(m:Int):=by omega
      have HIF:Hid (i<fs.length):=zh (by rw[hm.out];exact hlt);obtain⟨b,o,⟨Ai,ni,ci⟩,rfl,hcf,hbs⟩:=(HFR.out.ext HXI.out.2.2.2.1).at i hlt;have HBI:=zh hbs;have HBI4:Hid (BsV w4 ⟨Ai,ni,ci⟩ (fs.getD i [])):=zh (by
        obtain⟨b',o',s',e1,e2,e3⟩:=HFR.out.at i hlt;cases e1
        have e4:=kc HXI.out.2.2.2.1 e2;rw[hcf]at e4;obtain⟨s1,s2,s3⟩:=s';injection e4 with e4;injection e4 with e5 e6 e7;simp only at e5 e6 e7;subst e5 e6 e7;exact e3)
      simp only at hcf;clear hbs;obtain⟨Av,cv,hv⟩:=HXI.out.2.1.shape;obtain⟨lz,hlz⟩:∃q,(LD++frs k 0 [] (fs.take i)).length=q:=⟨_,rfl⟩;have HLZ:Hid (bg k LD.length fs i=lz):=zh (by rw[←hlz,zw0];rfl);rw[hlz]at hv;subst hv;replace hlz:=zh hlz;go_upto_region 19 with fail
      go_cut [8] (fun s8 wx=>s8= .pointer (some ⟨B,0,none⟩)∧∃p',Bd w4 wx B (.slice Av lz cv) p' (LD++frs k 0 [] (fs.take i)) (pls k 0 [] LD.length (fs.take (i+1))))
      case first=>
        have HXJ:=zh (HXI.out.ext (zxd (zxr wi)));refine zw38 (S:=fun _=>True) hmxF trivial (fun _=>?_);generalize wi.drew=w13 at*
        iterate 7
         refine zqU (v:=?_) trivial rfl ?_ ?_;rotate_left
         · intro w' hSw;go_simp;try with_reducible rfl
         (try simp only[Act.put,zzA,zzB,zzC])
        refine zw41 (rs:=[4,8]) (by kernel_rfl) (by simp) ?_;refine zqC rfl (fun K hK=>?_) (zqC rfl (fun K hK=>?_) zw42)
        · obtain⟨b0,b1,b2,b3⟩:=HXJ.out.two
          go_simp;clear b0 b1 b2 b3;refine hK.out _ _ trivial fun _=>?_;clear hK K
          (try simp only[Act.put,zzA,zzB,zzC])
          refine zqO (i:=8) (by kernel_rfl) rfl fun K hK=>?_;obtain⟨b0,b1,b2,b3⟩:=HXJ.out.two;go_simp;clear b0 b1 b2 b3;refine hK.out _ _ trivial fun _=>?_;clear hK K
          (try simp only[Act.put,zzA,zzB,zzC])
          (refine zqU (v:=?_) trivial rfl ?_ ?_);rotate_left
          · intro w' hSw;go_simp;try with_reducible rfl
          (try simp only[Act.put,zzA,zzB,zzC])
          refine zqO (i:=10) (by kernel_rfl) rfl fun K hK=>?_;have HSRC:=zh (src_rec (P:=Tryz.prog) (e':=3) Tryz.underlying74 w13 (cN lz) rfl (by intro u hu;simp[cN]at hu;subst hu;rfl) 1);replace HXJ:=zh (HXJ.out.ext (zxa (zxr w13) (.cells (cN lz).toArray 3)));simp only[cN]at HSRC HXJ;go_simp;refine hK.out _ _ trivial fun _=>?_;clear hK K
          (try simp only[Act.put,zzA,zzB,zzC])
          refine zqO (i:=11) (by kernel_rfl) rfl fun K hK=>?_;obtain⟨p',wq,hrun,hbp⟩:=Bd.place (a:=lz) HXJ.out HSRC.out (by rw[pls_len,zw2];have:=HFN.out;omega);have HRUN:=zh hrun;have HBP:=zh hbp;clear hrun hbp;refine wanted_append (by rfl) (.tmp 93) (.tmp 99) 74 74 (by rfl) _ _ (by rfl) (by rfl) HRUN.out ?_;refine hK.out _ _ trivial fun _=>?_;clear hK K
          (try simp only[Act.put,zzA,zzB,zzC])
          iterate 2
           refine zqU (v:=?_) trivial rfl ?_ ?_;rotate_left
           · intro w' hSw;go_simp;try with_reducible rfl
           (try simp only[Act.put,zzA,zzB,zzC])
          refine zqO (i:=14) (by kernel_rfl) rfl fun K hK=>?_;obtain⟨A5,c5,hp5,_⟩:=HBP.out.2.2.1.shape;subst hp5;have HD:=zh HBP.out.store;obtain⟨b0,b1,b2,b3⟩:=HBP.out.1.two;go_simp;clear b0 b1 b2 b3;refine hK.out _ _ trivial fun _=>?_;clear hK K
          (try simp only[Act.put,zzA,zzB,zzC])
          refine zw39 (by kernel_rfl) ?_ _;go_wp2_with fail;go_meet;have h:=HD.out;simp only[zw0,zw27]at h;have e:=pls_snoc k LD.length fs i HIF.out;rw[HLZ.out]at e;rw[←e]at h;exact⟨rfl,_,h⟩
        · obtain⟨b0,b1,b2,b3⟩:=HXJ.out.two
          go_simp;clear b0 b1 b2 b3;refine hK.out _ _ trivial fun _=>?_;clear hK K
          (try simp only[Act.put,zzA,zzB,zzC])
          (refine zqU (v:=?_) trivial rfl ?_ ?_);rotate_left
          · intro w' hSw;go_simp;try with_reducible rfl
          (try simp only[Act.put,zzA,zzB,zzC])
          refine zw41 (rs:=[4,10]) (by kernel_rfl) (by simp) ?_;refine zqC rfl (fun K hK=>?_) (zqC rfl (fun K hK=>?_) zw42)
          · obtain⟨b0,b1,b2,b3⟩:=HXJ.out.two
            go_simp;clear b0 b1 b2 b3;refine hK.out _ _ trivial fun _=>?_;clear hK K
            (try simp only[Act.put,zzA,zzB,zzC])
            refine zqO (i:=10) (by kernel_rfl) rfl fun K hK=>?_;have HSRC:=zh (src_rec (P:=Tryz.prog) (e':=3) Tryz.underlying74 w13 (cN lz) rfl (by intro u hu;simp[cN]at hu;subst hu;rfl) 1);replace HXJ:=zh (HXJ.out.ext (zxa (zxr w13) (.cells (cN lz).toArray 3)));simp only[cN]at HSRC HXJ;go_simp;refine hK.out _ _ trivial fun _=>?_;clear hK K
            (try simp only[Act.put,zzA,zzB,zzC])
            refine zqO (i:=11) (by kernel_rfl) rfl fun K hK=>?_;obtain⟨p',wq,hrun,hbp⟩:=Bd.place (a:=lz) HXJ.out HSRC.out (by rw[pls_len,zw2];have:=HFN.out;omega);have HRUN:=zh hrun;have HBP:=zh hbp;clear hrun hbp;refine wanted_append (by rfl) (.tmp 93) (.tmp 99) 74 74 (by rfl) _ _ (by rfl) (by rfl) HRUN.out ?_;refine hK.out _ _ trivial fun _=>?_;clear hK K
            (try simp only[Act.put,zzA,zzB,zzC])
            iterate 2
             refine zqU (v:=?_) trivial rfl ?_ ?_;rotate_left
             · intro w' hSw;go_simp;try with_reducible rfl
             (try simp only[Act.put,zzA,zzB,zzC])
            refine zqO (i:=14) (by kernel_rfl) rfl fun K hK=>?_;obtain⟨A5,c5,hp5,_⟩:=HBP.out.2.2.1.shape;subst hp5;have HD:=zh HBP.out.store;obtain⟨b0,b1,b2,b3⟩:=HBP.out.1.two;go_simp;clear b0 b1 b2 b3;refine hK.out _ _ trivial fun _=>?_;clear hK K
            (try simp only[Act.put,zzA,zzB,zzC])
            refine zw39 (by kernel_rfl) ?_ _;go_wp2_with fail;go_meet;have h:=HD.out;simp only[zw0,zw27]at h;have e:=pls_snoc k LD.length fs i HIF.out;rw[HLZ.out]at e;rw[←e]at h;exact⟨rfl,_,h⟩
          · have HSRC:=zh (src_rec (P:=Tryz.prog) (e':=3) Tryz.underlying74 w13 (cN lz) rfl (by intro u hu;simp[cN]at hu;subst hu;rfl) 1)
            replace HXJ:=zh (HXJ.out.ext (zxa (zxr w13) (.cells (cN lz).toArray 3)));simp only[cN]at HSRC HXJ;go_simp;refine hK.out _ _ trivial fun _=>?_;clear hK K
            (try simp only[Act.put,zzA,zzB,zzC])
            refine zqO (i:=4) (by kernel_rfl) rfl fun K hK=>?_;obtain⟨b0,b1,b2,b3⟩:=HXJ.out.two;go_simp;clear b0 b1 b2 b3;refine hK.out _ _ trivial fun _=>?_;clear hK K
            (try simp only[Act.put,zzA,zzB,zzC])
            refine zqO (i:=11) (by kernel_rfl) rfl fun K hK=>?_;obtain⟨p',wq,hrun,hbp⟩:=Bd.place (a:=lz) HXJ.out HSRC.out (by rw[pls_len,zw2];have:=HFN.out;omega);have HRUN:=zh hrun;have HBP:=zh hbp;clear hrun hbp;refine wanted_append (by rfl) (.tmp 93) (.tmp 99) 74 74 (by rfl) _ _ (by rfl) (by rfl) HRUN.out ?_;refine hK.out _ _ trivial fun _=>?_;clear hK K
            (try simp only[Act.put,zzA,zzB,zzC])
            iterate 2
             refine zqU (v:=?_) trivial rfl ?_ ?_;rotate_left
             · intro w' hSw;go_simp;try with_reducible rfl
             (try simp only[Act.put,zzA,zzB,zzC])
            refine zqO (i:=14) (by kernel_rfl) rfl fun K hK=>?_;obtain⟨A5,c5,hp5,_⟩:=HBP.out.2.2.1.shape;subst hp5;have HD:=zh HBP.out.store;obtain⟨b0,b1,b2,b3⟩:=HBP.out.1.two;go_simp;clear b0 b1 b2 b3;refine hK.out _ _ trivial fun _=>?_;clear hK K
            (try simp only[Act.put,zzA,zzB,zzC])
            refine zw39 (by kernel_rfl) ?_ _;go_wp2_with fail;go_meet;have h:=HD.out;simp only[zw0,zw27]at h;have e:=pls_snoc k LD.length fs i HIF.out;rw[HLZ.out]at e;rw[←e]at h;exact⟨rfl,_,h⟩
      case rest=>
        obtain⟨rfl,p2,hx2⟩:=hcut;have HX2:=zh hx2;clear hx2 HXI hcf;have HBX:=zh (HH4.out.ext HX2.out.2.2.2.1);have c8:=HBX.out.cell 8;simp only[zzD,zzE,zzF]at c8;have HKD:=zh (kind_st i k (by have:=HKK.out;omega) (by have:=HIF.out;have:=HFN.out;omega) (by have:=HKK.out;omega) wc);have HDL:=zh (dt_len k i (prv fs i) (fs.getD i []) (by have:=HFS.out _ (get_mem HIF.out);omega));have HFI:=zh (HFS.out _ (get_mem HIF.out));have HCK:=zh (chunk_max (kd k i) (xs:=dt k i (prv fs i) (fs.getD i [])) (by have:=HDL.out;have:=HFI.out;omega));have HTK:Hid (LD++frs k 0 [] (fs.take (i+1))=(LD++frs k 0 [] (fs.take i))++Chk.chunk (kd k i) (dt k i (prv fs i) (fs.getD i []))):=zh (by rw[frs_snoc k fs i HIF.out,tk_eq,zw7]);have HLZ2:Hid ((LD++frs k 0 [] (fs.take i)).length≤430000):=zh (by rw[zw0];have:=HFL.out;have:=HLD.out.1;omega);by_cases hz:i%k=0
        · rw[if_pos hz]at HKD
          have HDT:Hid (dt k i (prv fs i) (fs.getD i [])=fs.getD i []):=zh (by unfold dt;rw[if_pos hz]);have HKI:Hid (kd k i=5):=zh (by unfold kd;rw[if_pos hz]);clear hz;go_wp2_with fail;refine(HKD.out).mono ?_;rintro e wz ⟨rfl,rfl⟩;have HPT:=zh (put_st w4 wc B (.slice Av lz cv) p2 _ _ 5 Ai ni ci (fs.getD i []) HTW.out HX2.out (by omega) (HBI4.out.1.ext HX2.out.2.2.2.1) HBI4.out.2.1 HBI4.out.2.2.1 (by have h1:(fs.getD i []).length=ni:=HBI4.out.1.1;have:=HFI.out;omega) (by have:=HLZ2.out;omega));clear c8;go_wp2_with fail;refine(HPT.out).mono ?_;rintro e wq ⟨rfl,v3,hx3⟩;have HX3:Hid (Bd w4 wq B v3 p2 (LD++frs k 0 [] (fs.take (i+1))) (pls k 0 [] LD.length (fs.take (i+1)))):=zh (by rw[HTK.out,HKI.out,HDT.out];exact hx3);clear hx3 HPT HX2 HBX;obtain⟨A9,c9,rfl⟩:=HX3.out.2.1.shape;obtain⟨l9,hl9⟩:∃q,(LD++frs k 0 [] (fs.take (i+1))).length=q:=⟨_,rfl⟩;have hl9b:¬(4194304:Int)<(l9:Int):=by
            rw[←hl9,HTK.out,zw0];have:=HLZ2.out;have:=HCK.out;have:=HDL.out;have:=HFI.out;omega
          rw[hl9]at HX3;replace hl9:=zh hl9;obtain⟨b0,b1,b2,b3⟩:=HX3.out.two;go_wp2_with fail
          go_roundg (gh-1)
          case measure=>omega
          case rel=>exact⟨i+1,_,_,⟨Ai,ni,ci⟩,by rw[hm.out];omega,by go_num,rfl,by rw[prv_succ fs i HIF.out];exact HBI4.out,HX3.out⟩
        · rw[if_neg hz]at HKD
          have HDT:Hid (dt k i (prv fs i) (fs.getD i [])=Delta.diff (prv fs i) (fs.getD i [])):=zh (by unfold dt;rw[if_neg hz]);have HKI:Hid (kd k i=6):=zh (by unfold kd;rw[if_neg hz]);clear hz;go_wp2_with fail;refine(HKD.out).mono ?_;rintro e wz ⟨rfl,rfl⟩;have HDF:=zh (Delta.ddiff Aw Ai nw cw ni ci (prv fs i) (fs.getD i []) wc (HBW.out.1.ext HX2.out.2.2.2.1) (HBI4.out.1.ext HX2.out.2.2.2.1) (by have:=HPV.out;have h1:(prv fs i).length=nw:=HBW.out.1.1;omega) (by have h1:(fs.getD i []).length=ni:=HBI4.out.1.1;have:=HFI.out;omega));clear c8;go_wp2_with fail;refine(HDF.out).mono ?_;rintro e wd ⟨gd,cd,rfl,zd1,zd2,_,hod,hed⟩;have HBD:=zh (Wire.Own.bs hod (small_mem (diff_mem (prv_small HFB.out i) (HFB.out _ (get_mem HIF.out)))));have HX2D:=zh (HX2.out.ext hed);obtain⟨ld,hld⟩:∃q,(Delta.diff (prv fs i) (fs.getD i [])).length=q:=⟨_,rfl⟩;rw[hld]at HBD zd1 ⊢;have HZD:=zh (And.intro zd1 (show cd≤9223372036854775807 from zd2));have HPT:=zh (put_st w4 wd B (.slice Av lz cv) p2 _ _ 6 (some ⟨gd,0,none⟩) ld cd (Delta.diff (prv fs i) (fs.getD i [])) HTW.out HX2D.out (by omega) HBD.out HZD.out.1 HZD.out.2 (by have:=HDL.out;rw[HDT.out,hld]at this;have:=HFI.out;omega) (by have:=HLZ2.out;omega));clear hod hed zd1 zd2 hld;go_wp2_with fail;refine(HPT.out).mono ?_;rintro e wq ⟨rfl,v3,hx3⟩;have HX3:Hid (Bd w4 wq B v3 p2 (LD++frs k 0 [] (fs.take (i+1))) (pls k 0 [] LD.length (fs.take (i+1)))):=zh (by rw[HTK.out,HKI.out,HDT.out];exact hx3);clear hx3 HPT HX2 HX2D HBD HZD HBX HDF;obtain⟨A9,c9,rfl⟩:=HX3.out.2.1.shape
          obtain⟨l9,hl9⟩:∃q,(LD++frs k 0 [] (fs.take (i+1))).length=q:=⟨_,rfl⟩;have hl9b:¬(4194304:Int)<(l9:Int):=by
            rw[←hl9,HTK.out,zw0];have:=HLZ2.out;have:=HCK.out;have:=HDL.out;have:=HFI.out;omega
          rw[hl9]at HX3;replace hl9:=zh hl9;obtain⟨b0,b1,b2,b3⟩:=HX3.out.two;go_wp2_with fail
          go_roundg (gh-1)
          case measure=>omega
          case rel=>exact⟨i+1,_,_,⟨Ai,ni,ci⟩,by rw[hm.out];omega,by go_num,rfl,by rw[prv_succ fs i HIF.out];exact HBI4.out,HX3.out⟩
    · obtain rfl:gh=0:=by omega
      obtain rfl:i=m:=by omega
      have y2:¬(i:Int)<(i:Int):=by omega
      have HXE:Hid (Bd w4 wi B v p (LD++frs k 0 [] fs) (pls k 0 [] LD.length fs)):=zh (by have:=HXI.out;rwa [List.take_of_length_le (by rw[hm.out];exact zw8 _)]at this);have HSZ:Hid ((LD++frs k 0 [] fs).length≤430000∧∀j,(LD++frs k 0 [] fs).getD j 0<256):=zh (by
        refine⟨?_,small_app HLD.out.2 (small_mem (frs_small k fs 0 [] (fun c h=>by cases h) HFB.out))⟩;have h1:=frs_len k fs 0 [] HFS.out;rw[zw0];have:=HLD.out.1;have:=HFN.out;omega)
      have HUP:Hid (up 0 (pls k 0 [] LD.length fs)):=zh (up_pls k fs 0 [] LD.length 0 (by omega) (by have:=HSZ.out.1;rw[zw0]at this;omega));have HIL:Hid ((idx 0 (pls k 0 [] LD.length fs)).length≤400):=zh (by
        have h1:=idx_len (pls k 0 [] LD.length fs) 0 (fun a ha=>by
          obtain⟨j,hj,rfl⟩:=List.getElem_of_mem ha;have hj':=hj;rw[pls_len]at hj';have e:=pls_get k fs 0 [] LD.length j hj';rw[zw6 hj]at e;rw[zw13 e];have:=frs_le k fs j HFS.out HFN.out;have:=HLD.out.1;omega)
        rw[pls_len]at h1;have:=HFN.out;omega)
      have HPL2:Hid ((pls k 0 [] LD.length fs).length≤40):=zh (by rw[pls_len];exact HFN.out);obtain⟨S,hS⟩:∃S,LD++frs k 0 [] fs=S:=⟨_,rfl⟩;obtain⟨P,hP⟩:∃P,pls k 0 [] LD.length fs=P:=⟨_,rfl⟩;rw[hS,hP]at HXE HBT;rw[hS]at HSZ;rw[hP]at HUP HIL HPL2;clear HXI HFL;obtain⟨Av,cv,rfl⟩:=HXE.out.2.1.shape;obtain⟨Ap,cp,rfl,zp1,zp2,zp3,_⟩:=HXE.out.2.2.1.shape;have HPR:Hid (RowR wi Ap P.length 1 cN P):=zh (OwnR.row cN_len HXE.out.2.2.1);have HIX:=zh (index_st Ap P.length cp P wi HPR.out HUP.out (by have:=HPL2.out;omega));obtain⟨sl,hsl⟩:∃q,S.length=q:=⟨_,rfl⟩;obtain⟨pl,hpl⟩:∃q,P.length=q:=⟨_,rfl⟩;rw[hsl]at HXE;rw[hpl]at HXE HIX;replace hsl:=zh hsl;replace hpl:=zh hpl;clear zp1 zp2 zp3;obtain⟨b0,b1,b2,b3⟩:=HXE.out.two;go_wp2_with fail;refine(HIX.out).mono ?_;rintro e w20 ⟨v20,rfl,hO20,hE20⟩;clear b0 b1 b2 b3;have HXF:=zh (HXE.out.ext hE20);obtain⟨A20,c20,rfl,z1,z2,_,_⟩:=hO20.shape;have HB20:=zh (hO20.bs (small_mem (idx_small P 0))).2;obtain⟨l20,hl20⟩:∃q,(idx 0 P).length=q:=⟨_,rfl⟩;rw[hl20]at HB20 z1 ⊢;have HPT:=zh (put_st w4 w20 B _ _ _ _ 7 A20 l20 c20 (idx 0 P) HTW.out HXF.out (by omega) HB20.out z1 z2 (by have:=HIL.out;omega) (by have:=HSZ.out.1;omega));have HC7:=zh (chunk_max 7 (xs:=idx 0 P) (by have:=HIL.out;omega));have HS7:Hid (∀j,(Chk.chunk 7 (idx 0 P)).getD j 0<256):=zh (small_mem (Chk.chunk_small (by omega) (small_mem (idx_small P 0))));clear z1 z2 hO20 hE20;replace hl20:=zh hl20;go_wp2_with fail;refine(HPT.out).mono ?_;rintro e w21 ⟨rfl,v21,hx21⟩;have HX21:=zh hx21;have HFI:=zh (finish_st w4 w21 B v21 _ _ _ sl HTW.out HX21.out (small_app HSZ.out.2 HS7.out) (by rw[zw0];have:=HSZ.out.1;have:=HC7.out;have:=HIL.out;omega) (by have:=HSZ.out.1;have:=hsl.out;omega))
      clear hx21 HPT HXE HXF HIX;go_wp2_with fail;refine(HFI.out).mono ?_;rintro e w22 ⟨v22,rfl,hO22,hE22⟩;have HO22:=zh hO22;have HE22:=zh (zxt HE4.out hE22);clear hO22 hE22;go_wp2_with fail
      go_ret2
      refine bu_ok HE22.out HOK.out (L:=L) (by rw[HR0.out];exact HPL.out) (HO22.out.mono HE4.out.size) ?_;rw[HR0.out];simp only[zw35];rw[←hX1.out,←hX3.out,HBT.out];unfold foot;rw[hsl.out]
end Go.Proofs.YtidnboeihkeljaaGreatDoor.Fil
