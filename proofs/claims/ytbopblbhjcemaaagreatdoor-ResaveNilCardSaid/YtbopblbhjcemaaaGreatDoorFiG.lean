/- Contracts of package file: another track. -/
import Derived.Test.YtbopblbhjcemaaaGreatDoorF27
set_option maxHeartbeats 16000000
set_option maxRecDepth 100000
set_option linter.all false
open Go.ChangeShapes Go.WideShapes Go.ChangeAt Go.RowKit
namespace Go.Proofs.YtbopblbhjcemaaaGreatDoor.Fil
open Wire
open Rec
open Trk (Sl Tv Tk TkV mayT encT BtPost)
open Log (Hv Ev cH cS cV mayH putL encH)
theorem bd_none (w:World) {W:World} (e:Ext W w):Bd W (w.alloc (.cells #[.slice none 0 0,.slice none 0 0] 76)) w.heap.size (.slice none 0 0) (.slice none 0 0) [] []:=
  ⟨Blk.new _ _ _,.inl (OwnB.nil _ _),OwnR.nil _ _ _ _ _,zxa e _,e.size,by intro h;simp[Value.ownBlock]at h,by intro h;simp[Value.ownBlock]at h,fun k h=>by simp[Value.ownBlock]at h⟩
def WiPost (w:World) (b:Bool) (T:List Nat) (e:Ending) (w':World):Prop:=
  Ext w w'∧(b=true→∃v,e= .returned (.tuple #[v,.int .i64 0])∧OwnB w.heap.size w' v T)∧(b=false→e= .returned (.tuple #[.slice none 0 0,.int .i64 2]))
theorem wi_bad {w w':World} {T:List Nat} (hE:Ext w w'):WiPost w false T (.returned (.tuple #[.slice none 0 0,.int .i64 2])) w':=⟨hE,(fun h=>by cases h),fun _=>rfl⟩
theorem wi_ok {w w':World} {b:Bool} {T T':List Nat} {v:Value} (hE:Ext w w') (hO:OwnB w.heap.size w' v T') (h:T'=T) (hb:b=true):WiPost w b T (.returned (.tuple #[v,.int .i64 0])) w':=by
  subst h hb;exact⟨hE,(fun _=>⟨v,rfl,hO⟩),(fun h=>by cases h)⟩
structure Cut (w:World) (q n c:Nat) (xs:List Nat):Prop where
  bs:Bs w (some ⟨q,0,none⟩) n xs
  le:n≤c
  cap:c≤9223372036854775807
theorem Cut.src {w:World} {q n c:Nat} {xs:List Nat} (h:Cut w q n c xs) (a m:Nat) (ham:a+m≤n) {ys:List Nat} (hy:(xs.drop a).take m=ys) (k:Nat):Src Tryz.prog 1 22 (.slice (some ⟨q,a,none⟩) m k) ys.length (c8 ys) w:=by
  have h1:=Delta.bs_cut h.bs a m ham;rw[hy]at h1;have h2:=h1.1;subst h2;exact h1.src Tryz.underlying22 k
theorem bt_in {w w' : World} {n : Int} {x : Tk} {e : Ending} (h : if mayT n x = true then ∃ v, e = .returned (.tuple #[v, .int .i64 0]) ∧ OwnB w.heap.size w' v (encT x) else e = .returned (.tuple #[.slice none 0 0, .int .i64 2])) :
    ∃v ec,e= .returned (.tuple #[v,.int .i64 ec])∧(mayT n x=true→ec=0∧∃A c,v= .slice A (encT x).length c∧Bs w' A (encT x).length (encT x)∧(encT x).length≤c∧c≤9223372036854775807)∧(mayT n x=false→ec=2∧v= .slice none 0 0):=by
  by_cases hm:mayT n x=true
  · rw[if_pos hm]at h
    obtain⟨v,rfl,hO⟩:=h;obtain⟨A,c,rfl,h1,h2,_⟩:=hO.shape;exact⟨_,_,rfl,fun _=>⟨rfl,A,c,rfl,(hO.bs (small_mem (Trk.encT_both hm).2)).2,h1,h2⟩,fun h=>by rw[hm]at h;cases h⟩
  · rw[if_neg hm]at h
    exact⟨_,_,h,fun h=>absurd h hm,fun _=>⟨rfl,rfl⟩⟩
def WRel (W0:World) (B:Nat) (v:Value) (Q:List Nat) (k a:Nat) (fs:List (List Nat)) (m gh:Nat) (iv:Value) (wx:World):Prop:=
  ∃(i:Nat) (p:Value),i+gh=m∧iv= .int .i64 (i:Int)∧Bd W0 wx B v p Q (pls k 0 [] a (fs.take i))
theorem with_ok (f : Nat) (h lg tro : List Nat) (fs : List (List Nat)) (r : Rc) (L : List Nat) (t : Tv) (tr : Tk) (w : World) (hT : Crc.Tab w) (hh : h = encH r.x.hd) (hlg : lg = L) (hfs : fs = r.fs) (nn kk : Nat) (hN : r.N = nn) (hK : r.K = kk)
    (hF:FV w f (built h lg tro nn kk fs) r (pre h lg nn kk).length (lead h lg tro nn kk).length ((lead h lg tro nn kk).length+(frs kk 0 [] fs).length)) (hTk:TkV w t tr) (hsz:(built h lg tro nn kk fs).length≤900000) (hs1:∀j,(built h lg tro nn kk fs).getD j 0<256) (hf0:0<(frs kk 0 [] fs).length) (hfm:fs.length≤41)
    (hn4:nn≤4096) (hls:mayT nn tr=true→∀j,(built h lg (encT tr) nn kk fs).getD j 0<256) (hll:mayT nn tr=true→(built h lg (encT tr) nn kk fs).length≤900000) (hup:∀a,a+(frs kk 0 [] fs).length≤1000000000→up 0 (pls kk 0 [] a fs)):
    Calls Tryz.prog 9 #[.pointer (some ⟨f,0,none⟩),.agg t.cells] w (WiPost w (mayT nn tr) (built h lg (encT tr) nn kk fs)):=by
  obtain⟨o,A,c,Al,cl,t0,Ap,cp,ho,hfb,hbs,hon,hoc,_,_,_,_,_,_,_,_,_,hpl,_,hpc,hpm⟩:=hF.ex;rw[hN,hK]at hfb;rw[hK,zw35,plc_eq]at hpl;rw[←hfs]at hpl hpc hfb;have HBY:=zh (fun(W:World) (e:Ext w W)=>Trk.bytes_st t tr nn W (hTk.ext e) (by omega) (by omega));have hlen:=built_len h lg tro nn kk fs;have hlp:=congrArg List.length (lead_pre h lg tro nn kk);rw[zw0]at hlp;have c4:=Chk.chunk_pos 4 tro;have hxn:=hbs.1;obtain⟨xs,hxs⟩:∃q,q=built h lg tro nn kk fs:=⟨_,rfl⟩;have HP:=zh (cut_pre h lg tro nn kk fs);have HFR:=zh (cut_frs h lg tro nn kk fs);have HIX:=zh (cut_ixc h lg tro nn kk fs);rw[←hxs]at hbs hxn hlen HP HFR HIX hsz;have HCT:Hid (∀W,Ext w W→Cut W o.q o.n o.c xs):=zh (fun W e=>⟨hbs.ext e,hon,hoc⟩);obtain⟨b3,hb3⟩:∃q,q=(pre h lg nn kk).length:=⟨_,rfl⟩;obtain⟨b4,hb4⟩:∃q,q=(lead h lg tro nn kk).length:=⟨_,rfl⟩;obtain⟨zf,hzf⟩:∃q,q=(frs kk 0 [] fs).length:=⟨_,rfl⟩;obtain⟨zi,hzi⟩:∃q,q=(ixc h lg tro nn kk fs).length:=⟨_,rfl⟩;rw[←hb3]at hfb hlp HP;rw[←hb4]at hfb hlp hlen hpl HFR HIX;rw[←hzf]at hfb hlen hf0 HFR HIX;rw[←hzi]at hlen HIX;obtain⟨iA,hiA⟩:∃q,q=b4+zf:=⟨_,rfl⟩;rw[←hiA]at hfb HIX;have HFB:=zh (fun(W:World) (e:Ext w W)=>hfb.ext e);have e1:b3≤o.n:=by omega
  have e2:b3≤o.c:=by omega
  have e3:b4≤iA:=by omega
  have e4:iA≤o.c:=by omega
  have e5:iA≤o.n:=by omega
  have HTB:=zh hT;have HF9:=zh hfb.lt;clear hF hTk hT hbs hfb;simp only[cFl]at HFB;obtain⟨⟨A0,n0,c0⟩,⟨A1,n1,c1⟩,⟨A2,n2,c2⟩,⟨A3,n3,c3⟩,⟨Am,nm,cm⟩⟩:=t;simp only[Tv.cells]at HBY ⊢;obtain⟨q,hq⟩:∃z,z=o.q:=⟨_,rfl⟩;obtain⟨on,hon'⟩:∃z,z=o.n:=⟨_,rfl⟩;obtain⟨oc,hoc'⟩:∃z,z=o.c:=⟨_,rfl⟩;rw[←hq,←hon',←hoc']at HFB HCT;rw[←hon']at hxn hon e1 e5;rw[←hoc']at hon hoc e2 e4;clear hq hon' hoc' ho;have HB3:=zh hb3;have HB4:=zh hb4;have HZF:=zh hzf;have HZI:=zh hzi;have HIA:=zh hiA;have HLP:=zh hlp;have HLEN:=zh hlen;have HXN:=zh hxn;clear hb3 hb4 hzf hzi hiA hlp hlen hxn hh hlg hfs hN hK hxs;go_enter Tryz.func9,Tryz.ntmps9;go_upto_region 3 with fail;have HE0:=zh (zxa (zxr w) (.cells #[.slice A0 n0 c0,.slice A1 n1 c1,.slice A2 n2 c2,.slice A3 n3 c3,.slice Am nm cm] 37));have HH0:=zh (Blk.new w 37 #[.slice A0 n0 c0,.slice A1 n1 c1,.slice A2 n2 c2,.slice A3 n3 c3,.slice Am nm cm]);obtain⟨w0,hw0⟩:∃q,q=w.alloc (.cells #[.slice A0 n0 c0,.slice A1 n1 c1,.slice A2 n2 c2,.slice A3 n3 c3,.slice Am nm cm] 37):=⟨_,rfl⟩;rw[←hw0]at HE0 HH0 ⊢;clear hw0;generalize w.heap.size=tb at*;have MKT:=zh (fun(W:World) (e:Ext w0 W)=>(⟨kc e (HH0.out.cell 0),kc e (HH0.out.cell 1),kc e (HH0.out.cell 2),kc e (HH0.out.cell 3),kc e (HH0.out.cell 4),(HFB.out W (zxt HE0.out e)).cell 8⟩:W.cell? ⟨tb,0,none⟩=some (.slice A0 n0 c0)∧W.cell? ⟨tb,1,none⟩=some (.slice A1 n1 c1)∧W.cell? ⟨tb,2,none⟩=some (.slice A2 n2 c2)∧W.cell? ⟨tb,3,none⟩=some (.slice A3 n3 c3)∧W.cell? ⟨tb,4,none⟩=some (.slice Am nm cm)∧W.cell? ⟨f,8,none⟩=some (.int .i64 (nn:Int))))
  have HX:=zh (zxd (zxr w0));generalize hwd:w0.drew=WA at HX;have HS:=zh (MKT.out _ HX.out);refine zw38 (S:=fun W=>W.cell? ⟨tb,0,none⟩=some (.slice A0 n0 c0)∧W.cell? ⟨tb,1,none⟩=some (.slice A1 n1 c1)∧W.cell? ⟨tb,2,none⟩=some (.slice A2 n2 c2)∧W.cell? ⟨tb,3,none⟩=some (.slice A3 n3 c3)∧W.cell? ⟨tb,4,none⟩=some (.slice Am nm cm)∧W.cell? ⟨f,8,none⟩=some (.int .i64 (nn:Int))) hmxF (by rw[hwd];exact HS.out) (fun _=>?_);rw[hwd];clear hwd
  (refine zqK (i:=0) (v:=?_) rfl (Or.inl ⟨by rfl,?_⟩) HS.out ?_);rotate_left
  · (intro w' hSw;obtain⟨s0,s1,s2,s3,s4,s5⟩:=hSw;go_simp;try with_reducible rfl)
  (try simp only[Act.put,zzA,zzB,zzC])
  iterate 4
   refine zqU (v:=?_) HS.out rfl ?_ ?_;rotate_left
   · intro w' hSw;obtain⟨s0,s1,s2,s3,s4,s5⟩:=hSw;go_simp;try with_reducible rfl
   (try simp only[Act.put,zzA,zzB,zzC])
  (refine zqK (i:=5) (v:=?_) rfl (Or.inl ⟨by rfl,?_⟩) HS.out ?_);rotate_left
  · (intro w' hSw;obtain⟨s0,s1,s2,s3,s4,s5⟩:=hSw;go_simp;try with_reducible rfl)
  (try simp only[Act.put,zzA,zzB,zzC])
  refine zqO (i:=6) (by kernel_rfl) rfl fun K hK=>?_;go_simp;refine(HBY.out _ (zxt HE0.out HX.out)).mono ?_;rintro e WA ⟨hE,hp⟩;replace HX:=zh (zxt HX.out hE);have HS:=zh (MKT.out _ HX.out);obtain⟨v,ec,rfl,hv1,hv2⟩:=bt_in hp;have HV1:=zh hv1;have HV2:=zh hv2;clear hE hp hv1 hv2
  (try go_wp2_with fail)
  refine hK.out _ _ HS.out fun _=>?_;clear hK K
  (try simp only[Act.put,zzA,zzB,zzC])
  iterate 5
   refine zqU (v:=?_) HS.out rfl ?_ ?_;rotate_left
   · intro w' hSw;obtain⟨s0,s1,s2,s3,s4,s5⟩:=hSw;go_simp;try with_reducible rfl
   (try simp only[Act.put,zzA,zzB,zzC])
  refine zw39 (by kernel_rfl) ?_ _
  cases hmt:mayT nn tr with
  | false=>
    obtain⟨rfl,rfl⟩:=HV2.out hmt;go_wp2_with fail
    go_ret2
    exact wi_bad (zxt HE0.out HX.out)
  | true=>
    obtain⟨hec,A6,c6,rfl,hB6,h61,h62⟩:=HV1.out hmt;have HB6:=zh hB6;have HT6:=zh (And.intro h61 h62);have HMT:=zh hmt;have HE1:=zh (zxt HE0.out HX.out);have hz0:(ec != 0)=false:=by rw[hec];rfl
    clear hec hB6 h61 h62 hmt HV1 HV2;obtain⟨W0,rfl⟩:∃z,z=WA:=⟨_,rfl⟩;have HTA:=zh (HTB.out.ext HE1.out);go_upto_region 7 with fail;have HD:=zh (bd_none W0 (zxr W0));obtain⟨B,hBB⟩:∃z,z=W0.heap.size:=⟨_,rfl⟩;obtain⟨wb,hwb⟩:∃z,z=W0.alloc (.cells #[.slice none 0 0,.slice none 0 0] 76):=⟨_,rfl⟩;rw[←hBB]at HD ⊢;rw[←hwb]at HD ⊢;clear hBB hwb;have MKS:=zh (fun(W:World) (e:Ext W0 W)=>(⟨(HFB.out W (zxt HE1.out e)).cell 0,(HFB.out W (zxt HE1.out e)).cell 16,(HFB.out W (zxt HE1.out e)).cell 17,(HFB.out W (zxt HE1.out e)).cell 19⟩:W.cell? ⟨f,0,none⟩=some (.slice (some ⟨q,0,none⟩) on oc)∧W.cell? ⟨f,16,none⟩=some (.int .i64 (b3:Int))∧W.cell? ⟨f,17,none⟩=some (.int .i64 (b4:Int))∧W.cell? ⟨f,19,none⟩=some (.int .i64 (iA:Int))));have HSRC:Hid (∀W,Ext W0 W→Src Tryz.prog 1 22 (.slice (some ⟨q,0,none⟩) b3 oc) (pre h lg nn kk).length (c8 (pre h lg nn kk)) W):=zh (fun W e=>(HCT.out W (zxt HE1.out e)).src 0 b3 (by omega) (by rw[zw28];exact HP.out) oc);have hpp:0<(pre h lg nn kk).length:=by rw[pre_len];omega
    have hpz:(pre h lg nn kk).length≤900000:=by have:=HB3.out;have:=HXN.out;omega
    replace HD:=zh (HD.out.ext (zxd (zxr wb)));generalize hwd:wb.drew=WB at HD;have HS:=zh (MKS.out _ HD.out.2.2.2.1);refine zw38 (S:=fun W=>W.cell? ⟨f,0,none⟩=some (.slice (some ⟨q,0,none⟩) on oc)∧W.cell? ⟨f,16,none⟩=some (.int .i64 (b3:Int))∧W.cell? ⟨f,17,none⟩=some (.int .i64 (b4:Int))∧W.cell? ⟨f,19,none⟩=some (.int .i64 (iA:Int))) hmxF (by rw[hwd];exact HS.out) (fun _=>?_);rw[hwd]
    iterate 7
     refine zqU (v:=?_) HS.out rfl ?_ ?_;rotate_left
     · intro w' hSw;obtain⟨s0,s1,s2,s3⟩:=hSw;go_simp;try with_reducible rfl
     (try simp only[Act.put,zzA,zzB,zzC])
    (refine zqK (i:=8) (v:=?_) rfl (Or.inl ⟨by rfl,?_⟩) HS.out ?_);rotate_left
    · (intro w' hSw;obtain⟨s0,s1,s2,s3⟩:=hSw;go_simp;try with_reducible rfl)
    (try simp only[Act.put,zzA,zzB,zzC])
    iterate 3
     refine zqU (v:=?_) HS.out rfl ?_ ?_;rotate_left
     · intro w' hSw;obtain⟨s0,s1,s2,s3⟩:=hSw;go_simp;try with_reducible rfl
     (try simp only[Act.put,zzA,zzB,zzC])
    (refine zqK (i:=12) (v:=?_) rfl (Or.inl ⟨by rfl,?_⟩) HS.out ?_);rotate_left
    · (intro w' hSw;obtain⟨s0,s1,s2,s3⟩:=hSw;go_simp;try with_reducible rfl)
    (try simp only[Act.put,zzA,zzB,zzC])
    (refine zqU (v:=?_) HS.out rfl ?_ ?_);rotate_left
    · intro w' hSw;obtain⟨s0,s1,s2,s3⟩:=hSw;go_simp;try with_reducible rfl
    (try simp only[Act.put,zzA,zzB,zzC])
    refine zqO (i:=4) (by kernel_rfl) rfl fun K hK=>?_;obtain⟨b0,b1,b2,b3'⟩:=HD.out.two;go_simp;refine hK.out _ _ HS.out fun _=>?_;clear hK K
    (try simp only[Act.put,zzA,zzB,zzC])
    refine zqO (i:=14) (by kernel_rfl) rfl fun K hK=>?_;obtain⟨v3,w3,hrun,hm3⟩:=HD.out.app (HSRC.out _ HD.out.2.2.2.1) (by omega) (by simp;omega);have HRUN:=zh hrun;have HM:=zh hm3;have HS:=zh (MKS.out _ HM.out.2.2.2.1);clear hrun hm3;obtain⟨Q5,hQ5⟩:∃z,z=[]++pre h lg nn kk:=⟨_,rfl⟩;rw[←hQ5]at HM;have HQ5:=zh hQ5;clear hQ5;refine wanted_append (by rfl) (.tmp 33) (.tmp 42) 22 22 (by rfl) _ _ (by rfl) (by rfl) HRUN.out ?_;refine hK.out _ _ HS.out fun _=>?_;clear hK K
    (try simp only[Act.put,zzA,zzB,zzC])
    iterate 2
     refine zqU (v:=?_) HS.out rfl ?_ ?_;rotate_left
     · intro w' hSw;obtain⟨s0,s1,s2,s3⟩:=hSw;go_simp;try with_reducible rfl
     (try simp only[Act.put,zzA,zzB,zzC])
    refine zqO (i:=17) (by kernel_rfl) rfl fun K hK=>?_;obtain⟨A5,c5,rfl,_⟩:=HM.out.2.1.shape;obtain⟨n5,hn5⟩:∃z,Q5.length=z:=⟨_,rfl⟩;rw[hn5]at HM ⊢;have HN5:=zh hn5;clear hn5;replace HD:=zh HM.out.store;obtain⟨b0,b1,b2,b3'⟩:=HM.out.1.two;have HS:=zh (MKS.out _ HD.out.2.2.2.1);go_simp;clear b0 b1 b2 b3';refine hK.out _ _ HS.out fun _=>?_;clear hK K
    (try simp only[Act.put,zzA,zzB,zzC])
    refine zw39 (by kernel_rfl) ?_ _;have hq5:Q5=pre h lg nn kk:=by rw[HQ5.out,zw17]
    rw[hq5]at HD;clear hq5 HQ5;have HPU:=zh (put_st W0 _ B _ _ _ _ 4 A6 (encT tr).length c6 (encT tr) HTA.out HD.out (by decide) (HB6.out.ext HD.out.2.2.2.1) HT6.out.1 HT6.out.2 (by have:=(Trk.encT_both HMT.out).1;omega) (by omega));go_wp2_with fail;refine(HPU.out).mono ?_;rintro e WB ⟨rfl,v8,hD⟩;have HD:=zh hD;clear hD HPU HSRC hpp hpz HS;obtain⟨P4,hP4⟩:∃z,z=pre h lg nn kk++Chk.chunk 4 (encT tr):=⟨_,rfl⟩;rw[←hP4]at HD;have HP4:=zh hP4;obtain⟨A8,c8',rfl⟩:=HD.out.2.1.shape;have d17:=(MKS.out _ HD.out.2.2.2.1).2.2.1;obtain⟨b0,b1,b2,b3'⟩:=HD.out.two;have hp4z:P4.length≤1100000:=by
      have h1:=chunk_max 4 (xs:=encT tr) (by have:=(Trk.encT_both HMT.out).1;omega);have h2:=(Trk.encT_both HMT.out).1;have:=HB3.out;have:=HXN.out;rw[hP4,zw0];omega
    obtain⟨p4,hp4⟩:∃z,P4.length=z:=⟨_,rfl⟩;rw[hp4]at hp4z b0;have HPL:=zh hp4;obtain⟨mv,hmv⟩:∃z:Int,z=(p4:Int)-(b4:Int):=⟨_,rfl⟩;have hb4z:b4≤900000:=by have:=HXN.out;omega
    have hmz:IntKind.i64.wrap ((p4:Int)-(b4:Int))=mv:=by rw[hmv];exact IntWalk.i64_in _ (by omega)
    have hmz2:(p4:Int)-(b4:Int)=mv:=hmv.symm;have HMV:=zh hmv;clear hP4 hp4 hmv;go_wp2_with fail
    (refine wp_still (by kernel_rfl) (by kernel_rfl) ?_;repeat still_step);refine wpStill_nil ?_;replace HD:=zh (HD.out.ext (zxd (zxr WB)));clear b0 b1 b2 b3' d17;have hne:¬oc=b4:=by have:=HLEN.out;have:=HXN.out;omega
    have hpp:0<(frs kk 0 [] fs).length:=by have:=HZF.out;omega
    have hpz:(frs kk 0 [] fs).length≤900000:=by have:=HZF.out;have:=HIA.out;have:=HXN.out;omega
    have HSRC:Hid (∀W,Ext W0 W→Src Tryz.prog 1 22 (.slice (some ⟨q,b4,none⟩) (iA-b4) (oc-b4)) (frs kk 0 [] fs).length (c8 (frs kk 0 [] fs)) W):=zh (fun W e=>(HCT.out W (zxt HE1.out e)).src b4 (iA-b4) (by omega) (by rw[show iA-b4=zf by have:=HIA.out;omega];exact HFR.out) (oc-b4));go_upto_region 10 with fail;replace HD:=zh (HD.out.ext (zxd (zxr WB.drew)));generalize hwd:WB.drew.drew=WC at HD;have HS:=zh (MKS.out _ HD.out.2.2.2.1);refine zw38 (S:=fun W=>W.cell? ⟨f,0,none⟩=some (.slice (some ⟨q,0,none⟩) on oc)∧W.cell? ⟨f,16,none⟩=some (.int .i64 (b3:Int))∧W.cell? ⟨f,17,none⟩=some (.int .i64 (b4:Int))∧W.cell? ⟨f,19,none⟩=some (.int .i64 (iA:Int))) hmxF (by rw[hwd];exact HS.out) (fun _=>?_);rw[hwd]
    iterate 7
     refine zqU (v:=?_) HS.out rfl ?_ ?_;rotate_left
     · intro w' hSw;obtain⟨s0,s1,s2,s3⟩:=hSw;go_simp;try with_reducible rfl
     (try simp only[Act.put,zzA,zzB,zzC])
    (refine zqK (i:=8) (v:=?_) rfl (Or.inl ⟨by rfl,?_⟩) HS.out ?_);rotate_left
    · (intro w' hSw;obtain⟨s0,s1,s2,s3⟩:=hSw;go_simp;try with_reducible rfl)
    (try simp only[Act.put,zzA,zzB,zzC])
    iterate 3
     refine zqU (v:=?_) HS.out rfl ?_ ?_;rotate_left
     · intro w' hSw;obtain⟨s0,s1,s2,s3⟩:=hSw;go_simp;try with_reducible rfl
     (try simp only[Act.put,zzA,zzB,zzC])
    (refine zqK (i:=12) (v:=?_) rfl (Or.inl ⟨by rfl,?_⟩) HS.out ?_);rotate_left
    · (intro w' hSw;obtain⟨s0,s1,s2,s3⟩:=hSw;go_simp;try with_reducible rfl)
    (try simp only[Act.put,zzA,zzB,zzC])
    iterate 3
     refine zqU (v:=?_) HS.out rfl ?_ ?_;rotate_left
     · intro w' hSw;obtain⟨s0,s1,s2,s3⟩:=hSw;go_simp;try with_reducible rfl
     (try simp only[Act.put,zzA,zzB,zzC])
    (refine zqK (i:=16) (v:=?_) rfl (Or.inl ⟨by rfl,?_⟩) HS.out ?_);rotate_left
    · (intro w' hSw;obtain⟨s0,s1,s2,s3⟩:=hSw;go_simp;try with_reducible rfl)
    (try simp only[Act.put,zzA,zzB,zzC])
    (refine zqU (v:=?_) HS.out rfl ?_ ?_);rotate_left
    · intro w' hSw;obtain⟨s0,s1,s2,s3⟩:=hSw;go_simp;try with_reducible rfl
    (try simp only[Act.put,zzA,zzB,zzC])
    refine zqO (i:=4) (by kernel_rfl) rfl fun K hK=>?_;obtain⟨b0,b1,b2,b3'⟩:=HD.out.two;go_simp;refine hK.out _ _ HS.out fun _=>?_;clear hK K
    (try simp only[Act.put,zzA,zzB,zzC])
    refine zqO (i:=18) (by kernel_rfl) rfl fun K hK=>?_;obtain⟨v3,w3,hrun,hm3⟩:=HD.out.app (HSRC.out _ HD.out.2.2.2.1) (by omega) (by have:=HPL.out;omega);have HRUN:=zh hrun;have HM:=zh hm3;have HS:=zh (MKS.out _ HM.out.2.2.2.1);clear hrun hm3;obtain⟨Q5,hQ5⟩:∃z,z=P4++frs kk 0 [] fs:=⟨_,rfl⟩;rw[←hQ5]at HM;have HQ5:=zh hQ5;clear hQ5;refine wanted_append (by rfl) (.tmp 63) (.tmp 76) 22 22 (by rfl) _ _ (by rfl) (by rfl) HRUN.out ?_;refine hK.out _ _ HS.out fun _=>?_;clear hK K
    (try simp only[Act.put,zzA,zzB,zzC])
    iterate 2
     refine zqU (v:=?_) HS.out rfl ?_ ?_;rotate_left
     · intro w' hSw;obtain⟨s0,s1,s2,s3⟩:=hSw;go_simp;try with_reducible rfl
     (try simp only[Act.put,zzA,zzB,zzC])
    refine zqO (i:=21) (by kernel_rfl) rfl fun K hK=>?_;obtain⟨A5,c5,rfl,_⟩:=HM.out.2.1.shape;obtain⟨n5,hn5⟩:∃z,Q5.length=z:=⟨_,rfl⟩;rw[hn5]at HM ⊢;have HN5:=zh hn5;clear hn5;replace HD:=zh HM.out.store;obtain⟨b0,b1,b2,b3'⟩:=HM.out.1.two;have HS:=zh (MKS.out _ HD.out.2.2.2.1);go_simp;clear b0 b1 b2 b3';refine hK.out _ _ HS.out fun _=>?_;clear hK K
    (try simp only[Act.put,zzA,zzB,zzC])
    refine zw39 (by kernel_rfl) ?_ _;obtain⟨QF,rfl⟩:∃z,z=Q5:=⟨_,rfl⟩;obtain⟨nf,rfl⟩:∃z,z=n5:=⟨_,rfl⟩;have HQF:=zh HQ5.out;have HNF:=zh HN5.out;clear HQ5 HN5 HSRC hpp hpz HS HM HRUN;obtain⟨b0,b1,b2,b3'⟩:=HD.out.two;have hnfz:nf≤2000000:=by have h1:=HNF.out;rw[HQF.out,zw0]at h1;have:=HZF.out;have:=HIA.out;have:=HXN.out;have:=HPL.out;omega
    by_cases hm0:mv=0
    · have hz0:(mv==0)=true:=beq_iff_eq.2 hm0
      obtain⟨o8,ho8⟩:∃z,z=iA+zi:=⟨_,rfl⟩;have ho9:(on:Int)-8=(o8:Int):=by have:=HLEN.out;have:=HXN.out;have:=HIA.out;omega
      have ho10:IntKind.i64.wrap (o8:Int)=(o8:Int):=IntWalk.i64_in _ (by omega);have e6:iA≤o8:=by omega
      have e7:o8≤oc:=by omega
      have hne2:¬oc=iA:=by omega
      have HO8:=zh ho8;clear ho8;have hpp:0<(ixc h lg tro nn kk fs).length:=zw9 (by decide) (Chk.chunk_pos 7 _);have hpz:(ixc h lg tro nn kk fs).length≤900000:=by have:=HZI.out;have:=HLEN.out;have:=HXN.out;omega
      have HSRC:Hid (∀W,Ext W0 W→Src Tryz.prog 1 22 (.slice (some ⟨q,iA,none⟩) (o8-iA) (oc-iA)) (ixc h lg tro nn kk fs).length (c8 (ixc h lg tro nn kk fs)) W):=zh (fun W e=>(HCT.out W (zxt HE1.out e)).src iA (o8-iA) (by have:=HLEN.out;have:=HXN.out;have:=HIA.out;have:=HO8.out;omega) (by rw[show o8-iA=zi by have:=HO8.out;omega];exact HIX.out) (oc-iA));go_upto_region 13 with fail;replace HD:=zh (HD.out.ext (zxd (zxr _)));clear b0 b1 b2 b3';generalize hwd:World.drew _=WC at HD;have HS:=zh (MKS.out _ HD.out.2.2.2.1);refine zw38 (S:=fun W=>W.cell? ⟨f,0,none⟩=some (.slice (some ⟨q,0,none⟩) on oc)∧W.cell? ⟨f,16,none⟩=some (.int .i64 (b3:Int))∧W.cell? ⟨f,17,none⟩=some (.int .i64 (b4:Int))∧W.cell? ⟨f,19,none⟩=some (.int .i64 (iA:Int))) hmxF (by rw[hwd];exact HS.out) (fun _=>?_);rw[hwd]
      iterate 7
       refine zqU (v:=?_) HS.out rfl ?_ ?_;rotate_left
       · intro w' hSw;obtain⟨s0,s1,s2,s3⟩:=hSw;go_simp;try with_reducible rfl
       (try simp only[Act.put,zzA,zzB,zzC])
      (refine zqK (i:=8) (v:=?_) rfl (Or.inl ⟨by rfl,?_⟩) HS.out ?_);rotate_left
      · (intro w' hSw;obtain⟨s0,s1,s2,s3⟩:=hSw;go_simp;try with_reducible rfl)
      (try simp only[Act.put,zzA,zzB,zzC])
      iterate 3
       refine zqU (v:=?_) HS.out rfl ?_ ?_;rotate_left
       · intro w' hSw;obtain⟨s0,s1,s2,s3⟩:=hSw;go_simp;try with_reducible rfl
       (try simp only[Act.put,zzA,zzB,zzC])
      (refine zqK (i:=12) (v:=?_) rfl (Or.inl ⟨by rfl,?_⟩) HS.out ?_);rotate_left
      · (intro w' hSw;obtain⟨s0,s1,s2,s3⟩:=hSw;go_simp;try with_reducible rfl)
      (try simp only[Act.put,zzA,zzB,zzC])
      iterate 3
       refine zqU (v:=?_) HS.out rfl ?_ ?_;rotate_left
       · intro w' hSw;obtain⟨s0,s1,s2,s3⟩:=hSw;go_simp;try with_reducible rfl
       (try simp only[Act.put,zzA,zzB,zzC])
      (refine zqK (i:=16) (v:=?_) rfl (Or.inl ⟨by rfl,?_⟩) HS.out ?_);rotate_left
      · (intro w' hSw;obtain⟨s0,s1,s2,s3⟩:=hSw;go_simp;try with_reducible rfl)
      (try simp only[Act.put,zzA,zzB,zzC])
      iterate 3
       refine zqU (v:=?_) HS.out rfl ?_ ?_;rotate_left
       · intro w' hSw;obtain⟨s0,s1,s2,s3⟩:=hSw;go_simp;try with_reducible rfl
       (try simp only[Act.put,zzA,zzB,zzC])
      refine zqO (i:=4) (by kernel_rfl) rfl fun K hK=>?_;obtain⟨b0,b1,b2,b3'⟩:=HD.out.two;go_simp;refine hK.out _ _ HS.out fun _=>?_;clear hK K
      (try simp only[Act.put,zzA,zzB,zzC])
      refine zqO (i:=20) (by kernel_rfl) rfl fun K hK=>?_;obtain⟨v3,w3,hrun,hm3⟩:=HD.out.app (HSRC.out _ HD.out.2.2.2.1) (by omega) (by have:=HNF.out;omega);have HRUN:=zh hrun;have HM:=zh hm3;have HS:=zh (MKS.out _ HM.out.2.2.2.1);clear hrun hm3;obtain⟨Q5,hQ5⟩:∃z,z=QF++ixc h lg tro nn kk fs:=⟨_,rfl⟩;rw[←hQ5]at HM;have HQ5:=zh hQ5;clear hQ5;refine wanted_append (by rfl) (.tmp 91) (.tmp 106) 22 22 (by rfl) _ _ (by rfl) (by rfl) HRUN.out ?_;refine hK.out _ _ HS.out fun _=>?_;clear hK K
      (try simp only[Act.put,zzA,zzB,zzC])
      iterate 2
       refine zqU (v:=?_) HS.out rfl ?_ ?_;rotate_left
       · intro w' hSw;obtain⟨s0,s1,s2,s3⟩:=hSw;go_simp;try with_reducible rfl
       (try simp only[Act.put,zzA,zzB,zzC])
      refine zqO (i:=23) (by kernel_rfl) rfl fun K hK=>?_;obtain⟨A5,c5,rfl,_⟩:=HM.out.2.1.shape;obtain⟨n5,hn5⟩:∃z,Q5.length=z:=⟨_,rfl⟩;rw[hn5]at HM ⊢;have HN5:=zh hn5;clear hn5;replace HD:=zh HM.out.store;obtain⟨b0,b1,b2,b3'⟩:=HM.out.1.two;have HS:=zh (MKS.out _ HD.out.2.2.2.1);go_simp;clear b0 b1 b2 b3';refine hK.out _ _ HS.out fun _=>?_;clear hK K
      (try simp only[Act.put,zzA,zzB,zzC])
      refine zw39 (by kernel_rfl) ?_ _;have hq5:Q5=P4++frs kk 0 [] fs++ixc h lg tro nn kk fs:=by rw[HQ5.out,HQF.out]
      have hlt:(lead h lg (encT tr) nn kk).length=b4:=by
        have h1:=congrArg List.length (lead_pre h lg (encT tr) nn kk);rw[←HP4.out,HPL.out]at h1;have:=HMV.out;omega
      have hix:ixc h lg (encT tr) nn kk fs=ixc h lg tro nn kk fs:=by unfold ixc;rw[hlt,←HB4.out]
      have hbe:=built_end h lg (encT tr) nn kk fs;rw[hix,lead_pre,←HP4.out,←hq5,←HQF.out,HNF.out]at hbe;have hbl:=hll HMT.out;replace hls:=hls HMT.out;rw[hbe]at hbl hls;have HFN:=zh (finish_st W0 _ B _ _ _ _ nf HTA.out HD.out (small_mem (fun z hz=>mem_small hls z (by simp only[zw16];exact .inl (.inl hz)))) (by simp only[zw0]at hbl;omega) (by rw[←HNF.out];simp only[zw0]at hbl;rw[hq5]at hbl;simp only[zw0]at hbl;rw[HQF.out,zw0];omega));have HBE:=zh hbe;clear hq5 hlt hix hbe hbl hls hll;go_wp2_with fail;refine(HFN.out).mono ?_;rintro e WD ⟨v9,rfl,hO,hE⟩;have HO9:=zh hO;have HE9:=zh (zxt HE1.out hE);clear hO hE;go_wp2_with fail
      go_ret2
      exact wi_ok HE9.out (HO9.out.mono HE1.out.size) HBE.out.symm (by first | rfl | exact HMT.out)
    · have hz0:(mv==0)=false:=zw12.2 hm0
      obtain⟨m,hm⟩:∃z,z=fs.length:=⟨_,rfl⟩;have HPW:=zh (fun(W:World) (e:Ext W0 W)=>hpl.ext (zxt HE1.out e));have d18:=(HFB.out _ (zxt HE1.out HD.out.2.2.2.1)).cell 18;simp only[zzD,zzE,zzF]at d18;rw[←hm]at HPW d18;have hmz1:m≤41:=by omega
      have HM:=zh hm;have HUP:=zh hup;clear hm hpl hup;have hmw:IntKind.i64.wrap mv=mv:=IntWalk.i64_in _ (by have:=HMV.out;omega);go_wp2_with fail;clear d18 b0 b1 b2 b3'
      (try rw[hmw])
      go_loopg [120] m (fun gh iv wx=>WRel W0 B (.slice A5 nf c5) QF kk p4 fs m gh iv wx)
      case atStart=>exact⟨0,_,by omega,rfl,by have:=HD.out;simpa [pls]using this⟩
      case round=>
        obtain⟨i,p,hi,rfl,hx⟩:=hrel;obtain⟨wi,rfl⟩:∃wi:World,wi=wr:=⟨_,rfl⟩;obtain⟨gh,rfl⟩:∃gh:Nat,gh=gk:=⟨_,rfl⟩;have HXI:=zh hx;clear hx HD;have y1:(0:Int)≤(i:Int):=by omega
        by_cases hlt:i<m
        · have y2:(i:Int)<(m:Int):=by omega
          have HIF:Hid (i<fs.length):=zh (by rw[←HM.out];exact hlt);obtain⟨bp,op,hA,hbw,hcell⟩:=(HPW.out wi HXI.out.2.2.2.1).2 (by omega);have c0:=hcell i (by rw[pls_len];exact HIF.out) 0 (by omega);have hg:=pls_get kk fs 0 [] b4 i HIF.out;rw[zw6 (by rw[pls_len];exact HIF.out)]at hg;rw[zw13 hg]at c0;simp only[cN,List.getElem?_cons_zero,Nat.mul_one,Nat.add_zero]at c0;have hle:(frs kk 0 [] (fs.take i)).length≤(frs kk 0 [] fs).length:=by rw[frs_cut kk fs i HIF.out,zw0];omega
          obtain⟨a0,ha0⟩:∃z,z=b4+(frs kk 0 [] (fs.take i)).length:=⟨_,rfl⟩;obtain⟨a1,ha1⟩:∃z,z=p4+(frs kk 0 [] (fs.take i)).length:=⟨_,rfl⟩;rw[←ha0]at c0;have HPS:Hid (pls kk 0 [] p4 (fs.take (i+1))=pls kk 0 [] p4 (fs.take i)++[a1]):=zh (by rw[pls_snoc kk p4 fs i HIF.out,ha1];rfl);have hsum:(a0:Int)+mv=(a1:Int):=by have:=HMV.out;omega
          have ha1z:a1≤3000000:=by have:=HZF.out;have:=HIA.out;have:=HXN.out;omega
          have hwr:IntKind.i64.wrap (a1:Int)=(a1:Int):=IntWalk.i64_in _ (by omega);have hcast:cN a1=[.int .i64 (a1:Int)]:=rfl;have HSR:=zh (src_rec (P:=Tryz.prog) (e':=3) Tryz.underlying60 wi (cN a1) rfl (by intro u hu;simp[cN]at hu;subst hu;rfl) 1);have HXJ:=zh (HXI.out.ext (zxa (zxr wi) (.cells (cN a1).toArray 3)));obtain⟨p',wq,hrun,hbp⟩:=Bd.place (a:=a1) HXJ.out HSR.out (by rw[pls_len,zw2];omega);rw[←HPS.out]at hbp;obtain⟨A9,c9,hp9,_⟩:=hbp.2.2.1.shape;subst hp9;have HBP:=zh hbp;obtain⟨k0,k1,k2,k3⟩:=hbp.1.two;simp only[cN]at HXJ hrun;have HRUN:=zh hrun;obtain⟨b0,b1,b2,b3'⟩:=HXI.out.two;subst hA;clear hcell hg ha0 ha1 hle hrun hbp hcast;go_wp2_with (at_builtin;refine wpList_of_append rfl (.tmp 128) (.tmp 132) 60 60 rfl _ _ rfl rfl HRUN.out ?_)
          go_roundg (gh-1)
          case measure=>omega
          case rel=>exact⟨i+1,_,by omega,by go_num,HBP.out.store⟩
        · obtain rfl:gh=0:=by omega
          obtain rfl:i=m:=by omega
          have y2:¬(i:Int)<(i:Int):=by omega
          have HXE:Hid (Bd W0 wi B (.slice A5 nf c5) p QF (pls kk 0 [] p4 fs)):=zh (by have:=HXI.out;rwa [List.take_of_length_le (by rw[HM.out];exact zw8 _)]at this);have HU2:=zh (HUP.out p4 (by have:=HZF.out;have:=HIA.out;have:=HXN.out;omega));have hlt':(lead h lg (encT tr) nn kk).length=p4:=by rw[lead_pre,←HP4.out,HPL.out]
          have hbe:=built_end h lg (encT tr) nn kk fs;unfold ixc at hbe;rw[hlt',lead_pre,←HP4.out,←HQF.out,HNF.out]at hbe;have HIL:Hid ((idx 0 (pls kk 0 [] p4 fs)).length≤410):=zh (by
            have h1:=idx_len (pls kk 0 [] p4 fs) 0 (fun a ha=>by
              obtain⟨j,hj,rfl⟩:=List.getElem_of_mem ha;have hj':=hj;rw[pls_len]at hj';have e:=pls_get kk fs 0 [] p4 j hj';rw[zw6 hj]at e;rw[zw13 e];have hle:(frs kk 0 [] (fs.take j)).length≤(frs kk 0 [] fs).length:=by rw[frs_cut kk fs j hj',zw0];omega
              have:=HZF.out;have:=HIA.out;have:=HXN.out;omega)
            rw[pls_len]at h1;have:=HM.out;omega)
          have HPN:Hid ((pls kk 0 [] p4 fs).length=i):=zh (by rw[pls_len,HM.out]);have hbl:=hll HMT.out;replace hls:=hls HMT.out;rw[hbe]at hbl hls;have HBE:=zh hbe;generalize pls kk 0 [] p4 fs=Pn at*;have HBL:=zh hbl;have HLS:=zh hls;clear HXI hlt' hbe hbl hls hll;obtain⟨Aq,cq,rfl,_,_,_,_⟩:=HXE.out.2.2.1.shape;have HPR:Hid (RowR wi Aq Pn.length 1 cN Pn):=zh (OwnR.row cN_len HXE.out.2.2.1);have HIXS:=zh (index_st Aq Pn.length cq Pn wi HPR.out HU2.out (by rw[HPN.out];omega));rw[HPN.out]at HXE HIXS;obtain⟨b0,b1,b2,b3'⟩:=HXE.out.two;go_wp2_with fail;refine(HIXS.out).mono ?_;rintro e w20 ⟨v20,rfl,hO20,hE20⟩;clear b0 b1 b2 b3';have HXF:=zh (HXE.out.ext hE20);obtain⟨A20,c20,rfl,z1,z2,_,_⟩:=hO20.shape;have HB20:=zh (hO20.bs (small_mem (idx_small Pn 0))).2;obtain⟨l20,hl20⟩:∃q,(idx 0 Pn).length=q:=⟨_,rfl⟩;rw[hl20]at HB20 z1 ⊢;have HPT:=zh (put_st W0 w20 B _ _ _ _ 7 A20 l20 c20 (idx 0 Pn) HTA.out HXF.out (by omega) HB20.out z1 z2 (by have:=HIL.out;omega) (by have:=HNF.out;omega));clear z1 z2 hO20 hE20;replace hl20:=zh hl20;go_wp2_with fail;refine(HPT.out).mono ?_;rintro e w21 ⟨rfl,v21,hx21⟩;have HX21:=zh hx21;have HFN:=zh (finish_st W0 w21 B v21 _ _ _ nf HTA.out HX21.out (small_mem (fun z hz=>mem_small HLS.out z (by simp only[zw16]at hz ⊢;exact .inl (.inl hz)))) (by have:=HBL.out;simp only[zw0]at this ⊢;omega) (by have:=HBL.out;have:=HNF.out;simp only[zw0]at*;omega));clear hx21 HPT HXE HXF HIXS;go_wp2_with fail;refine(HFN.out).mono ?_;rintro e WD ⟨v9,rfl,hO,hE⟩;have HO9:=zh hO;have HE9:=zh (zxt HE1.out hE)
          clear hO hE;go_wp2_with fail
          go_ret2
          exact wi_ok HE9.out (HO9.out.mono HE1.out.size) HBE.out.symm (by first | rfl | exact HMT.out)
end Go.Proofs.YtbopblbhjcemaaaGreatDoor.Fil
