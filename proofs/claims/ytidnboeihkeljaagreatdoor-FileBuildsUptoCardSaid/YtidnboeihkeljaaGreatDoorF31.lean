
import Derived.Test.YtidnboeihkeljaaGreatDoorFiC
import Derived.Test.YtidnboeihkeljaaGreatDoorTrkV
import Derived.Test.YtidnboeihkeljaaGreatDoorRows
set_option maxHeartbeats 16000000
set_option maxRecDepth 100000
set_option linter.all false
namespace Go.Proofs.YtidnboeihkeljaaGreatDoor.Fil
open Go.ChangeShapes Go.WideShapes Go.ChangeAt Go.RowKit
open Wire
open Rec
open Trk (Sl Tv Tk mayT encT RfV Room)
open Log (Hv Ev cH cV mayH putL encH)
theorem RfP.ext {w w':World} {p:Pv} {x:Hv} {evs:List Ev} {tr:Tk} {ts:List ByteArray} (h:RfP w p x evs tr ts) (e:Ext w w'):RfP w' p x evs tr ts:=⟨h.1.ext e,h.2.1.ext e,h.2.2.1.ext e,h.2.2.2.ext e⟩
structure InP (p:Pv) (x:Hv) (evs:List Ev) (N KI:Int) (tr:Tk) (ts:List ByteArray):Prop where
  room:Room tr
  evl:evs.length≤2000000
  frl:ts.length≤2000000
  frz:∀s∈ts,s.size≤100000000000
  sfit:∀u∈x.starts,u.fits
  efit:∀e∈evs,e.fits
  seed:x.seed<4294967296
  whi: -9223372036854775808≤x.w∧x.w≤9223372036854775807∧ -9223372036854775808≤x.h∧x.h≤9223372036854775807
  nn: -9223372036854775808≤N∧N≤9223372036854775807
  kk: -9223372036854775808≤KI∧KI≤9223372036854775807
  tiles:x.tiles.size≤9223372036854775807
  starts:x.starts.length≤9223372036854775807
  cl:evs.length≤p.cl∧p.cl≤9223372036854775807
theorem InP.low {p:Pv} {x:Hv} {evs:List Ev} {N KI:Int} {tr:Tk} {ts:List ByteArray} (h:InP p x evs N KI tr ts) (l:Lit x evs tr ts):Low ⟨x,evs,N,KI,tr,ts.map natsOf⟩:=
  ⟨l.1,l.2.1,h.sfit,h.seed,h.whi,l.2.2.1,h.efit,h.nn,h.kk,by simpa using l.2.2.2.1,fun f hf=>by
    obtain⟨s,hs,rfl⟩:=List.mem_map.1 hf;rw[natsOf_len];exact l.2.2.2.2.2 s hs,fun f hf=>by
    obtain⟨s,hs,rfl⟩:=List.mem_map.1 hf;exact mem_small (natsOf_small s)⟩
theorem both_ok {x:Hv} {evs:List Ev} {N KI:Int} {tr:Tk} {ts:List ByteArray} (hm:mayR ⟨x,evs,N,KI,tr,ts.map natsOf⟩):∃(n k:Nat) (L:List Nat),N=n∧KI=k∧putL n evs=some L∧mayH x∧mayT n tr=true∧1≤k∧k≤256∧n≤4096∧ts.length=n+1:=by
  obtain⟨a1,a2,a3,a4,a5,a6,a7⟩:=hm;have a8:=(Trk.mayT_parts a3).1;simp only at a1 a2 a3 a4 a5 a7 a8;rw[zw4]at a7;obtain⟨L,hL⟩:=Option.isSome_iff_exists.1 a2;obtain⟨n,rfl⟩:∃n:Nat,N=n:=⟨N.toNat,by omega⟩;obtain⟨k,rfl⟩:∃k:Nat,KI=k:=⟨KI.toNat,by omega⟩;exact⟨n,k,L,rfl,rfl,hL,a1,a3,by omega,by omega,by omega,by omega⟩
theorem built_small {x:Hv} {evs:List Ev} {n k:Nat} {tr:Tk} {fs:List (List Nat)} {L:List Nat} (hl:Low ⟨x,evs,n,k,tr,fs⟩) (hm:mayH x) (hL:putL n evs=some L) (ht:mayT n tr=true) (hk:k≤256) (hn:n≤4096):∀j,(built (encH x.hd) L (encT tr) n k fs).getD j 0<256:=by
  obtain⟨_,_,_,a1,a2⟩:=lead_ok hl hm hL ht hk hn;have a3:=frs_small k fs 0 [] (fun c h=>by cases h) hl.small;have a4:=frs_len k fs 0 [] hl.frame;have a5:fs.length≤40:=hl.frames;generalize encH x.hd=X1 at*;generalize encT tr=X3 at*;unfold built foot;refine small_mem (fun c hc=>?_);simp only[zw16]at hc;rcases hc with (((hc | hc) | hc) | hc) | hc
  · exact mem_small a2 c hc
  · exact a3 c hc
  · exact Chk.chunk_small (by omega) (small_mem (idx_small _ 0)) c hc
  · exact fx_mem (by rw[zw0];omega) c hc
  · exact fx_mem (Chk.crc_lt _) c hc
theorem fileBuilds (p : Pv) (x : Hv) (evs : List Ev) (N KI : Int) (tr : Tk) (ts : List ByteArray) (w : World) (hT : Crc.Tab w) (h : RfP w p x evs tr ts) (hi : InP p x evs N KI tr ts) :
    Calls Tryz.prog 3 #[.agg (cPa x (.slice p.A x.starts.length p.c) (.slice p.Al evs.length p.cl) N KI p.t (.slice p.Af ts.length p.cf))] w fun e w'=>e= .returned (.bool true)∧Ext w w':=by
  have HE0:=zh (zxa (zxr w) (.cells (cPa x (.slice p.A x.starts.length p.c) (.slice p.Al evs.length p.cl) N KI p.t (.slice p.Af ts.length p.cf)) 34));have HH0:=zh (Blk.new w 34 (cPa x (.slice p.A x.starts.length p.c) (.slice p.Al evs.length p.cl) N KI p.t (.slice p.Af ts.length p.cf)));have HOF:=zh (fun(W:World) (e:Ext w W)=>of_parts p x evs N KI tr ts W (h.ext e) hi.room hi.evl hi.frl hi.frz);have HBG:=zh (fun(W:World) (e:Ext w W)=>big_st p x evs N KI tr ts W (h.ext e) hi.tiles hi.starts (by have:=hi.evl;omega) (by have:=hi.frl;omega) (fun s hs=>by have:=hi.frz s hs;omega));have HWK:=zh (fun(W:World) (e:Ext w W)=>wakes_st W (hT.ext e));have HMY:=zh (fun(W:World) (e:Ext w W) (l:Lit x evs tr ts)=>rmay20 p x evs N KI tr ts W (h.ext e) l hi.sfit hi.efit hi.whi hi.nn hi.cl);have HLW:=zh (fun(l:Lit x evs tr ts)=>hi.low l);have HBD:Hid (∀p' W,Ext w W→PaV W p' ⟨x,evs,N,KI,tr,ts.map natsOf⟩→Lit x evs tr ts→Calls Tryz.prog 9 #[.agg (p'.cells ⟨x,evs,N,KI,tr,ts.map natsOf⟩)] W (BuPost W ⟨x,evs,N,KI,tr,ts.map natsOf⟩)):=zh (fun p' W e hp l=>build_st p' _ W (hT.ext e) hp (hi.low l));have HRB:Hid (∀(n k:Nat) L,N=n→KI=k→Lit x evs tr ts→putL n evs=some L→mayH x→mayT n tr=true→1≤k→k≤256→n≤4096→ts.length=n+1→∀W,Ext w W→Calls Tryz.prog 11 #[.agg (cPa x (.slice p.A x.starts.length p.c) (.slice p.Al evs.length p.cl) n k p.t (.slice p.Af ts.length p.cf))] W fun e w'=>e= .returned (.string (strOf (built (encH x.hd) L (encT tr) n k (ts.map natsOf))))∧Ext W w'):=zh (fun n k L e1 e2 l b1 b2 b3 b4 b5 b6 b7 W e=>by
    subst e1 e2;exact rbuild20 p x evs n k tr ts L W (h.ext e) (hi.low l) b2 b1 b3 b4 b5 b6 b7 hi.cl)
  clear h hi hT;obtain⟨fs,hfs⟩:∃q,q=ts.map natsOf:=⟨_,rfl⟩;have HMB:Hid (mayR ⟨x,evs,N,KI,tr,fs⟩→∃(n k:Nat) (L:List Nat),N=n∧KI=k∧putL n evs=some L∧mayH x∧mayT n tr=true∧1≤k∧k≤256∧n≤4096∧ts.length=n+1):=zh (by rw[hfs];exact both_ok);have HFL:Hid (fs.length=ts.length):=zh (by rw[hfs,zw4]);unfold O2Post at HOF;rw[←hfs]at HOF HMY HLW HBD HRB;clear hfs;obtain⟨A,c,Al,cl,⟨⟨A0,n0,c0⟩,⟨A1,n1,c1⟩,⟨A2,n2,c2⟩,⟨A3,n3,c3⟩,⟨Am,nm,cm⟩⟩,Af,cf⟩:=p;obtain⟨xw,xh,xp,xs,xt,us⟩:=x;simp only[cPa]at HE0 HH0 HOF HBG HMY HRB ⊢;obtain⟨q1,hq1⟩:∃q,us.length=q:=⟨_,rfl⟩;obtain⟨q2,hq2⟩:∃q,evs.length=q:=⟨_,rfl⟩;obtain⟨m,hm⟩:∃q,ts.length=q:=⟨_,rfl⟩;rw[hq1,hq2,hm]at HE0 HH0 HOF HBG HMY HRB ⊢;rw[hm]at HMB HFL;have HQ1:=zh hq1;have HQ2:=zh hq2;clear hq1 hq2 hm;go_enter Tryz.func3,Tryz.ntmps3;go_upto_region 1 with fail;obtain⟨w0,hw0⟩:∃q,q=w.alloc (.cells #[.int .i64 xw,.int .i64 xh,.int .i64 xp,.int .u32 (xs:Int),.string xt,.slice A q1 c,.slice Al q2 cl,.int .i64 N,.int .i64 KI,.slice A0 n0 c0,.slice A1 n1 c1,.slice A2 n2 c2,.slice A3 n3 c3,.slice Am nm cm,.slice Af m cf] 34):=⟨_,rfl⟩;rw[←hw0]at HE0 HH0 ⊢;clear hw0;obtain⟨hb,hhb⟩:∃q,q=w.heap.size:=⟨_,rfl⟩;rw[←hhb]at HH0 ⊢;clear hhb;have hh:=fun i=>HH0.out.cell i;go_wp2_with fail;refine(HOF.out _ HE0.out).mono ?_;rintro e w1 ⟨hE,⟨B,d,Bl,dl,⟨⟨B0,m0,d0⟩,⟨B1,m1,d1⟩,⟨B2,m2,d2⟩,⟨B3,m3,d3⟩,⟨Bm,mm,dm⟩⟩,Bf,df⟩,b,rfl,hpa,_⟩;have HE1:=zh (zxt HE0.out hE);have HH1:=zh (HH0.out.ext hE);have HPA:=zh hpa;have hcl:Pv.cells ⟨B,d,Bl,dl,⟨⟨B0,m0,d0⟩,⟨B1,m1,d1⟩,⟨B2,m2,d2⟩,⟨B3,m3,d3⟩,⟨Bm,mm,dm⟩⟩,Bf,df⟩ ⟨⟨xw,xh,xp,xs,xt,us⟩,evs,N,KI,tr,fs⟩= #[.int .i64 xw,.int .i64 xh,.int .i64 xp,.int .u32 (xs:Int),.string xt,.slice B q1 d,.slice Bl q2 dl,.int .i64 N,.int .i64 KI,.slice B0 m0 d0,.slice B1 m1 d1,.slice B2 m2 d2,.slice B3 m3 d3,.slice Bm mm dm,.slice Bf m df]:=by
    simp only[Pv.cells,cPa,HQ1.out,HQ2.out,HFL.out]
  have HCL:=zh hcl;rw[hcl];clear hE hpa hh hcl HOF;have HE2:=zh (zxa HE1.out (.cells #[.int .i64 xw,.int .i64 xh,.int .i64 xp,.int .u32 (xs:Int),.string xt,.slice B q1 d,.slice Bl q2 dl,.int .i64 N,.int .i64 KI,.slice B0 m0 d0,.slice B1 m1 d1,.slice B2 m2 d2,.slice B3 m3 d3,.slice Bm mm dm,.slice Bf m df] 43));have HX2:=zh (Blk.new w1 43 #[.int .i64 xw,.int .i64 xh,.int .i64 xp,.int .u32 (xs:Int),.string xt,.slice B q1 d,.slice Bl q2 dl,.int .i64 N,.int .i64 KI,.slice B0 m0 d0,.slice B1 m1 d1,.slice B2 m2 d2,.slice B3 m3 d3,.slice Bm mm dm,.slice Bf m df]);have HH2:=zh (HH1.out.alloc (.cells #[.int .i64 xw,.int .i64 xh,.int .i64 xp,.int .u32 (xs:Int),.string xt,.slice B q1 d,.slice Bl q2 dl,.int .i64 N,.int .i64 KI,.slice B0 m0 d0,.slice B1 m1 d1,.slice B2 m2 d2,.slice B3 m3 d3,.slice Bm mm dm,.slice Bf m df] 43));have HP2:Hid (b=true→PaV (w1.alloc (.cells #[.int .i64 xw,.int .i64 xh,.int .i64 xp,.int .u32 (xs:Int),.string xt,.slice B q1 d,.slice Bl q2 dl,.int .i64 N,.int .i64 KI,.slice B0 m0 d0,.slice B1 m1 d1,.slice B2 m2 d2,.slice B3 m3 d3,.slice Bm mm dm,.slice Bf m df] 43)) ⟨B,d,Bl,dl,⟨⟨B0,m0,d0⟩,⟨B1,m1,d1⟩,⟨B2,m2,d2⟩,⟨B3,m3,d3⟩,⟨Bm,mm,dm⟩⟩,Bf,df⟩ ⟨⟨xw,xh,xp,xs,xt,us⟩,evs,N,KI,tr,fs⟩):=zh (fun h=>(HPA.out h).1.ext (zxa (zxr w1) _));go_upto_region 2 with fail;obtain⟨w2,hw2⟩:∃q,q=w1.alloc (.cells #[.int .i64 xw,.int .i64 xh,.int .i64 xp,.int .u32 (xs:Int),.string xt,.slice B q1 d,.slice Bl q2 dl,.int .i64 N,.int .i64 KI,.slice B0 m0 d0,.slice B1 m1 d1,.slice B2 m2 d2,.slice B3 m3 d3,.slice Bm mm dm,.slice Bf m df] 43):=⟨_,rfl⟩
  rw[←hw2]at HE2 HX2 HH2 HP2 ⊢;obtain⟨xb,hxb⟩:∃q,q=w1.heap.size:=⟨_,rfl⟩;rw[←hxb]at HX2 ⊢;clear hw2 hxb HE1 HH1 HPA
  cases b with
  | false=>
    go_wp2_with fail;refine(HWK.out _ HE2.out).mono ?_;rintro e w3 ⟨rfl,hE⟩;have HE3:=zh (zxt HE2.out hE);clear hE;go_wp2_with fail;go_ret;exact⟨rfl,HE3.out⟩
  | true=>
  have hh:=fun i=>HH2.out.cell i;go_wp2_with fail;refine(HBG.out _ HE2.out).mono ?_;rintro e w3 ⟨g,rfl,hE,hlit⟩;have HE3:=zh (zxt HE2.out hE);have HLT:=zh hlit;have HH3:=zh (HH2.out.ext hE);have HX3:=zh (HX2.out.ext hE);have HP3:=zh ((HP2.out (by first | rfl | trivial)).ext hE);clear hE hlit hh HH2 HX2 HP2 HBG
  cases g with
  | true=>
    go_wp2_with fail;refine(HWK.out _ HE3.out).mono ?_;rintro e w4 ⟨rfl,hE⟩;have HE4:=zh (zxt HE3.out hE);clear hE;go_wp2_with fail;go_ret;exact⟨rfl,HE4.out⟩
  | false=>
  replace HLT:=zh (HLT.out (by first | rfl | trivial));have HB4:=zh (HBD.out _ _ HE3.out HP3.out HLT.out);rw[HCL.out]at HB4;have hh:=fun i=>HX3.out.cell i;go_wp2_with fail;refine(HB4.out).mono ?_;rintro e w4 ⟨hE,hok,hno⟩;have HE4:=zh (zxt HE3.out hE);have HH4:=zh (HH3.out.ext hE);clear hE hh HB4 HBD HX3 HP3 HH3;by_cases hmay:mayR ⟨⟨xw,xh,xp,xs,xt,us⟩,evs,N,KI,tr,fs⟩
  · obtain⟨n,k,L,rfl,rfl,e3,e4,e5,e6,e7,e8,e9⟩:=HMB.out hmay
    obtain⟨v,rfl,hO⟩:=hok hmay L e3;have HR:=zh (HRB.out n k L rfl rfl HLT.out e3 e4 e5 e6 e7 e8 e9);have HM:=zh (HMY.out);rw[zw15 hmay]at HM;have hsm:∀j,(built (encH (Log.Hv.hd ⟨xw,xh,xp,xs,xt,us⟩)) L (encT tr) n k fs).getD j 0<256:=built_small (HLW.out HLT.out) e4 e3 e5 e7 e8;have hO':OwnB w3.heap.size w4 v (built (encH (Log.Hv.hd ⟨xw,xh,xp,xs,xt,us⟩)) L (encT tr) n k fs):=hO;obtain⟨Z,hZ⟩:∃q,q=built (encH (Log.Hv.hd ⟨xw,xh,xp,xs,xt,us⟩)) L (encT tr) n k fs:=⟨_,rfl⟩;rw[←hZ]at HR hsm hO';obtain⟨Az,cz,rfl,_,_,_,_⟩:=hO'.shape;have HBZ:=zh ((hO'.bs hsm).2);have HCV:Hid (∀W,Bs W Az Z.length Z→(convert 48 9 (.slice Az Z.length cz)).run Tryz.prog W= .ok (.string (strOf Z)) W):=zh (fun W h=>Com.conv8 h cz);obtain⟨ZZ,hZZ⟩:∃q,q=strOf Z:=⟨_,rfl⟩;rw[←hZZ]at HR HCV;obtain⟨lz,hlz⟩:∃q,Z.length=q:=⟨_,rfl⟩;rw[hlz]at HBZ HCV ⊢;clear hok hno hO hO' hsm hmay e3 e4 e5 e6 e7 e8 e9 hZ hZZ hlz HRB HMB HLW HMY;have hh:=fun i=>HH4.out.cell i;go_wp2_with fail;refine(HM.out _ HE4.out HLT.out).mono ?_;rintro e w5 ⟨rfl,hE⟩;have HE5:=zh (zxt HE4.out hE);have HH5:=zh (HH4.out.ext hE);have HBZ5:=zh (HBZ.out.ext hE);clear hE hh HM HH4 HBZ;go_upto_region 7 with fail;have MKS:=zh (fun(W:World) (e:Ext w5 W)=>(⟨⟨kc e (HH5.out.cell 0),kc e (HH5.out.cell 1),kc e (HH5.out.cell 2),kc e (HH5.out.cell 3),kc e (HH5.out.cell 4),kc e (HH5.out.cell 5),kc e (HH5.out.cell 6),kc e (HH5.out.cell 7),kc e (HH5.out.cell 8),kc e (HH5.out.cell 9),kc e (HH5.out.cell 10),kc e (HH5.out.cell 11),kc e (HH5.out.cell 12),kc e (HH5.out.cell 13),kc e (HH5.out.cell 14)⟩,HBZ5.out.ext e⟩:(W.cell? ⟨hb,0,none⟩=some (.int .i64 xw)∧W.cell? ⟨hb,1,none⟩=some (.int .i64 xh)∧W.cell? ⟨hb,2,none⟩=some (.int .i64 xp)∧W.cell? ⟨hb,3,none⟩=some (.int .u32 (xs:Int))∧W.cell? ⟨hb,4,none⟩=some (.string xt)∧W.cell? ⟨hb,5,none⟩=some (.slice A q1 c)∧W.cell? ⟨hb,6,none⟩=some (.slice Al q2 cl)∧W.cell? ⟨hb,7,none⟩=some (.int .i64 (n:Int))∧W.cell? ⟨hb,8,none⟩=some (.int .i64 (k:Int))∧W.cell? ⟨hb,9,none⟩=some (.slice A0 n0 c0)∧W.cell? ⟨hb,10,none⟩=some (.slice A1 n1 c1)∧W.cell? ⟨hb,11,none⟩=some (.slice A2 n2 c2)∧W.cell? ⟨hb,12,none⟩=some (.slice A3 n3 c3)∧W.cell? ⟨hb,13,none⟩=some (.slice Am nm cm)∧W.cell? ⟨hb,14,none⟩=some (.slice Af m cf))∧Bs W Az lz Z))
    have HX:=zh (zxd (zxr w5));generalize hwd:w5.drew=WA at HX;have HS:=zh (MKS.out _ HX.out);refine zw38 (S:=fun W=>(W.cell? ⟨hb,0,none⟩=some (.int .i64 xw)∧W.cell? ⟨hb,1,none⟩=some (.int .i64 xh)∧W.cell? ⟨hb,2,none⟩=some (.int .i64 xp)∧W.cell? ⟨hb,3,none⟩=some (.int .u32 (xs:Int))∧W.cell? ⟨hb,4,none⟩=some (.string xt)∧W.cell? ⟨hb,5,none⟩=some (.slice A q1 c)∧W.cell? ⟨hb,6,none⟩=some (.slice Al q2 cl)∧W.cell? ⟨hb,7,none⟩=some (.int .i64 (n:Int))∧W.cell? ⟨hb,8,none⟩=some (.int .i64 (k:Int))∧W.cell? ⟨hb,9,none⟩=some (.slice A0 n0 c0)∧W.cell? ⟨hb,10,none⟩=some (.slice A1 n1 c1)∧W.cell? ⟨hb,11,none⟩=some (.slice A2 n2 c2)∧W.cell? ⟨hb,12,none⟩=some (.slice A3 n3 c3)∧W.cell? ⟨hb,13,none⟩=some (.slice Am nm cm)∧W.cell? ⟨hb,14,none⟩=some (.slice Af m cf))∧Bs W Az lz Z) hmxF (by rw[hwd];exact HS.out) (fun _=>?_);rw[hwd];clear hwd
    iterate 4
     refine zqT (v:=?_) HS.out rfl ?_ ?_;rotate_left
     · intro w' hSw;obtain⟨⟨s0,s1,s2,s3,s4,s5,s6,s7,s8,s9,s10,s11,s12,s13,s14⟩,hg⟩:=hSw;go_simp;try rfl
     (try simp only[Act.put,zzA,zzB,zzC])
    (refine zqK (i:=4) (v:= .string ZZ) rfl (Or.inl ⟨by rfl,?_⟩) HS.out ?_)
    · (intro w' hSw;obtain⟨⟨s0,s1,s2,s3,s4,s5,s6,s7,s8,s9,s10,s11,s12,s13,s14⟩,hg⟩:=hSw;have hcv:=HCV.out w' hg;go_simp;try rfl)
    (try simp only[Act.put,zzA,zzB,zzC])
    (refine zqT (v:=?_) HS.out rfl ?_ ?_);rotate_left
    · intro w' hSw;obtain⟨⟨s0,s1,s2,s3,s4,s5,s6,s7,s8,s9,s10,s11,s12,s13,s14⟩,hg⟩:=hSw;go_simp;try rfl
    (try simp only[Act.put,zzA,zzB,zzC])
    refine zqO (i:=6) (by kernel_rfl) rfl fun K hK=>?_;go_simp;refine(HR.out _ (zxt HE5.out HX.out)).mono ?_;rintro e WA ⟨rfl,hE⟩;replace HX:=zh (zxt HX.out hE);have HS:=zh (MKS.out _ HX.out);clear hE
    (try go_wp2_with fail)
    refine hK.out _ _ HS.out fun _=>?_;clear hK K
    (try simp only[Act.put,zzA,zzB,zzC])
    iterate 3
     refine zqT (v:=?_) HS.out rfl ?_ ?_;rotate_left
     · intro w' hSw;obtain⟨⟨s0,s1,s2,s3,s4,s5,s6,s7,s8,s9,s10,s11,s12,s13,s14⟩,hg⟩:=hSw;go_simp;try rfl
     (try simp only[Act.put,zzA,zzB,zzC])
    refine zqO (i:=10) (by kernel_rfl) rfl fun K hK=>?_;go_simp;refine(HWK.out _ (zxt HE5.out HX.out)).mono ?_;rintro e WA ⟨rfl,hE⟩;replace HX:=zh (zxt HX.out hE);have HS:=zh (MKS.out _ HX.out);clear hE
    (try go_wp2_with fail)
    refine hK.out _ _ HS.out fun _=>?_;clear hK K
    (try simp only[Act.put,zzA,zzB,zzC])
    iterate 2
     refine zqT (v:=?_) HS.out rfl ?_ ?_;rotate_left
     · intro w' hSw;obtain⟨⟨s0,s1,s2,s3,s4,s5,s6,s7,s8,s9,s10,s11,s12,s13,s14⟩,hg⟩:=hSw;go_simp;try rfl
     (try simp only[Act.put,zzA,zzB,zzC])
    refine zw39 (by kernel_rfl) ?_ _;go_wp2_with fail;go_ret;exact⟨rfl,zxt HE5.out HX.out⟩
  · obtain rfl:=hno hmay
    have HM:=zh (HMY.out);rw[zw14 hmay]at HM;clear hok hno hmay HRB HMB HLW HMY;have hh:=fun i=>HH4.out.cell i;go_wp2_with fail;refine(HM.out _ HE4.out HLT.out).mono ?_;rintro e w5 ⟨rfl,hE⟩;have HE5:=zh (zxt HE4.out hE);clear hE hh HM HH4;go_wp2_with fail;refine(HWK.out _ HE5.out).mono ?_;rintro e w6 ⟨rfl,hE⟩;have HE6:=zh (zxt HE5.out hE);clear hE;go_wp2_with fail;go_ret;exact⟨rfl,HE6.out⟩
open Go.ChangeShapes Go.WideShapes Go.ChangeAt Go.RowKit Go.Deep
open Log (Hv Ev cH cV HdrIn)
theorem blk_one {H:Type} (d:DataW H):1≤Rows.uptoBulk d:=by
 cases d with
 | lit l=>cases l<;>simp[Rows.uptoBulk]
 | nil=>simp[Rows.uptoBulk]
 | ptr d=>simp[Rows.uptoBulk]
 | slice elems spare=>simp[Rows.uptoBulk]
 | agg parts=>simp[Rows.uptoBulk]
 | iface t d=>simp[Rows.uptoBulk]
 | map entries=>simp[Rows.uptoBulk]
 | held h=>simp[Rows.uptoBulk]
theorem blk_part {H:Type} {d:DataW H}:∀{l:List (DataW H)},d∈l→Rows.uptoBulk d≤Rows.uptoBulkAll l
 | x::r,h=>by
  simp only[Rows.uptoBulkAll];rcases zw30.1 h with e | e
  ·subst e;omega
  ·have:=blk_part e;omega
theorem blk_len {H:Type}:∀l:List (DataW H),l.length≤Rows.uptoBulkAll l
 | []=>by simp[Rows.uptoBulkAll]
 | x::r=>by have:=blk_one x;have:=blk_len r;simp only[Rows.uptoBulkAll,zw3];omega
theorem cellsPt:Tryz.prog.cellsOf 34=15:=by kernel_rfl
theorem cellsStr:Tryz.prog.cellsOf 9=1:=by kernel_rfl
theorem ls6 {α:Type}:∀{l:List α},l.length=6→∃a b c d e f,l=[a,b,c,d,e,f]
 | [a,b,c,d,e,f],_=>⟨a,b,c,d,e,f,rfl⟩
theorem ls15 {α:Type}:∀{l:List α},l.length=15→∃a b c d e f g h i j k m n o p,l=[a,b,c,d,e,f,g,h,i,j,k,m,n,o,p]
 | [a,b,c,d,e,f,g,h,i,j,k,m,n,o,p],_=>⟨a,b,c,d,e,f,g,h,i,j,k,m,n,o,p,rfl⟩
section
variable {H : Type} {enc : TypeId × Value → H} {w : World} {base : Nat} {spare : Nat → Bool} {held : Bool}
theorem recs_ofB {P:Program} {fuel:Nat} {v:Value} {x:DataW H × List MemPlace} {t e:TypeId} {k M:Nat} {α:Type} {f:α→List Value} {good:α→Prop}
  (hu:P.underlying t=some (.slice e)) (hk:P.cellsOf e=k) (hk0:0<k) (hf:∀y,(f y).length=k) (hel:∀fuel cs x,DataW.trod enc P w base spare held fuel e cs=some x→cs.length=k→Rows.uptoBulk x.1≤M→∃y,cs=f y∧good y)
  (h:DataW.trod enc P w base spare held fuel t [v]=some x) (hb:Rows.uptoBulk x.1≤M):
  ∃(a:Option Addr) (len cap:Nat) (ls:List α),v= .slice a len cap∧RowR w a len k f ls∧(∀y∈ls,good y)∧cap≤maxLen∧len≤cap∧len≤M:=by
 rcases open_slice hu h with ⟨hcs,_⟩ | ⟨ad,len,cap,m,n,D,Pl,hcs,_,hl,hm,hmm,hx,hi⟩
 ·obtain rfl:=(List.cons.inj hcs).1
  exact⟨none,0,0,[],rfl,RowR.nil _ _ _ _,by simp,by unfold maxLen;omega,zw8 _,by omega⟩
 ·obtain rfl:=(List.cons.inj hcs).1
  have hlm:len≤m:=by rw[hmm];split<;>omega
  subst hx;simp only[Rows.uptoBulk]at hb;have hlen:=blk_len ((List.range len).map D);rw[zw4,zw37]at hlen;rw[hk]at hi;have key:∀i,i<len→∃y:α,good y∧∀j (hj:j<k),w.cell? ((ad.add (i*k)).add j)=(f y)[j]? :=by
   intro i hil;obtain⟨cs',hc,ht'⟩:=hi i (by omega);obtain⟨_,hcl,hat⟩:=World.cells?_some hc;have hpt:=blk_part (List.mem_map.2 ⟨i,List.mem_range.2 hil,rfl⟩:D i∈(List.range len).map D);obtain⟨y,hy,hg⟩:=hel _ _ _ ht' hcl (by show Rows.uptoBulk (D i)≤M;omega);subst hy;refine⟨y,hg,fun j hj=>?_⟩;rw[hat j hj,zw6 (by rw[hf];exact hj)]
  obtain⟨b,o,spot⟩:=ad
  let g:Fin len→α:=fun i=>Classical.choose (key i.1 i.2)
  have hg:∀i:Fin len,good (g i)∧∀j (hj:j<k),w.cell? (((⟨b,o,spot⟩:Addr).add (i.1*k)).add j)=(f (g i))[j]? :=fun i=>Classical.choose_spec (key i.1 i.2);have hspot:0<len→spot=none:=fun h0=>by
   have hc00:=(hg ⟨0,h0⟩).2 0 hk0;rw[zw6 (by rw[hf];exact hk0)]at hc00;have:=hc00
   simpa [Addr.add]using World.cell?_spot this
  refine⟨some ⟨b,o,spot⟩,len,cap,List.ofFn g,rfl,⟨by simp,fun h0=>?_⟩,fun y hy=>?_,hm,hl,by omega⟩
  ·obtain rfl:=hspot h0
   have hc00:=(hg ⟨0,h0⟩).2 0 hk0;rw[zw6 (by rw[hf];exact hk0)]at hc00;have hadd:∀b o j,(⟨b,o,none⟩:Addr).add j=⟨b,o+j,none⟩:=fun b o j=>by unfold Addr.add;split<;>simp_all
   refine⟨b,o,rfl,?_,fun j hj i hi=>?_⟩
   ·rw[hadd,hadd]at hc00
    exact World.block_lt_of_cell? w _ hc00
   ·have hj':j<len:=by simpa using hj
    have:=(hg ⟨j,hj'⟩).2 i hi;rw[hadd,hadd]at this;rw[List.getElem_ofFn];exact this
  ·obtain⟨i,rfl⟩:=List.mem_ofFn.1 hy
   exact(hg i).1
theorem str_ofB {fuel M:Nat} {cs:List Value} {x:DataW H × List MemPlace} (h:DataW.trod enc Tryz.prog w base spare held fuel 9 cs=some x) (hb:Rows.uptoBulk x.1≤M):∃y:ByteArray,cs=cT y∧y.size≤M:=by
 obtain⟨s,e,hx,_⟩:=DataW.trod_string Tryz.underlying9 h;subst hx;simp only[Rows.uptoBulk]at hb;exact⟨s,e,by have:s.data.toList.length=s.size:=rfl;omega⟩
theorem parts_of {fuel:Nat} {cs:Array Value} {x:DataW H × List MemPlace} (h:DataW.trod enc Tryz.prog w base spare held fuel 34 cs.toList=some x) (hs:cs.size=Tryz.prog.cellsOf 34) (hw:∀n∈x.1.weights Tryz.prog 34,n≤reachBytes) (hb:Rows.uptoBulk x.1≤1048576):
  ∃(p:Pv) (y:Hv) (evs:List Ev) (N KI:Int) (tr:Tk) (ts:List ByteArray),cs=cPa y (.slice p.A y.starts.length p.c) (.slice p.Al evs.length p.cl) N KI p.t (.slice p.Af ts.length p.cf)∧RfP w p y evs tr ts∧InP p y evs N KI tr ts:=by
 rw[cellsPt]at hs;obtain⟨ys,n',hn',hy,hlen,hyl,hf⟩:=zw55 Tryz.underlying34 h;obtain⟨v0,v1,v2,v3,v4,v5,v6,v7,v8,v9,v10,v11,v12,v13,v14,hv⟩:=ls15 (show cs.toList.length=15 by simpa using hs);obtain⟨y0,y1,y2,y3,y4,y5,rfl⟩:=ls6 (show ys.length=6 from hyl);rw[hv]at hf;have h0:DataW.trod enc Tryz.prog w base spare held n' 25 (#[v0,v1,v2,v3,v4,v5]:Array Value).toList=some y0:=hf 0 _ rfl;have h1:DataW.trod enc Tryz.prog w base spare held n' 26 [v6]=some y1:=hf 1 _ rfl;have h4:DataW.trod enc Tryz.prog w base spare held n' 31 (#[v9,v10,v11,v12,v13]:Array Value).toList=some y4:=hf 4 _ rfl;have h5:DataW.trod enc Tryz.prog w base spare held n' 32 [v14]=some y5:=hf 5 _ rfl;obtain⟨i2,e2,_,w2⟩:=zw54 Tryz.underlying3 (hf 2 _ rfl);obtain⟨i3,e3,_,w3⟩:=zw54 Tryz.underlying3 (hf 3 _ rfl);have g2:v7= .int .i64 i2:=(List.cons.inj e2).1;have g3:v8= .int .i64 i3:=(List.cons.inj e3).1;have c2:=bounds_i64 w2;have c3:=bounds_i64 w3;subst hy;simp only[Rows.uptoBulk,List.map_cons,List.map_nil,Rows.uptoBulkAll]at hb;have hwT:∀n∈y4.1.weights Tryz.prog 31,n≤reachBytes:=fun n hn=>hw n (by
  simp only[DataW.weights,Tryz.underlying34,List.map_cons,List.map_nil,DataW.weightsEach,zw16];exact .inr (.inr (.inr (.inr (.inl hn)))))
 obtain⟨hd,A,m,c,k1,k2,k3,k4,k5,k6,k7,k8,k9,k10⟩:=Log.hdr_of h0 (by rw[Log.cellsHd];rfl);obtain⟨Al,ml,cl,evs,rfl,r1,g1,a1,a2,a3⟩:=recs_ofB (M:=1048576) Tryz.underlying26 Log.cellsE (by decide) Log.cV_len (fun _ _ _ h hl _=>Log.entry_of h hl) h1 (by omega);obtain⟨t,tr,e4,r4,hr⟩:=Trk.track_of h4 (by rw[Trk.cellsRT];rfl) hwT;obtain⟨Af,mf,cf,ts,rfl,r5,g5,b1,b2,b3⟩:=recs_ofB (M:=1048576) Tryz.underlying32 cellsStr (by decide) cT_len (fun _ _ _ h _ hb=>str_ofB h hb) h5 (by omega);have l0:=k2.1;have l1:=r1.1;have l5:=r5.1;unfold maxLen at a1 b1;subst g2 g3 l0 l1 l5;refine⟨⟨A,c,Al,cl,t,Af,cf⟩,hd,evs,i2,i3,tr,ts,?_,⟨k2,r1,r4,r5⟩,⟨hr,by omega,by omega,fun s hs=>zw10 (g5 s hs) (by decide),k3,g1,k4,⟨k7,k8,k9,k10⟩,c2,c3,k5,k6,a2,zw10 a1 (by decide)⟩⟩;apply Array.ext';rw[hv];have q0: [v0,v1,v2,v3,v4,v5]=(cH hd (.slice A hd.starts.length c)).toList:=congrArg Array.toList k1;have q4: [v9,v10,v11,v12,v13]=t.cells.toList:=congrArg Array.toList e4;simp only[cH,Tv.cells,List.cons.injEq,and_true]at q0 q4;obtain⟨rfl,rfl,rfl,rfl,rfl,rfl⟩:=q0;obtain⟨rfl,rfl,rfl,rfl,rfl⟩:=q4;rfl
end
end Go.Proofs.YtidnboeihkeljaaGreatDoor.Fil
