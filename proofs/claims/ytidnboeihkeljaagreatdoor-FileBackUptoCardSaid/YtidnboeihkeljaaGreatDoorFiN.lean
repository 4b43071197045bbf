/- Law 20: FileBack, walked. -/
import Derived.Test.YtidnboeihkeljaaGreatDoorFiM
set_option maxHeartbeats 16000000
set_option maxRecDepth 100000
set_option linter.all false
open Go.ChangeShapes Go.WideShapes Go.ChangeAt Go.RowKit
namespace Go.Proofs.YtidnboeihkeljaaGreatDoor.Fil
open Wire
open Rec
open Trk (Sl Tv Tk TkV RfV mayT encT Within Small Room)
open Log (Hv Ev cH cV mayH putL encH)
theorem fileBack (p:Pv) (x:Hv) (evs:List Ev) (N KI:Int) (tr:Tk) (ts:List ByteArray) (tv:Tv) (tr2:Tk) (at_ ch:Nat) (w:World) (hT:Crc.Tab w) (h:RfP w p x evs tr ts) (hi:InP p x evs N KI tr ts) (h2:RfV w tv tr2) (hz:Room tr2) (hat:at_<65536) (hch:ch<256):
  Calls Tryz.prog 5 #[.agg (cPa x (.slice p.A x.starts.length p.c) (.slice p.Al evs.length p.cl) N KI p.t (.slice p.Af ts.length p.cf)),.agg tv.cells,.int .u16 (at_:Int),.int .u8 (ch:Int)] w fun e w'=>e= .returned (.bool true)∧Ext w w':=by
 have HE0:=zh (zxa (zxa (zxr w) (.cells (cPa x (.slice p.A x.starts.length p.c) (.slice p.Al evs.length p.cl) N KI p.t (.slice p.Af ts.length p.cf)) 34)) (.cells tv.cells 31));have HH0:=zh ((Blk.new w 34 (cPa x (.slice p.A x.starts.length p.c) (.slice p.Al evs.length p.cl) N KI p.t (.slice p.Af ts.length p.cf))).alloc (.cells tv.cells 31));have HG0:=zh (Blk.new1 w (.cells (cPa x (.slice p.A x.starts.length p.c) (.slice p.Al evs.length p.cl) N KI p.t (.slice p.Af ts.length p.cf)) 34) 31 tv.cells);have HOF:=zh (fun(W:World) (e:Ext w W)=>of_parts p x evs N KI tr ts W (h.ext e) hi.room hi.evl hi.frl hi.frz);have HOT:=zh (fun(W:World) (e:Ext w W)=>Trk.of_tr2 tv tr2 W (h2.ext e) hz);have HBG:=zh (fun(W:World) (e:Ext w W)=>big_st p x evs N KI tr ts W (h.ext e) hi.tiles hi.starts (by have:=hi.evl;omega) (by have:=hi.frl;omega) (fun s hs=>by have:=hi.frz s hs;omega));have HGT:=zh (fun(W:World) (e:Ext w W)=>Trk.great_tr tv tr2 W (h2.ext e));have HWK:=zh (fun(W:World) (e:Ext w W)=>wakes_st W (hT.ext e));have HMY:=zh (fun(W:World) (e:Ext w W) (l:Lit x evs tr ts)=>rmay20 p x evs N KI tr ts W (h.ext e) l hi.sfit hi.efit hi.whi hi.nn hi.cl);have HMT:=zh (fun(W:World) (e:Ext w W)=>Trk.rmay_tr tv tr2 N W (h2.ext e) hi.nn.1 hi.nn.2);have HBD:Hid (∀p' W,Ext w W→PaV W p' ⟨x,evs,N,KI,tr,ts.map natsOf⟩→Lit x evs tr ts→Calls Tryz.prog 9 #[.agg (p'.cells ⟨x,evs,N,KI,tr,ts.map natsOf⟩)] W (BuPost W ⟨x,evs,N,KI,tr,ts.map natsOf⟩)):=zh (fun p' W e hp l=>build_st p' _ W (hT.ext e) hp (hi.low l));have HKT:Hid (mayR ⟨x,evs,N,KI,tr,ts.map natsOf⟩→Lit x evs tr ts→(∀c∈tr.cams,∀q∈c,Within q)→(∀c∈tr2.cams,∀q∈c,Within q)→Small tr2→∃B1 B2 F,Kit w p x evs N KI tr tv tr2 ts B1 B2 F):=zh (fun m l q1 q2 q3=>kit_of w p x evs N KI tr tv tr2 ts hT h h2 (hi.low l) m q1 l.2.2.2.2.1 q2 q3)
 have HTB:=zh hT;clear h hi hT h2 hz;obtain⟨fs,hfs⟩:∃q,q=ts.map natsOf:=⟨_,rfl⟩;have HFL:Hid (fs.length=ts.length):=zh (by rw[hfs,zw4]);unfold O2Post at HOF;rw[←hfs]at HOF HMY HBD HKT;have HFS:=zh hfs;clear hfs;obtain⟨A,c,Al,cl,⟨⟨A0,n0,c0⟩,⟨A1,n1,c1⟩,⟨A2,n2,c2⟩,⟨A3,n3,c3⟩,⟨Am,nm,cm⟩⟩,Af,cf⟩:=p;obtain⟨⟨E0,l0,j0⟩,⟨E1,l1,j1⟩,⟨E2,l2,j2⟩,⟨E3,l3,j3⟩,⟨Em,lm,jm⟩⟩:=tv;obtain⟨xw,xh,xp,xs,xt,us⟩:=x;simp only[cPa,Tv.cells]at HE0 HH0 HG0 HOF HOT HBG HGT HMY HMT ⊢;go_enter Tryz.func5,Tryz.ntmps5;go_upto_region 1 with fail;obtain⟨w0,hw0⟩:∃q,q=(w.alloc (.cells #[.int .i64 xw,.int .i64 xh,.int .i64 xp,.int .u32 (xs:Int),.string xt,.slice A us.length c,.slice Al evs.length cl,.int .i64 N,.int .i64 KI,.slice A0 n0 c0,.slice A1 n1 c1,.slice A2 n2 c2,.slice A3 n3 c3,.slice Am nm cm,.slice Af ts.length cf] 34)).alloc (.cells #[.slice E0 l0 j0,.slice E1 l1 j1,.slice E2 l2 j2,.slice E3 l3 j3,.slice Em lm jm] 31):=⟨_,rfl⟩;rw[←hw0]at HE0 HH0 HG0 ⊢;clear hw0;obtain⟨hb,hhb⟩:∃q,q=w.heap.size:=⟨_,rfl⟩;rw[←hhb]at HH0 HG0 ⊢;have HHB:=zh hhb;clear hhb;generalize Value.agg #[.int .i64 xw,.int .i64 xh,.int .i64 xp,.int .u32 (xs:Int),.string xt,.slice A us.length c,.slice Al evs.length cl,.int .i64 N,.int .i64 KI,.slice A0 n0 c0,.slice A1 n1 c1,.slice A2 n2 c2,.slice A3 n3 c3,.slice Am nm cm,.slice Af ts.length cf]=P0;generalize Value.agg #[.slice E0 l0 j0,.slice E1 l1 j1,.slice E2 l2 j2,.slice E3 l3 j3,.slice Em lm jm]=T0
 go_cut [9,10] (fun xv bv wx=>Ext w0 wx∧∃(p':Pv) (xb:Nat) (b:Bool),xv= .pointer (some ⟨xb,0,none⟩)∧bv= .bool b∧Blk wx xb 43 (p'.cells ⟨⟨xw,xh,xp,xs,xt,us⟩,evs,N,KI,tr,fs⟩)∧(b=true→PaV wx p' ⟨⟨xw,xh,xp,xs,xt,us⟩,evs,N,KI,tr,fs⟩∧∀c∈tr.cams,∀q∈c,Within q))
 case first=>
  have hh:=fun i=>HH0.out.cell i;go_wp2_with fail;refine(HOF.out _ HE0.out).mono ?_;rintro e w1 ⟨hE,⟨B,d,Bl,dl,⟨⟨B0,m0,d0⟩,⟨B1,m1,d1⟩,⟨B2,m2,d2⟩,⟨B3,m3,d3⟩,⟨Bm,mm,dm⟩⟩,Bf,df⟩,b,rfl,hpa,_⟩;have HE1:=zh hE;have HPA:=zh hpa;have hcl:Pv.cells ⟨B,d,Bl,dl,⟨⟨B0,m0,d0⟩,⟨B1,m1,d1⟩,⟨B2,m2,d2⟩,⟨B3,m3,d3⟩,⟨Bm,mm,dm⟩⟩,Bf,df⟩ ⟨⟨xw,xh,xp,xs,xt,us⟩,evs,N,KI,tr,fs⟩= #[.int .i64 xw,.int .i64 xh,.int .i64 xp,.int .u32 (xs:Int),.string xt,.slice B us.length d,.slice Bl evs.length dl,.int .i64 N,.int .i64 KI,.slice B0 m0 d0,.slice B1 m1 d1,.slice B2 m2 d2,.slice B3 m3 d3,.slice Bm mm dm,.slice Bf fs.length df]:=by
   simp only[Pv.cells,cPa]
  have HCL:=zh hcl;rw[hcl];clear hE hpa hh hcl;go_wp2_with fail;go_meet;refine⟨zxa HE1.out _,⟨B,d,Bl,dl,⟨⟨B0,m0,d0⟩,⟨B1,m1,d1⟩,⟨B2,m2,d2⟩,⟨B3,m3,d3⟩,⟨Bm,mm,dm⟩⟩,Bf,df⟩,_,b,rfl,rfl,?_,fun h=>⟨(HPA.out h).1.ext (zxa (zxr w1) _),(HPA.out h).2⟩⟩;rw[HCL.out];exact Blk.new w1 _ _
 case rest=>
 obtain⟨hE,p',xb,b,rfl,rfl,hx,hpa⟩:=hcut;obtain⟨w2,rfl⟩:∃z,z=wc:=⟨_,rfl⟩;have HX2:=zh hx;have HPA:=zh hpa;have HE2:=zh (zxt HE0.out hE);have HH2:=zh (HH0.out.ext hE);have HG2:=zh (HG0.out.ext hE);clear hE hx hpa HOF HE0 HH0 HG0;go_upto_region 2 with fail
 go_cut [11,12] (fun uv bv wx=>Ext w2 wx∧∃(t':Tv) (ub:Nat) (b2:Bool),uv= .pointer (some ⟨ub,0,none⟩)∧bv= .bool b2∧Blk wx ub 40 t'.cells∧(b2=true→TkV wx t' tr2∧∀c∈tr2.cams,∀q∈c,Within q))
 case first=>
  have hg:=fun i=>HG2.out.cell i;go_wp2_with fail;refine(HOT.out _ HE2.out).mono ?_;rintro e w3 ⟨hE,⟨⟨D0,o0,v0⟩,⟨D1,o1,v1⟩,⟨D2,o2,v2⟩,⟨D3,o3,v3⟩,⟨Dm,om,vm⟩⟩,b2,rfl,hta,_⟩;simp only[Tv.cells];have HE3:=zh hE;have HTA:=zh hta;clear hE hta hg;go_wp2_with fail;go_meet;exact⟨zxa HE3.out _,⟨⟨D0,o0,v0⟩,⟨D1,o1,v1⟩,⟨D2,o2,v2⟩,⟨D3,o3,v3⟩,⟨Dm,om,vm⟩⟩,_,b2,rfl,rfl,Blk.new w3 _ _,fun h=>⟨(HTA.out h).1.ext (zxa (zxr w3) _),(HTA.out h).2.1⟩⟩
 case rest=>
 obtain⟨hE,t',ub,b2,rfl,rfl,hu,hta⟩:=hcut;obtain⟨w4,rfl⟩:∃z,z=wc:=⟨_,rfl⟩;have HTA:=zh hta;have HU4:=zh hu;have HE4:=zh (zxt HE2.out hE);have HX4:=zh (HX2.out.ext hE);have HH4:=zh (HH2.out.ext hE);have HG4:=zh (HG2.out.ext hE);replace HPA:=zh (fun h=>(⟨(HPA.out h).1.ext hE,(HPA.out h).2⟩:PaV w4 p' ⟨⟨xw,xh,xp,xs,xt,us⟩,evs,N,KI,tr,fs⟩∧∀c∈tr.cams,∀q∈c,Within q));clear hE hu hta HOT HE2 HX2 HH2 HG2;go_upto_region 3 with fail
 go_cut [48] (fun sv wx=>Ext w4 wx∧∃q:Bool,sv= .bool q∧(q=false→b=true∧b2=true∧Lit ⟨xw,xh,xp,xs,xt,us⟩ evs tr ts∧Small tr2∧mayR ⟨⟨xw,xh,xp,xs,xt,us⟩,evs,N,KI,tr,fs⟩))
 case first=>
  have HE0:=zh (zxr w4)
  cases b with
  | false=>
   go_wp2_with fail;go_meet;exact⟨HE0.out,true,rfl,fun h=>by cases h⟩
  | true=>
  cases b2 with
  | false=>
   go_wp2_with fail;go_meet;exact⟨HE0.out,true,rfl,fun h=>by cases h⟩
  | true=>
  have hh:=fun i=>HH4.out.cell i;go_wp2_with fail;refine(HBG.out _ HE4.out).mono ?_;rintro e w5 ⟨g1,rfl,hE,hlit⟩;have HLT:=zh hlit;have HE5:=zh hE;have HG5:=zh (HG4.out.ext hE);clear hE hlit hh
  cases g1 with
  | true=>
   go_wp2_with fail;go_meet;exact⟨HE5.out,true,rfl,fun h=>by cases h⟩
  | false=>
  have hg:=fun i=>HG5.out.cell i;go_wp2_with fail;refine(HGT.out _ (zxt HE4.out HE5.out)).mono ?_;rintro e w6 ⟨g2,rfl,hE,hsm⟩;have HS:=zh hsm;have HE6:=zh (zxt HE5.out hE);have HH6:=zh (HH4.out.ext HE6.out);clear hE hsm hg HG5 HE5
  cases g2 with
  | true=>
   go_wp2_with fail;go_meet;exact⟨HE6.out,true,rfl,fun h=>by cases h⟩
  | false=>
  have hh:=fun i=>HH6.out.cell i;have HLL:=zh (HLT.out (by first | rfl | trivial));have HSS:=zh (HS.out (by first | rfl | trivial));go_wp2_with fail;refine(HMY.out _ (zxt HE4.out HE6.out) HLL.out).mono ?_;rintro e w7 ⟨rfl,hE⟩;have HE7:=zh (zxt HE6.out hE);clear hE hh HS HLT HH6 HE6;by_cases hmay:mayR ⟨⟨xw,xh,xp,xs,xt,us⟩,evs,N,KI,tr,fs⟩
  ·rw[zw15 hmay]
   have HMA:=zh hmay;clear hmay;go_wp2_with fail;go_meet;exact⟨HE7.out,false,rfl,fun _=>⟨by first | rfl | trivial,by first | rfl | trivial,HLL.out,HSS.out,HMA.out⟩⟩
  ·rw[zw14 hmay]
   clear hmay;go_wp2_with fail;go_meet;exact⟨HE7.out,true,rfl,fun h=>by cases h⟩
 case rest=>
 obtain⟨hE,q,rfl,hq⟩:=hcut;obtain⟨w7,rfl⟩:∃z,z=wc:=⟨_,rfl⟩;replace HE4:=zh (zxt HE4.out hE);replace HX4:=zh (HX4.out.ext hE);replace HH4:=zh (HH4.out.ext hE);replace HG4:=zh (HG4.out.ext hE);replace HU4:=zh (HU4.out.ext hE);replace HPA:=zh (fun h=>(⟨(HPA.out h).1.ext hE,(HPA.out h).2⟩:PaV w7 p' ⟨⟨xw,xh,xp,xs,xt,us⟩,evs,N,KI,tr,fs⟩∧∀c∈tr.cams,∀q∈c,Within q));replace HTA:=zh (fun h=>(⟨(HTA.out h).1.ext hE,(HTA.out h).2⟩:TkV w7 t' tr2∧∀c∈tr2.cams,∀q∈c,Within q));have HQ:=zh hq;clear hE hq HBG HGT HMY
 cases q with
 | true=>
  go_wp2_with fail;refine(HWK.out _ HE4.out).mono ?_;rintro e wz ⟨rfl,hE⟩;have HEz:=zh (zxt HE4.out hE);clear hE;go_wp2_with fail;go_ret;exact⟨rfl,HEz.out⟩
 | false=>
 obtain⟨rfl,rfl,hlt,hsm,hmay⟩:=HQ.out (by first | rfl | trivial);obtain⟨Z1,Z2,F,hkit⟩:=HKT.out hmay hlt (HPA.out (by first | rfl | trivial)).2 (HTA.out (by first | rfl | trivial)).2 hsm;have HKI:=zh hkit;obtain⟨hln,_⟩:=hkit.len;have HLN:=zh hln;have HB4:=zh (HBD.out _ _ HE4.out (HPA.out (by first | rfl | trivial)).1 hlt);have HT4:=zh (HTA.out (by first | rfl | trivial)).1;obtain⟨B,d,Bl,dl,⟨⟨B0,m0,d0⟩,⟨B1,m1,d1⟩,⟨B2,m2,d2⟩,⟨B3,m3,d3⟩,⟨Bm,mm,dm⟩⟩,Bf,df⟩:=p';obtain⟨⟨D0,o0,v0⟩,⟨D1,o1,v1⟩,⟨D2,o2,v2⟩,⟨D3,o3,v3⟩,⟨Dm,om,vm⟩⟩:=t';simp only[Pv.cells,cPa]at HB4 HX4;simp only[Tv.cells]at HU4;clear hkit hmay hlt hsm HKT HBD HPA HTA HQ hln;go_upto_region 5 with fail
 go_cut [13,14] (fun bv ev wx=>Ext w7 wx∧∃g cz cur,bv= .slice (some ⟨g,0,none⟩) Z1.length cz∧ev= .int .i64 0∧Blk wx g 5 cur∧(∀j,j<Z1.length→cur[j]? =some (.int .u8 (Z1.getD j 0:Nat)))∧w7.heap.size≤g∧Z1.length≤cz∧cz≤9223372036854775807)
 case first=>
  have hh:=fun i=>HX4.out.cell i;go_wp2_with fail;refine(HB4.out).mono ?_;rintro e w8 hbu;rw[HFS.out]at hbu;obtain⟨hE,v,rfl,hO⟩:=HKI.out.bu _ _ _ hbu;obtain⟨Az,cz,rfl,z1,z2,z3⟩:=own_shape hO;obtain⟨g,rfl,hgb⟩:=z3 (by have:=HLN.out;omega);obtain⟨cur,hcur,hcc⟩:=Chk.own_blk (W:=w7) hO (by have:=HLN.out;omega);have HBL:=zh hcur;have HCC:=zh hcc;have HE8:=zh hE;have HZC:=zh (And.intro hgb (And.intro z1 z2));clear hbu hE hO z1 z2 z3 hgb hcur hcc hh;go_wp2_with fail;go_meet;exact⟨HE8.out,g,cz,cur,rfl,rfl,HBL.out,HCC.out,HZC.out.1,HZC.out.2.1,by have:=HZC.out.2.2;unfold maxLen at this;omega⟩
 case rest=>
 obtain⟨hE,g,cz,cur,rfl,rfl,hcur,hcc,hgb,z1,z2⟩:=hcut;obtain⟨w8,rfl⟩:∃z,z=wc:=⟨_,rfl⟩
 go_step
 exact back_tail w w8 _ _ _ _ _ _ _ _ _ Z1 Z2 F at_ ch hb (hb+1) ub g cz ⟨⟨D0,o0,v0⟩,⟨D1,o1,v1⟩,⟨D2,o2,v2⟩,⟨D3,o3,v3⟩,⟨Dm,om,vm⟩⟩ cur HKI.out HWK.out HMT.out HTB.out (zxt HE4.out hE) (HH4.out.ext hE) (HG4.out.ext hE) (HU4.out.ext hE) (HT4.out.ext hE) hcur hcc (zw10 HE4.out.size hgb) z1 z2 hat hch
end Go.Proofs.YtidnboeihkeljaaGreatDoor.Fil
