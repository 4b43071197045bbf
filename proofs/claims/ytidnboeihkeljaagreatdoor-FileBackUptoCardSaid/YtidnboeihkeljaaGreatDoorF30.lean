
import Derived.Test.YtidnboeihkeljaaGreatDoorFilQ
set_option maxHeartbeats 16000000
set_option maxRecDepth 100000
set_option linter.all false
open Go.ChangeShapes Go.WideShapes Go.ChangeAt Go.RowKit
namespace Go.Proofs.YtidnboeihkeljaaGreatDoor.Fil
open Wire
open Rec
open Trk (Sl Tv Tk TkV mayT encT takeT RfV Room)
open Log (Hv Ev En cH cS cV mayH putL encH OwnR_mono' OwnR_keep)
def x0:Hv:=⟨4,4,1,0,⟨#[0,0,0,0,0,0,0,0,0,0,0,0,0,0,0,0]⟩,[]⟩
def tr0:Tk:=⟨[],[],[],[],[]⟩
def ts0:List ByteArray:=[⟨#[97,98,99]⟩,⟨#[97,98,100]⟩,⟨#[120]⟩]
def r0:Rc:=⟨x0,[],2,2,tr0,[[97,98,99],[97,98,100],[120]]⟩
theorem ts0_map:ts0.map natsOf=[[97,98,99],[97,98,100],[120]]:=by decide
theorem low0:Low r0:=by
 refine⟨by decide,by decide,fun u hu=>absurd hu (by simp[r0,x0]),by decide,by decide,by decide,fun e he=>absurd he (by simp[r0]),by decide,by decide,by decide,?_,?_⟩
 ·intro f hf;revert f;decide
 ·intro f hf;revert f;decide
theorem may0:mayR r0:=by
 refine⟨by decide,by decide,by decide,by decide,by decide,?_,by decide⟩;intro f hf;revert f;decide
theorem put0:∃L,putL r0.N r0.evs=some L:=by
 have h:=may0.2.1;exact Option.isSome_iff_exists.1 h
theorem opn0:∃L b3 b4 iA,putL r0.N r0.evs=some L∧Opn (built (encH r0.x.hd) L (encT r0.tr) r0.N.toNat r0.K.toNat r0.fs) r0 L b3 b4 iA:=by
 obtain⟨L,hL⟩:=put0;have hl:=low0;have hm:=may0;refine⟨L,_,_,_,hL,rds_built _ _ _ _ _ _ (Log.encH_small _ hl.seed (mem_small (natsOf_small _))) (Log.putL_small hl.efit hL) (Trk.encT_both hm.2.2.1).2 hl.small (by have:=Log.encH_len _ hm.1 hl.sfit;omega) (Log.putL_len hl.efit (by have:=hl.evs;omega) hL) (Trk.encT_both hm.2.2.1).1 hl.frame (by decide) (by decide) (by decide),hL,hl,hm⟩
open Com (conv8)
theorem row_ts {w:World} {g:Nat} (h:Blk w g 9 #[.string ⟨#[97,98,99]⟩,.string ⟨#[97,98,100]⟩,.string ⟨#[120]⟩]):RowR w (some ⟨g,0,none⟩) 3 1 cT ts0:=by
 refine⟨rfl,fun _=>⟨g,0,rfl,h.lt,fun j hj i hi=>?_⟩⟩;obtain rfl:i=0:=by omega
 have hj3:j<3:=hj;rcases(by omega:j=0∨j=1∨j=2)with rfl | rfl | rfl
 ·exact h.cell 0
 ·exact h.cell 1
 ·exact h.cell 2
theorem of_known (g:Nat) (w:World) (h:Blk w g 9 #[.string ⟨#[97,98,99]⟩,.string ⟨#[97,98,100]⟩,.string ⟨#[120]⟩]):Calls Tryz.prog 6 #[.agg #[.int .i64 4,.int .i64 4,.int .i64 1,.int .u32 0,.string ⟨#[0,0,0,0,0,0,0,0,0,0,0,0,0,0,0,0]⟩,.slice none 0 0,.slice none 0 0,.int .i64 2,.int .i64 2,.slice none 0 0,.slice none 0 0,.slice none 0 0,.slice none 0 0,.slice none 0 0,.slice (some ⟨g,0,none⟩) 3 3]] w
  fun e w'=>∃p':Pv,e= .returned (.tuple #[.agg (p'.cells r0),.bool true])∧PaV w' p' r0∧Ext w w':=by
 refine(of_parts ⟨none,0,none,0,⟨⟨none,0,0⟩,⟨none,0,0⟩,⟨none,0,0⟩,⟨none,0,0⟩,⟨none,0,0⟩⟩,some ⟨g,0,none⟩,3⟩ x0 [] 2 2 tr0 ts0 w ?_ ?_ (by decide) (by decide) ?_).mono ?_
 ·have hp:Trk.PtsR w none 0 0 []:=⟨RowR.nil _ _ _ _,by omega,by omega,fun _=>⟨rfl,rfl⟩⟩
  exact⟨RowR.nil _ _ _ _,RowR.nil _ _ _ _,⟨hp,hp,hp,hp,RowR.nil _ _ _ _,zw8 0,Nat.zero_le _,fun _=>⟨rfl,rfl⟩,fun m hm=>by cases hm⟩,row_ts h⟩
 ·exact⟨fun c hc=>by revert c;decide,by decide⟩
 ·intro s hs;revert s;decide
 ·rintro e w' ⟨hE,p',b,rfl,h1,h2⟩
  have hb:b=true:=h2 (fun c hc q hq=>by
   simp only[tr0,Tk.cams,zw30,List.not_mem_nil,or_false]at hc;rcases hc with rfl | rfl | rfl | rfl<;>cases hq)
  subst hb;have h3:=(h1 rfl).1;rw[ts0_map]at h3 ⊢;exact⟨p',rfl,h3,hE⟩
theorem bs_abc (w:World) (m:Nat × Nat):Bs (w.alloc (.cells #[.int .u8 97,.int .u8 98,.int .u8 99] 5 m)) (some ⟨w.heap.size,0,none⟩) 3 [97,98,99]:=
 bs_new w 5 m [97,98,99] (small_mem (by decide))
theorem dpost_n {w w':World} {zs:List Nat} {e:Ending} (h:DPost w zs e w') (n:Nat) (hn:zs.length=n):∃A c,e= .returned (.tuple #[.slice A n c,.int .i64 0])∧Bs w' A n zs∧Ext w w':=by
 subst hn;exact h
theorem str_abd:strOf [97,98,100]=⟨#[97,98,100]⟩:=rfl
theorem str_x:strOf [120]=⟨#[120]⟩:=rfl
theorem wakes_st (w:World) (hT:Crc.Tab w):Calls Tryz.prog 8 #[] w fun e w'=>e= .returned (.bool true)∧Ext w w':=by
 have HTB:=zh hT;have HKN:=zh (known_st w);obtain⟨L,b3,b4,iA,hL,hop⟩:=opn0;have HL:=zh hL;have HOP:=zh hop;clear hT hL hop;go_enter Tryz.func8,Tryz.ntmps8;go_wp2_with fail;refine(HKN.out).mono ?_;rintro e w1 ⟨g,rfl,hb,hE1⟩;have HOF:=zh (of_known g w1 hb);have HE:=zh hE1;clear hb hE1 HKN;go_wp2_with fail;refine(HOF.out).mono ?_;rintro e w2 ⟨⟨A,c,Al,cl,⟨⟨A0,n0,c0⟩,⟨A1,n1,c1⟩,⟨A2,n2,c2⟩,⟨A3,n3,c3⟩,⟨Am,nm,cm⟩⟩,Af,cf⟩,rfl,hP,hE2⟩;replace HE:=zh (zxt HE.out hE2);have hcl:Pv.cells ⟨A,c,Al,cl,⟨⟨A0,n0,c0⟩,⟨A1,n1,c1⟩,⟨A2,n2,c2⟩,⟨A3,n3,c3⟩,⟨Am,nm,cm⟩⟩,Af,cf⟩ r0= #[.int .i64 4,.int .i64 4,.int .i64 1,.int .u32 0,.string ⟨#[0,0,0,0,0,0,0,0,0,0,0,0,0,0,0,0]⟩,.slice A 0 c,.slice Al 0 cl,.int .i64 2,.int .i64 2,.slice A0 n0 c0,.slice A1 n1 c1,.slice A2 n2 c2,.slice A3 n3 c3,.slice Am nm cm,.slice Af 3 cf]:=rfl;have HBU:Hid (∀w',Ext w2 w'→Calls Tryz.prog 9 #[.agg #[.int .i64 4,.int .i64 4,.int .i64 1,.int .u32 0,.string ⟨#[0,0,0,0,0,0,0,0,0,0,0,0,0,0,0,0]⟩,.slice A 0 c,.slice Al 0 cl,.int .i64 2,.int .i64 2,.slice A0 n0 c0,.slice A1 n1 c1,.slice A2 n2 c2,.slice A3 n3 c3,.slice Am nm cm,.slice Af 3 cf]] w' (BuPost w' r0)):=zh (fun w' e=>build_st ⟨A,c,Al,cl,⟨⟨A0,n0,c0⟩,⟨A1,n1,c1⟩,⟨A2,n2,c2⟩,⟨A3,n3,c3⟩,⟨Am,nm,cm⟩⟩,Af,cf⟩ r0 w' (HTB.out.ext (zxt HE.out e)) (hP.ext e) low0);rw[hcl];clear hE2 HOF hP hcl;have hh:=fun i=>(Blk.new w2 43 #[.int .i64 4,.int .i64 4,.int .i64 1,.int .u32 0,.string ⟨#[0,0,0,0,0,0,0,0,0,0,0,0,0,0,0,0]⟩,.slice A 0 c,.slice Al 0 cl,.int .i64 2,.int .i64 2,.slice A0 n0 c0,.slice A1 n1 c1,.slice A2 n2 c2,.slice A3 n3 c3,.slice Am nm cm,.slice Af 3 cf]).cell i
 go_wp2_with fail;clear hh;refine(HBU.out _ (zxa (zxr w2) (.cells #[.int .i64 4,.int .i64 4,.int .i64 1,.int .u32 0,.string ⟨#[0,0,0,0,0,0,0,0,0,0,0,0,0,0,0,0]⟩,.slice A 0 c,.slice Al 0 cl,.int .i64 2,.int .i64 2,.slice A0 n0 c0,.slice A1 n1 c1,.slice A2 n2 c2,.slice A3 n3 c3,.slice Am nm cm,.slice Af 3 cf] 43))).mono ?_;rintro e w3 ⟨hE3,hok,_⟩;obtain⟨v,rfl,hO⟩:=hok may0 L HL.out;replace HE:=zh (zxt (zxa HE.out (.cells #[.int .i64 4,.int .i64 4,.int .i64 1,.int .u32 0,.string ⟨#[0,0,0,0,0,0,0,0,0,0,0,0,0,0,0,0]⟩,.slice A 0 c,.slice Al 0 cl,.int .i64 2,.int .i64 2,.slice A0 n0 c0,.slice A1 n1 c1,.slice A2 n2 c2,.slice A3 n3 c3,.slice Am nm cm,.slice Af 3 cf] 43)) hE3);clear hE3 hok HBU;obtain⟨xs,hxs⟩:∃q,q=built (encH r0.x.hd) L (encT r0.tr) r0.N.toNat r0.K.toNat r0.fs:=⟨_,rfl⟩;rw[←hxs]at HOP hO;clear hxs HL;obtain⟨A4,c4,rfl,hn4,hc4,_,_⟩:=hO.shape;have hB4:=(hO.bs HOP.out.rds.small).2;obtain⟨n4,hn⟩:∃q,xs.length=q:=⟨_,rfl⟩;rw[hn]at hO hn4 hB4 ⊢;have HLN:=zh hn;have HOPN:=zh (open_ok A4 n4 c4 xs r0 L b3 b4 iA w3 (HTB.out.ext HE.out) hB4 hn4 hc4 HOP.out);clear hO hn4 hc4 hB4 hn;go_wp2_with fail;refine(HOPN.out).mono ?_;rintro e w4 ⟨f,rfl,hF,hE4⟩;have HF:=zh hF;replace HE:=zh (zxt HE.out hE4);clear hF hE4 HOPN;have HFR:Hid (Calls Tryz.prog 14 #[.pointer (some ⟨f,0,none⟩),.int .i64 1] w4 (DPost w4 [97,98,100])):=zh (frame_in f xs r0 L b3 b4 iA 1 w4 (HTB.out.ext HE.out) HF.out HOP.out (by decide));go_wp2_with fail;refine(HFR.out).mono ?_;intro e w5 hd;obtain⟨A5,c5,rfl,hB5,hE5⟩:=dpost_n hd 3 rfl
 replace HE:=zh (zxt HE.out hE5);replace HF:=zh (HF.out.ext hE5);have HB5:=zh hB5;clear hd hB5 hE5 HFR;have kcv:=fun(w:World) (C:Array Value) (n c:Nat)=>Lib.run_convert_bytes_const (P:=Tryz.prog) w 48 5 C n c Tryz.underlying48 Tryz.underlying5;go_wp2_with fail;clear kcv;have hea:=zxa (zxr w5) (.cells #[.int .u8 97,.int .u8 98,.int .u8 99] 5 (3,4));refine(show Calls Tryz.prog 13 #[.pointer (some ⟨f,0,none⟩),.int .i64 1,.slice (some ⟨w5.heap.size,0,none⟩) 3 3] (w5.alloc (.cells #[.int .u8 97,.int .u8 98,.int .u8 99] 5 (3,4))) (DPost _ [97,98,100])from delta_in f xs r0 L b3 b4 iA 1 _ 3 3 _ (HTB.out.ext (zxt HE.out hea)) (HF.out.ext hea) HOP.out (by decide) (by decide) (bs_abc w5 (3,4)) (by decide)).mono ?_;intro e w6 hd;obtain⟨A6,c6,rfl,hB6,hE6⟩:=dpost_n hd 3 rfl;replace hE6:=zxt hea hE6;replace HE:=zh (zxt HE.out hE6);replace HF:=zh (HF.out.ext hE6);replace HB5:=zh (HB5.out.ext hE6);have HB6:=zh hB6;clear hd hB6 hE6 hea;have HKY:Hid (Calls Tryz.prog 12 #[.pointer (some ⟨f,0,none⟩),.int .i64 2] w6 (DPost w6 [120])):=zh (key_in f xs r0 L b3 b4 iA 2 w6 (HTB.out.ext HE.out) HF.out HOP.out (by decide) (by decide));go_wp2_with fail;refine(HKY.out).mono ?_;intro e w7 hd;obtain⟨A7,c7,rfl,hB7,hE7⟩:=dpost_n hd 1 rfl;replace HE:=zh (zxt HE.out hE7);replace HF:=zh (HF.out.ext hE7);replace HB5:=zh (HB5.out.ext hE7);replace HB6:=zh (HB6.out.ext hE7);have HB7:=zh hB7;clear hd hB7 hE7 HKY;have HFO:Hid (Calls Tryz.prog 14 #[.pointer (some ⟨f,0,none⟩),.int .i64 3] w7 (NPost w7 8)):=zh (frame_out f xs r0 b3 b4 iA 3 w7 HF.out (by decide))
 go_wp2_with fail;refine(HFO.out).mono ?_;rintro e w8 ⟨rfl,hE8⟩;replace HE:=zh (zxt HE.out hE8);have hsz:=size_st f xs r0 b3 b4 iA w8 (HF.out.ext hE8);rw[HLN.out]at hsz;have HSZ:=zh hsz;have q5:=conv8 (HB5.out.ext hE8) c5;have q6:=conv8 (HB6.out.ext hE8) c6;have q7:=conv8 (HB7.out.ext hE8) c7;rw[str_abd]at q5 q6;rw[str_x]at q7;clear hE8 HFO hsz HF HB5 HB6 HB7;go_wp2_with fail;refine(HSZ.out).mono ?_;rintro e w' ⟨rfl,rfl⟩;go_wp2_with fail;go_ret;exact⟨rfl,HE.out⟩
def Lit (x:Hv) (evs:List Ev) (tr:Tk) (ts:List ByteArray):Prop:=
 x.tiles.size≤4200∧x.starts.length≤200∧evs.length≤200∧ts.length≤40∧Trk.Small tr∧∀s∈ts,s.size≤500
def LPost (w:World) (x:Hv) (evs:List Ev) (tr:Tk) (ts:List ByteArray) (e:Ending) (w':World):Prop:=
 ∃b,e= .returned (.bool b)∧Ext w w'∧(b=false→Lit x evs tr ts)
theorem big_st (p:Pv) (x:Hv) (evs:List Ev) (N KI:Int) (tr:Tk) (ts:List ByteArray) (w:World) (h:RfP w p x evs tr ts) (h1:x.tiles.size≤9223372036854775807) (h2:x.starts.length≤9223372036854775807) (h3:evs.length≤9223372036854775807) (h4:ts.length≤9223372036854775807) (h5:∀s∈ts,s.size≤9223372036854775807):
  Calls Tryz.prog 7 #[.agg (cPa x (.slice p.A x.starts.length p.c) (.slice p.Al evs.length p.cl) N KI p.t (.slice p.Af ts.length p.cf))] w (LPost w x evs tr ts):=by
 have HE0:=zh (zxa (zxr w) (.cells (cPa x (.slice p.A x.starts.length p.c) (.slice p.Al evs.length p.cl) N KI p.t (.slice p.Af ts.length p.cf)) 34));have HH0:=zh (Blk.new w 34 (cPa x (.slice p.A x.starts.length p.c) (.slice p.Al evs.length p.cl) N KI p.t (.slice p.Af ts.length p.cf)));have HTR:=zh (fun(w':World) (e:Ext w w')=>Trk.great_tr p.t tr w' (h.2.2.1.ext e));have HP:=zh h.2.2.2;have HSZ:=zh h5;clear h h5;obtain⟨A,c,Al,cl,⟨⟨A0,n0,c0⟩,⟨A1,n1,c1⟩,⟨A2,n2,c2⟩,⟨A3,n3,c3⟩,⟨Am,nm,cm⟩⟩,Af,cf⟩:=p;obtain⟨xw,xh,xp,xs,xt,us⟩:=x;simp only[cPa,Tv.cells]at HE0 HH0 HTR ⊢;simp only at h1 h2;obtain⟨q1,hq1⟩:∃q,us.length=q:=⟨_,rfl⟩;obtain⟨q2,hq2⟩:∃q,evs.length=q:=⟨_,rfl⟩;obtain⟨m,hm⟩:∃q,ts.length=q:=⟨_,rfl⟩;obtain⟨z,hz⟩:∃q,xt.size=q:=⟨_,rfl⟩;rw[hq1,hq2,hm]at HE0 HH0 ⊢;rw[hq1]at h2;rw[hq2]at h3;rw[hm]at h4;rw[hz]at h1;have HM:=zh hm;have HQ1:=zh hq1;have HQ2:=zh hq2;clear hq1 hq2 hm;go_enter Tryz.func7,Tryz.ntmps7;go_upto_region 1 with fail;obtain⟨w0,hw0⟩:∃q,q=w.alloc (.cells #[.int .i64 xw,.int .i64 xh,.int .i64 xp,.int .u32 (xs:Int),.string xt,.slice A q1 c,.slice Al q2 cl,.int .i64 N,.int .i64 KI,.slice A0 n0 c0,.slice A1 n1 c1,.slice A2 n2 c2,.slice A3 n3 c3,.slice Am nm cm,.slice Af m cf] 34):=⟨_,rfl⟩;rw[←hw0]at HE0 HH0 ⊢;clear hw0;generalize w.heap.size=hb at*;have d4:=HH0.out.cell 4;have d5:=HH0.out.cell 5;have d6:=HH0.out.cell 6;have d9:=HH0.out.cell 9;have d10:=HH0.out.cell 10;have d11:=HH0.out.cell 11;have d12:=HH0.out.cell 12;have d13:=HH0.out.cell 13;have d14:=HH0.out.cell 14;simp only[zzD,zzE,zzF]at d4 d5 d6 d9 d10 d11 d12 d13 d14
 have HZ:=zh hz;have hz':(xt.size:Int)=(z:Int):=by rw[hz]
 by_cases g1:4200<z
 ·have g1':(4200:Int)<(z:Int):=by omega
  go_wp2_with fail;go_ret;exact⟨true,rfl,HE0.out,fun h=>by cases h⟩
 have g1':¬(4200:Int)<(z:Int):=by omega
 by_cases g2:200<q1
 ·have g2':(200:Int)<(q1:Int):=by omega
  go_wp2_with fail;go_ret;exact⟨true,rfl,HE0.out,fun h=>by cases h⟩
 have g2':¬(200:Int)<(q1:Int):=by omega
 by_cases g3:200<q2
 ·have g3':(200:Int)<(q2:Int):=by omega
  go_wp2_with fail;go_ret;exact⟨true,rfl,HE0.out,fun h=>by cases h⟩
 have g3':¬(200:Int)<(q2:Int):=by omega
 by_cases g4:40<m
 ·have g4':(40:Int)<(m:Int):=by omega
  go_wp2_with fail;go_ret;exact⟨true,rfl,HE0.out,fun h=>by cases h⟩
 have g4':¬(40:Int)<(m:Int):=by omega
 go_wp2_with fail;refine(HTR.out _ HE0.out).mono ?_;rintro e w1 ⟨b,rfl,hE1,hsm⟩;have HE1:=zh hE1;have HSM:=zh hsm;clear hE1 hsm d4 d5 d6 d9 d10 d11 d12 d13 d14 HTR
 cases b with
 | true=>
  go_wp2_with fail;go_ret;exact⟨true,rfl,zxt HE0.out HE1.out,fun h=>by cases h⟩
 | false=>
  have HEA:=zh (zxt HE0.out HE1.out);have d14:=(HH0.out.ext HE1.out).cell 14;simp only[zzD,zzE,zzF]at d14;go_wp2_with fail
  go_loopg [3] m (fun gh iv wr=>∃(k:Nat),k+gh=m∧iv= .int .i64 (k:Int)∧wr=w1∧∀j (hj:j<ts.length),j<k→ts[j].size≤500)
  case atStart=>exact⟨0,by omega,rfl,rfl,fun j _ h=>absurd h (by omega)⟩
  case round=>
   obtain⟨k,hk,rfl,rfl,hpre⟩:=hrel;obtain⟨gh,rfl⟩:∃gh:Nat,gh=gk:=⟨_,rfl⟩;have HPRE:=zh hpre;clear hpre;have y1:(0:Int)≤(k:Int):=by omega
   by_cases hlt:k<m
   ·have y2:(k:Int)<(m:Int):=by omega
    have hkl:k<ts.length:=by rw[HM.out];exact hlt
    obtain⟨bs,os,hAf,hbw,hcell⟩:=HP.out.2 (by show 0<ts.length;omega)
    try simp only at hAf
    subst hAf;have hst:=kc HEA.out (hcell k hkl 0 (by omega));have HTS:=zh (HSZ.out _ (zw25 hkl));have HNX:Hid (ts[k].size≤500→∀j (hj:j<ts.length),j<k+1→ts[j].size≤500):=zh (fun h j hj hji=>by
     by_cases hji2:j=k
     ·subst hji2;exact h
     ·exact HPRE.out j hj (by omega))
    generalize ts[k]=T at hst HTS HNX;simp only[cT,List.getElem?_cons_zero,Nat.mul_one,Nat.add_zero]at hst;clear hcell HPRE;obtain⟨u,hu⟩:∃q,T.size=q:=⟨_,rfl⟩;have hu':(T.size:Int)=(u:Int):=by rw[hu]
    by_cases g5:500<u
    ·have g5':(500:Int)<(u:Int):=by omega
     go_wp2_with fail;go_ret;exact⟨true,rfl,HEA.out,fun h=>by cases h⟩
    have g5':¬(500:Int)<(u:Int):=by omega
    go_wp2_with fail
    go_roundg (gh-1)
    case measure=>omega
    case rel=>exact⟨k+1,by omega,by go_num,rfl,HNX.out (by rw[hu];omega)⟩
   ·obtain rfl:gh=0:=by omega
    have y2:¬(k:Int)<(m:Int):=by omega
    go_wp2_with fail;go_ret;refine⟨false,rfl,HEA.out,fun _=>⟨by show xt.size≤4200;omega,by show us.length≤200;have:=HQ1.out;omega,by have:=HQ2.out;omega,by have:=HM.out;omega,HSM.out (by first | trivial | rfl),fun s hs=>?_⟩⟩;obtain⟨j,hj,rfl⟩:=List.getElem_of_mem hs;exact HPRE.out j hj (by have:=HM.out;omega)
end Go.Proofs.YtidnboeihkeljaaGreatDoor.Fil
