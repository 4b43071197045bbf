/- Law 20: FileBack, walked from where its file is built. -/
import Derived.Test.YtidnboeihkeljaaGreatDoorF29
set_option maxHeartbeats 16000000
set_option maxRecDepth 100000
set_option linter.all false
open Go.ChangeShapes Go.WideShapes Go.ChangeAt Go.RowKit
namespace Go.Proofs.YtidnboeihkeljaaGreatDoor.Fil
open Wire
open Rec
open Trk (Sl Tv Tk TkV RfV mayT encT Within Small Room)
open Log (Hv Ev cH cV mayH putL encH)
theorem wi_in {w w':World} {b:Bool} {T:List Nat} {e:Ending} (h:WiPost w b T e w'):Ext w w'∧∃v ec,e= .returned (.tuple #[v,.int .i64 ec])∧(b=true→ec=0∧OwnB w.heap.size w' v T)∧(b=false→ec=2∧v= .slice none 0 0):=by
  refine⟨h.1,?_⟩
  cases b with
  | true=>obtain⟨v,rfl,hO⟩:=h.2.1 rfl;exact⟨v,0,rfl,fun _=>⟨rfl,hO⟩,fun q=>by cases q⟩
  | false=>exact⟨_,2,h.2.2 rfl,(fun q=>by cases q),fun _=>⟨rfl,rfl⟩⟩
def tl:Nat→Code→Code
  | 0,c=>c
  | n+1,.seq _ b=>tl n b
  | _,c=>c
theorem back_tail (w w8 : World) (p : Pv) (x : Hv) (evs : List Ev) (N KI : Int) (tr : Tk) (tv : Tv) (tr2 : Tk) (ts : List ByteArray) (Z1 Z2 : List Nat) (F : World → Nat → Prop) (at_ ch hb gb ub g cz : Nat) (t' : Tv) (cur : Array Value) (hk : Kit w p x evs N KI tr tv tr2 ts Z1 Z2 F)
    (hWK:∀W,Ext w W→Calls Tryz.prog 8 #[] W fun e w'=>e= .returned (.bool true)∧Ext W w') (hMT:∀W,Ext w W→Calls Tryz.prog 22 #[.agg tv.cells,.int .i64 N] W fun e w'=>e= .returned (.bool (mayT N tr2))∧Ext W w') (hT:Crc.Tab w) (hE:Ext w w8)
    (hH:Blk w8 hb 34 (cPa x (.slice p.A x.starts.length p.c) (.slice p.Al evs.length p.cl) N KI p.t (.slice p.Af ts.length p.cf))) (hG:Blk w8 gb 31 tv.cells) (hU:Blk w8 ub 40 t'.cells) (hTk:TkV w8 t' tr2)
    (hcur:Blk w8 g 5 cur) (hcc:∀j,j<Z1.length→cur[j]? =some (.int .u8 (Z1.getD j 0:Nat))) (hgb:w.heap.size≤g) (z1':Z1.length≤cz) (z2':cz≤9223372036854775807) (hat:at_<65536) (hch:ch<256) {z0 z1 z6 z7 z9 z10 z12 z15 z16 z17 z18 z19 z20 z21 z22 z23 z24 z25 z26 z27 z28 z29 z30 z31 z32 z33 z34 z35 z36 z37 z38 z39 z40 z41 z42 z43 z44 z45 z46 z47 z48 z49 z50 z51 z52 z53 z54 z55 z56 z57 z58 z59 z60 z61 z62 z63 z64 z65 z66 z67 z68 z69 z70 z71 z72 z73 z74 z75 z76 z77 z78 z79 z80 z81 z82 z83 z84 z85 z86 z87 z88 z89 z90 z91 z92 z93 z94 z95 z96 z97 z98 z99 z100 z101 z102 z103 z104 z105 z106 z107 z108 z109 z110 z111 z112 z113 z114 z115 z116 z117 z118 z119 z120 z121 z122 z123 z124 z125 z126 z127 z128 z129 z130 z131 z132 z133 z134 z135 z136:Value}:
    Code.wp Tryz.prog (tl 5 (Tryz.f5.body.getD .skip)) (bodyPost Tryz.prog Tryz.f5 fun e w'=>e= .returned (.bool true)∧Ext w w') {tmps:= #[z0,z1,.int .u16 (at_:Int),.int .u8 (ch:Int),.pointer (some ⟨hb,0,none⟩),.pointer (some ⟨gb,0,none⟩),z6,z7,.bool false,z9,z10,.pointer (some ⟨ub,0,none⟩),z12,.slice (some ⟨g,0,none⟩) Z1.length cz,.int .i64 0,z15,z16,z17,z18,z19,z20,z21,z22,z23,z24,z25,z26,z27,z28,z29,z30,z31,z32,z33,z34,z35,z36,z37,z38,z39,z40,z41,z42,z43,z44,z45,z46,z47,z48,z49,z50,z51,z52,z53,z54,z55,z56,z57,z58,z59,z60,z61,z62,z63,z64,z65,z66,z67,z68,z69,z70,z71,z72,z73,z74,z75,z76,z77,z78,z79,z80,z81,z82,z83,z84,z85,z86,z87,z88,z89,z90,z91,z92,z93,z94,z95,z96,z97,z98,z99,z100,z101,z102,z103,z104,z105,z106,z107,z108,z109,z110,z111,z112,z113,z114,z115,z116,z117,z118,z119,z120,z121,z122,z123,z124,z125,z126,z127,z128,z129,z130,z131,z132,z133,z134,z135,z136],defers:=[]} w8:=by
  have HBL:=zh hcur;have HCC:=zh hcc;have HBZ:=zh (Chk.bs_blk hcur hcc hk.sm);have HGB:=zh hgb;obtain⟨lz,hlz⟩:∃q,q=Z1.length:=⟨_,rfl⟩;have hln:=hk.len;rw[←hlz]at HBZ z1' hln ⊢;have HLZ:=zh hlz;obtain⟨hlz1,hlz2⟩:=hln;have HZC:=zh (And.intro z1' z2');have HE4:=zh hE;have HH4:=zh hH;have HG4:=zh hG;have HU4:=zh hU;have HT4:=zh hTk;have HTB:=zh hT;have HWK:=zh hWK;have HMT:=zh hMT;have HR1:=zh hk.rd1;have HR2:=zh hk.rd2;have HOP:=zh hk.op;have HWI:=zh hk.wi;have HBA:=zh hk.bad;have HSM:=zh hk.sm;have HS2:=zh hk.sm2;clear hcur hcc hgb hlz z1' z2' hE hH hG hU hTk hT hWK hMT hk;obtain⟨A,c,Al,cl,⟨⟨A0,n0,c0⟩,⟨A1,n1,c1⟩,⟨A2,n2,c2⟩,⟨A3,n3,c3⟩,⟨Am,nm,cm⟩⟩,Af,cf⟩:=p;obtain⟨⟨E0,l0,j0⟩,⟨E1,l1,j1⟩,⟨E2,l2,j2⟩,⟨E3,l3,j3⟩,⟨Em,lm,jm⟩⟩:=tv;obtain⟨⟨D0,o0,v0⟩,⟨D1,o1,v1⟩,⟨D2,o2,v2⟩,⟨D3,o3,v3⟩,⟨Dm,om,vm⟩⟩:=t';obtain⟨xw,xh,xp,xs,xt,us⟩:=x;simp only[cPa,Tv.cells]at HH4 HG4 HU4 HMT HR1 HR2;generalize us.length=q1 at*;generalize evs.length=q2 at*;generalize ts.length=m at*;show Code.wp Tryz.prog (Code.seq _ _) (bodyPost Tryz.prog Tryz.f5 _) _ _;have HRA:=zh (HR1.out w8 _ _ _ HE4.out HBZ.out HZC.out.1 HZC.out.2);have hh:=fun i=>HH4.out.cell i;go_wp2_with fail;refine(HRA.out).mono ?_;rintro e w9 ⟨rfl,hE⟩;replace HE4:=zh (zxt HE4.out hE);replace HH4:=zh (HH4.out.ext hE);replace HG4:=zh (HG4.out.ext hE);replace HU4:=zh (HU4.out.ext hE);replace HT4:=zh (HT4.out.ext hE);replace HBL:=zh (HBL.out.ext hE);replace HBZ:=zh (HBZ.out.ext hE);clear hE hh HRA HR1;have HOA:=zh (HOP.out w9 _ _ _ HE4.out HBZ.out HZC.out.1 HZC.out.2)
  go_wp2_with fail;refine(HOA.out).mono ?_;rintro e w10 ⟨f,rfl,hF,hE⟩;have HF:=zh hF;replace HE4:=zh (zxt HE4.out hE);replace HH4:=zh (HH4.out.ext hE);replace HG4:=zh (HG4.out.ext hE);replace HU4:=zh (HU4.out.ext hE);replace HT4:=zh (HT4.out.ext hE);replace HBL:=zh (HBL.out.ext hE);replace HBZ:=zh (HBZ.out.ext hE);clear hE hF HOA HOP;have HWA:=zh (HWI.out w10 f _ HE4.out HF.out HT4.out);simp only[Tv.cells]at HWA;have hu:=fun i=>HU4.out.cell i;go_wp2_with fail;refine(HWA.out).mono ?_;rintro e w11 hwp;obtain⟨hE,v9,ec,rfl,hv1,hv2⟩:=wi_in hwp;have HV1:=zh hv1;have HV2:=zh hv2;replace HE4:=zh (zxt HE4.out hE);replace HH4:=zh (HH4.out.ext hE);replace HG4:=zh (HG4.out.ext hE);replace HBL:=zh (HBL.out.ext hE);replace HBZ:=zh (HBZ.out.ext hE);clear hwp hE hv1 hv2 hu HWA HU4 HT4 HF HWI;generalize hmt:mayT N tr2=mt at HV1 HV2 HS2 HR2 HMT;clear hmt;have hh:=fun i=>HH4.out.cell i;have hg:=fun i=>HG4.out.cell i;go_wp2_with fail;refine(HMT.out _ HE4.out).mono ?_;rintro e w12 ⟨rfl,hE⟩;replace HE4:=zh (zxt HE4.out hE);replace HH4:=zh (HH4.out.ext hE);replace HG4:=zh (HG4.out.ext hE);replace HBL:=zh (HBL.out.ext hE);replace HBZ:=zh (HBZ.out.ext hE);have HE9:Hid (Ext w11 w12):=zh hE;clear hh hg hE HMT
  go_upto_if 84 with fail
  go_cut [] (fun wx=>Ext w12 wx)
  case first=>
    cases mt with
    | false=>
      obtain⟨rfl,rfl⟩:=HV2.out (by first | rfl | trivial);go_wp2_with fail;go_meet;exact zxr _
    | true=>
      obtain⟨hec,hO⟩:=HV1.out (by first | rfl | trivial);obtain⟨A9,c9,rfl,z1,z2,_⟩:=hO.shape;have HRB:=zh (fun W (e:Ext w12 W)=>HR2.out (by first | rfl | trivial) W _ _ _ (zxt HE4.out e) (((hO.bs (HS2.out (by first | rfl | trivial))).2.ext HE9.out).ext e) z1 (show c9≤9223372036854775807 from z2));have hz0:(ec != 0)=false:=by rw[hec];rfl
      clear hec hO z1 z2 HV1 HV2 HR2 HS2;have hh:=fun i=>HH4.out.cell i;have hg:=fun i=>HG4.out.cell i;go_upto_region 16 with fail;have HQ:=zh (Blk.new w12 34 #[.int .i64 xw,.int .i64 xh,.int .i64 xp,.int .u32 (xs:Int),.string xt,.slice A q1 c,.slice Al q2 cl,.int .i64 N,.int .i64 KI,.slice A0 n0 c0,.slice A1 n1 c1,.slice A2 n2 c2,.slice A3 n3 c3,.slice Am nm cm,.slice Af m cf]);have HE13:=zh (zxa (zxr w12) (.cells #[.int .i64 xw,.int .i64 xh,.int .i64 xp,.int .u32 (xs:Int),.string xt,.slice A q1 c,.slice Al q2 cl,.int .i64 N,.int .i64 KI,.slice A0 n0 c0,.slice A1 n1 c1,.slice A2 n2 c2,.slice A3 n3 c3,.slice Am nm cm,.slice Af m cf] 34));have HQB:Hid (w12.heap.size≤w12.heap.size):=zh (zw8 _);obtain⟨w13,hw13⟩:∃q,q=w12.alloc (.cells #[.int .i64 xw,.int .i64 xh,.int .i64 xp,.int .u32 (xs:Int),.string xt,.slice A q1 c,.slice Al q2 cl,.int .i64 N,.int .i64 KI,.slice A0 n0 c0,.slice A1 n1 c1,.slice A2 n2 c2,.slice A3 n3 c3,.slice Am nm cm,.slice Af m cf] 34):=⟨_,rfl⟩;rw[←hw13]at HQ HE13 ⊢;obtain⟨qb,hqb⟩:∃q,q=w12.heap.size:=⟨_,rfl⟩;replace HQB:Hid (w12.heap.size≤qb):=zh (by rw[hqb];exact zw8 _);rw[←hqb]at HQ ⊢;clear hw13 hqb hh hg;have HG13:=zh (HG4.out.ext HE13.out);have hg:=fun i=>HG13.out.cell i;have hq:=fun i=>HQ.out.cell i;have hf:=fun i=>HQ.out.frozen i;go_upto_region 17 with fail;clear hg hq hf;have HE14:=zh (ext_set (ext_set (ext_set (ext_set (ext_set (HE13.out) (p:=⟨qb,9,none⟩) HQB.out (.slice E0 l0 j0)) (p:=⟨qb,10,none⟩) HQB.out (.slice E1 l1 j1)) (p:=⟨qb,11,none⟩) HQB.out (.slice E2 l2 j2)) (p:=⟨qb,12,none⟩) HQB.out (.slice E3 l3 j3)) (p:=⟨qb,13,none⟩) HQB.out (.slice Em lm jm))
      replace HQ:=zh ((((((HQ.out).set_ 9 (.slice E0 l0 j0)).set_ 10 (.slice E1 l1 j1)).set_ 11 (.slice E2 l2 j2)).set_ 12 (.slice E3 l3 j3)).set_ 13 (.slice Em lm jm));simp only[zzA,zzB,zzC]at HQ;obtain⟨w14,hw14⟩:∃q,q=(((((w13).setCell ⟨qb,9,none⟩ (.slice E0 l0 j0)).setCell ⟨qb,10,none⟩ (.slice E1 l1 j1)).setCell ⟨qb,11,none⟩ (.slice E2 l2 j2)).setCell ⟨qb,12,none⟩ (.slice E3 l3 j3)).setCell ⟨qb,13,none⟩ (.slice Em lm jm):=⟨_,rfl⟩;rw[←hw14]at HQ HE14 ⊢;clear hw14;have hq:=fun i=>HQ.out.cell i;go_wp2_with fail;refine(HRB.out _ HE14.out).mono ?_;rintro e w15 ⟨rfl,hE⟩;have HE15:=zh (zxt HE14.out hE);clear hE hq HRB;go_wp2_with fail;go_meet;exact HE15.out
  case rest=>
    have HE:=zh hcut;clear hcut;obtain⟨w20,rfl⟩:∃z,z=wc:=⟨_,rfl⟩;replace HE4:=zh (zxt HE4.out HE.out);replace HBL:=zh (HBL.out.ext HE.out);clear HE HE9 HBZ HH4 HG4 HV1 HV2 HR2 HS2;by_cases h0:ch=0
    · have hb0:((ch:Int)==0)=true:=beq_iff_eq.2 (by omega)
      clear h0;go_wp2_with fail;refine(HWK.out _ HE4.out).mono ?_;rintro e wz ⟨rfl,hE⟩;have HEz:=zh (zxt HE4.out hE);clear hE;go_wp2_with fail;go_ret;exact⟨rfl,HEz.out⟩
    have hb0:((ch:Int)==0)=false:=zw12.2 (by omega);obtain⟨i,hi⟩:∃z,z=at_%lz:=⟨_,rfl⟩;have hil:i<lz:=by rw[hi];exact Nat.mod_lt _ (by omega)
    have HIL:Hid (i<Z1.length):=zh (by rw[←HLZ.out];exact hil);have e1:(at_:Int).tmod (lz:Int)=(i:Int):=by rw[hi];rfl
    have e2:(at_:Int)%(lz:Int)=(i:Int):=by rw[hi];rfl
    have e3:¬(lz:Int)=0:=by omega
    have e7:¬lz=0:=by omega
    have e4:IntKind.i64.wrap (at_:Int)=(at_:Int):=IntWalk.i64_in _ (by omega);have e5:IntKind.i64.wrap (i:Int)=(i:Int):=IntWalk.i64_in _ (by omega);have e6:wrap64 (i:Int)=(i:Int):=IntWalk.wrap64_in _ (by omega);have k1:(0:Int)≤(i:Int):=by omega
    have k2:(i:Int)<(lz:Int):=by omega
    obtain⟨y,hy,hxy,hyn⟩:=Chk.xor8_ne (HSM.out i) hch h0;have HPU:=zh (fun(W:World) (h:Blk W g 5 cur)=>Chk.blk_put h HCC.out i y);have HBX:=zh (HBA.out i y HIL.out hy hyn);have HSY:=zh (Chk.set_small HSM.out (i:=i) hy);have HYL:Hid ((Z1.set i y).length=lz):=zh (by rw[List.length_set,HLZ.out]);have hc0:=HCC.out i HIL.out;generalize Z1.getD i 0=xv at hxy hc0;have HC0:=zh hc0;clear hi hyn h0 HBA HSM hc0;go_upto_region 21 with fail;replace HBL:=zh (HBL.out.ext (zxd (zxr w20)));replace HE4:=zh (zxd HE4.out);refine zw38 (S:=fun _=>True) hmxF trivial (fun _=>?_);generalize w20.drew=WA at*
    iterate 14
     refine zqU (v:=?_) trivial rfl ?_ ?_;rotate_left
     · intro w' hSw;go_simp;try with_reducible rfl
     (try simp only[Act.put,zzA,zzB,zzC])
    refine zqO (i:=13) (by kernel_rfl) rfl fun K hK=>?_;have p0:=HBL.out.cell i;rw[HC0.out]at p0;go_simp;clear p0;refine hK.out _ _ trivial fun _=>?_;clear hK K
    (try simp only[Act.put,zzA,zzB,zzC])
    iterate 2
     refine zqU (v:=?_) trivial rfl ?_ ?_;rotate_left
     · intro w' hSw;go_simp;try with_reducible rfl
     (try simp only[Act.put,zzA,zzB,zzC])
    refine zqO (i:=17) (by kernel_rfl) rfl fun K hK=>?_;have p0:=HBL.out.cell i;rw[HC0.out]at p0;have p1:=HBL.out.frozen i;go_simp;clear p0 p1;refine hK.out _ _ trivial fun _=>?_;clear hK K
    (try simp only[Act.put,zzA,zzB,zzC])
    refine zw39 (by kernel_rfl) ?_ _;have HB7:=zh (HPU.out _ HBL.out);have HE7:=zh (ext_set HE4.out (p:=⟨g,i,none⟩) HGB.out (.int .u8 (y:Int)));have HS7:=zh (Chk.bs_blk HB7.out.1 HB7.out.2 HSY.out);rw[HYL.out]at HS7;have HO7:=zh (HBX.out _ _ _ cz (HTB.out.ext HE7.out) HS7.out HZC.out.1 HZC.out.2);generalize WA.setCell ⟨g,i,none⟩ (.int .u8 (y:Int))=w21 at*;go_wp2_with fail;refine(HO7.out).mono ?_;rintro e w22 ⟨rfl,hE⟩;have HE22:=zh (zxt HE7.out hE);clear hE;go_wp2_with fail;refine(HWK.out _ HE22.out).mono ?_;rintro e w23 ⟨rfl,hE⟩;have HE23:=zh (zxt HE22.out hE);clear hE;go_wp2_with fail;go_ret;exact⟨rfl,HE23.out⟩
end Go.Proofs.YtidnboeihkeljaaGreatDoor.Fil
