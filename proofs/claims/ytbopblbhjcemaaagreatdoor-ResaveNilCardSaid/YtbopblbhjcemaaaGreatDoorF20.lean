
import Derived.Test.YtbopblbhjcemaaaGreatDoorF21
set_option maxHeartbeats 16000000
set_option maxRecDepth 100000
set_option linter.all false
open Go.ChangeShapes Go.WideShapes Go.ChangeAt Go.RowKit
namespace Go.Proofs.YtbopblbhjcemaaaGreatDoor.Log
open Wire
open Rec
theorem infoS:(Tryz.prog.info? 110).map (fun i=>(i.zero,i.size,i.bytes))=some (some (.agg #[.int .u8 0,.int .u8 0,.int .i64 0]),3,16):=by kernel_rfl
theorem own_blk1 {α:Type} {b q:Nat} {w w':World} {e t:TypeId} {k:Nat} {f:α→List Value} {v:Value} {xs:List α} {cs:Array Value} (h:OwnR b w e k f v xs) (hg:w.grownBy w' v.ownBlock) (hB:Blk w q t cs) (hq:q<b):Blk w' q t cs:=
 (hg.block q hB.lt (fun e=>by have:=(zw23 h q e.symm).1;omega)).trans hB
theorem takeHeader_st (A:Option Addr) (m c:Nat) (xs:List Nat) (w:World) (hB:Bs w A m xs) (hnil:A=none→m=0∧c=0) (hm:m≤1000000):
  Calls Tryz.prog 56 #[.slice A m c] w (ThPost w xs):=by
 have hE0:=zxa (zxr w) (.cells zeroH 56);have HZB:=zh (Blk.new w 56 zeroH);have HOF:=zh (of_st A m c xs _ (hB.ext hE0) hnil (by omega));have HSM:Hid (∀c∈xs,c<256):=zh (mem_small hB.2.1);have HTH:=zh (thL_eq xs);have HS6:=zh (s6_none xs);have tlen:=zh (tiles_len xs (fun st L e1 e2=>s4_small xs HSM.out L (e1▸e2.symm)));have HE00:=zh hE0;clear hB hnil hE0;unfold zeroH at HOF;go_enter Tryz.func56,Tryz.ntmps56;go_wp2_with fail
 go_step3
 go_wp2_with fail;refine(HOF.out).mono ?_;rintro e w2 ⟨g,A',c',rfl,hg,hS,hE2,hfar⟩;have HLV0:Hid (w.heap.size<w2.heap.size∧w.heap.size<g∧g<w2.heap.size):=zh (by
  have h1:=hE2.size;rw[zw22]at h1 hg;exact⟨by omega,by omega,hS.lt⟩)
 have HR0:=zh hS.rin;have HZ0:=zh ((HZB.out.ext hE2).alloc (.cells zeroH 56));have HH0:=zh (Blk.new w2 56 zeroH);have HE0:=zh (zxa (zxt HE00.out hE2) (.cells zeroH 56));have HS0:=zh (hS.ext (zxa (zxr w2) (.cells zeroH 56)));have HSZ0:Hid (w2.heap.size+1≤(w2.alloc (.cells zeroH 56)).heap.size):=zh (by rw[zw22];omega);clear hS hE2 hg hfar HZB HOF HE00;go_upto_region 3 with fail;unfold zeroH at HZ0 HH0 HE0 HS0 HSZ0;obtain⟨w3,hw3⟩:∃q,q=w2.alloc (.cells #[.int .i64 0,.int .i64 0,.int .i64 0,.int .u32 0,.string ⟨#[]⟩,.slice none 0 0] 56):=⟨_,rfl⟩;rw[←hw3]at HZ0 HH0 HE0 HS0 HSZ0 ⊢;clear hw3;obtain⟨rb,hrb⟩:∃q,q=w.heap.size:=⟨_,rfl⟩;obtain⟨B1,hB1⟩:∃q,q=w2.heap.size:=⟨_,rfl⟩;have HLV:Hid (∃hb,hb=w2.heap.size∧rb<hb∧rb<g∧g<hb∧w.heap.size≤hb∧B1≤hb∧w.heap.size≤g∧rb=w.heap.size):=zh ⟨_,rfl,by have:=HLV0.out;omega⟩;rw[←hrb]at HZ0 ⊢;rw[←hB1]at HR0;obtain⟨hb,hhb,HLV1⟩:=HLV.out;rw[←hhb]at HH0 HSZ0 ⊢;replace HLV:=zh HLV1;clear hrb hB1 hhb HLV0 HLV1;have HC0:=zh (show Calls Tryz.prog 60 #[.pointer (some ⟨g,0,none⟩)] w3 (fun e w'=>e= .returned (.int .i64 ((va pI 0 (some xs):Nat):Int))∧va pI 0 (some xs)≤2147483647∧RSt w' g A' m c' xs (s1 xs)∧w3.grownBy w' (some g))from int_st g m c' A' xs (some xs) w3 HS0.out);go_wp2_with fail;refine(HC0.out).mono ?_;rintro e wa0 ⟨rfl,hz0,hS,hG⟩;clear HC0;generalize va pI 0 (some xs)=z1 at*;have hB:=blk_kept HH0.out hG (by have:=HLV.out;omega);have hBr:=blk_kept HZ0.out hG (by have:=HLV.out;omega);have hEa:Ext w wa0:=ext_grown HE0.out hG (fun q e=>by cases e;have:=HLV.out;omega)
 have hza:=zw10 HSZ0.out hG.size;have hc:=fun i=>hB.cell i;have hfz:=fun i=>hB.frozen i;have HBa:=zh hB;have HBra:=zh hBr;have HEa:=zh hEa;have HSa:=zh hS;have HZa:=zh hza;clear hB hBr hEa hS hG hza HS0 HH0 HZ0 HE0 HSZ0;go_upto_region 4 with fail;have HH1:Hid (Blk (wa0.setCell ⟨hb,0,none⟩ (.int .i64 (z1:Int))) hb 56 #[.int .i64 (z1:Int),.int .i64 0,.int .i64 0,.int .u32 0,.string ⟨#[]⟩,.slice none 0 0]):=zh (HBa.out.set_ 0 (.int .i64 (z1:Int)));have HZ1:=zh (HBra.out.far (p:=⟨hb,0,none⟩) (by have:=HLV.out;show rb≠hb;omega) (.int .i64 (z1:Int)));have HE1:=zh (ext_set HEa.out (p:=⟨hb,0,none⟩) (by have:=HLV.out;show w.heap.size≤hb;omega) (.int .i64 (z1:Int)));have HS1:=zh (HSa.out.set HR0.out (p:=⟨hb,0,none⟩) (by have:=HLV.out;show B1≤hb;omega) (.int .i64 (z1:Int)));have HSZ1:Hid (hb+1≤(wa0.setCell ⟨hb,0,none⟩ (.int .i64 (z1:Int))).heap.size):=zh (by have:=HZa.out;simpa [World.setCell]using this);obtain⟨wb0,hwn⟩:∃q,q=wa0.setCell ⟨hb,0,none⟩ (.int .i64 (z1:Int)):=⟨_,rfl⟩;rw[←hwn]at HH1 HZ1 HE1 HS1 HSZ1 ⊢;clear hwn hc hfz HBa HBra HEa HSa HZa;have HC1:=zh (show Calls Tryz.prog 60 #[.pointer (some ⟨g,0,none⟩)] wb0 (fun e w'=>e= .returned (.int .i64 ((va pI 0 (s1 xs):Nat):Int))∧va pI 0 (s1 xs)≤2147483647∧RSt w' g A' m c' xs (s2 xs)∧wb0.grownBy w' (some g))from int_st g m c' A' xs (s1 xs) wb0 HS1.out);go_wp2_with fail;refine(HC1.out).mono ?_;rintro e wa1 ⟨rfl,hz1,hS,hG⟩;clear HC1;generalize va pI 0 (s1 xs)=z2 at*;have hB:=blk_kept HH1.out hG (by have:=HLV.out;omega);have hBr:=blk_kept HZ1.out hG (by have:=HLV.out;omega)
 have hEa:Ext w wa1:=ext_grown HE1.out hG (fun q e=>by cases e;have:=HLV.out;omega);have hza:=zw10 HSZ1.out hG.size;have hc:=fun i=>hB.cell i;have hfz:=fun i=>hB.frozen i;have HBa:=zh hB;have HBra:=zh hBr;have HEa:=zh hEa;have HSa:=zh hS;have HZa:=zh hza;clear hB hBr hEa hS hG hza HS1 HH1 HZ1 HE1 HSZ1;go_upto_region 5 with fail;have HH2:Hid (Blk (wa1.setCell ⟨hb,1,none⟩ (.int .i64 (z2:Int))) hb 56 #[.int .i64 (z1:Int),.int .i64 (z2:Int),.int .i64 0,.int .u32 0,.string ⟨#[]⟩,.slice none 0 0]):=zh (HBa.out.set_ 1 (.int .i64 (z2:Int)));have HZ2:=zh (HBra.out.far (p:=⟨hb,1,none⟩) (by have:=HLV.out;show rb≠hb;omega) (.int .i64 (z2:Int)));have HE2:=zh (ext_set HEa.out (p:=⟨hb,1,none⟩) (by have:=HLV.out;show w.heap.size≤hb;omega) (.int .i64 (z2:Int)));have HS2:=zh (HSa.out.set HR0.out (p:=⟨hb,1,none⟩) (by have:=HLV.out;show B1≤hb;omega) (.int .i64 (z2:Int)));have HSZ2:Hid (hb+1≤(wa1.setCell ⟨hb,1,none⟩ (.int .i64 (z2:Int))).heap.size):=zh (by have:=HZa.out;simpa [World.setCell]using this);obtain⟨wb1,hwn⟩:∃q,q=wa1.setCell ⟨hb,1,none⟩ (.int .i64 (z2:Int)):=⟨_,rfl⟩;rw[←hwn]at HH2 HZ2 HE2 HS2 HSZ2 ⊢;clear hwn hc hfz HBa HBra HEa HSa HZa;have HC2:=zh (show Calls Tryz.prog 60 #[.pointer (some ⟨g,0,none⟩)] wb1 (fun e w'=>e= .returned (.int .i64 ((va pI 0 (s2 xs):Nat):Int))∧va pI 0 (s2 xs)≤2147483647∧RSt w' g A' m c' xs (s3 xs)∧wb1.grownBy w' (some g))from int_st g m c' A' xs (s2 xs) wb1 HS2.out);go_wp2_with fail;refine(HC2.out).mono ?_;rintro e wa2 ⟨rfl,hz2,hS,hG⟩;clear HC2;generalize va pI 0 (s2 xs)=z3 at*
 have hB:=blk_kept HH2.out hG (by have:=HLV.out;omega);have hBr:=blk_kept HZ2.out hG (by have:=HLV.out;omega);have hEa:Ext w wa2:=ext_grown HE2.out hG (fun q e=>by cases e;have:=HLV.out;omega);have hza:=zw10 HSZ2.out hG.size;have hc:=fun i=>hB.cell i;have hfz:=fun i=>hB.frozen i;have HBa:=zh hB;have HBra:=zh hBr;have HEa:=zh hEa;have HSa:=zh hS;have HZa:=zh hza;clear hB hBr hEa hS hG hza HS2 HH2 HZ2 HE2 HSZ2;go_upto_region 6 with fail;have HH3:Hid (Blk (wa2.setCell ⟨hb,2,none⟩ (.int .i64 (z3:Int))) hb 56 #[.int .i64 (z1:Int),.int .i64 (z2:Int),.int .i64 (z3:Int),.int .u32 0,.string ⟨#[]⟩,.slice none 0 0]):=zh (HBa.out.set_ 2 (.int .i64 (z3:Int)));have HZ3:=zh (HBra.out.far (p:=⟨hb,2,none⟩) (by have:=HLV.out;show rb≠hb;omega) (.int .i64 (z3:Int)));have HE3:=zh (ext_set HEa.out (p:=⟨hb,2,none⟩) (by have:=HLV.out;show w.heap.size≤hb;omega) (.int .i64 (z3:Int)));have HS3:=zh (HSa.out.set HR0.out (p:=⟨hb,2,none⟩) (by have:=HLV.out;show B1≤hb;omega) (.int .i64 (z3:Int)));have HSZ3:Hid (hb+1≤(wa2.setCell ⟨hb,2,none⟩ (.int .i64 (z3:Int))).heap.size):=zh (by have:=HZa.out;simpa [World.setCell]using this);obtain⟨wb2,hwn⟩:∃q,q=wa2.setCell ⟨hb,2,none⟩ (.int .i64 (z3:Int)):=⟨_,rfl⟩;rw[←hwn]at HH3 HZ3 HE3 HS3 HSZ3 ⊢;clear hwn hc hfz HBa HBra HEa HSa HZa;have HC3:=zh (show Calls Tryz.prog 92 #[.pointer (some ⟨g,0,none⟩)] wb2 (fun e w'=>e= .returned (.int .u32 ((va pF 0 (s3 xs):Nat):Int))∧va pF 0 (s3 xs)<4294967296∧RSt w' g A' m c' xs (s4 xs)∧wb2.grownBy w' (some g))from fixed_st g m c' A' xs (s3 xs) wb2 HS3.out)
 go_wp2_with fail;refine(HC3.out).mono ?_;rintro e wa3 ⟨rfl,hz3,hS,hG⟩;clear HC3;generalize va pF 0 (s3 xs)=z4 at*;have hB:=blk_kept HH3.out hG (by have:=HLV.out;omega);have hBr:=blk_kept HZ3.out hG (by have:=HLV.out;omega);have hEa:Ext w wa3:=ext_grown HE3.out hG (fun q e=>by cases e;have:=HLV.out;omega);have hza:=zw10 HSZ3.out hG.size;have hc:=fun i=>hB.cell i;have hfz:=fun i=>hB.frozen i;have HBa:=zh hB;have HBra:=zh hBr;have HEa:=zh hEa;have HSa:=zh hS;have HZa:=zh hza;clear hB hBr hEa hS hG hza HS3 HH3 HZ3 HE3 HSZ3;go_upto_region 7 with fail;have HH4:Hid (Blk (wa3.setCell ⟨hb,3,none⟩ (.int .u32 (z4:Int))) hb 56 #[.int .i64 (z1:Int),.int .i64 (z2:Int),.int .i64 (z3:Int),.int .u32 (z4:Int),.string ⟨#[]⟩,.slice none 0 0]):=zh (HBa.out.set_ 3 (.int .u32 (z4:Int)));have HZ4:=zh (HBra.out.far (p:=⟨hb,3,none⟩) (by have:=HLV.out;show rb≠hb;omega) (.int .u32 (z4:Int)));have HE4:=zh (ext_set HEa.out (p:=⟨hb,3,none⟩) (by have:=HLV.out;show w.heap.size≤hb;omega) (.int .u32 (z4:Int)));have HS4:=zh (HSa.out.set HR0.out (p:=⟨hb,3,none⟩) (by have:=HLV.out;show B1≤hb;omega) (.int .u32 (z4:Int)));have HSZ4:Hid (hb+1≤(wa3.setCell ⟨hb,3,none⟩ (.int .u32 (z4:Int))).heap.size):=zh (by have:=HZa.out;simpa [World.setCell]using this);obtain⟨wb3,hwn⟩:∃q,q=wa3.setCell ⟨hb,3,none⟩ (.int .u32 (z4:Int)):=⟨_,rfl⟩;rw[←hwn]at HH4 HZ4 HE4 HS4 HSZ4 ⊢;clear hwn hc hfz HBa HBra HEa HSa HZa;have HC4:=zh (show Calls Tryz.prog 93 #[.pointer (some ⟨g,0,none⟩),.int .i64 4096] wb3 (fun e w'=>e= .returned (.string (strOf (va (pT 4096) [] (s4 xs))))∧RSt w' g A' m c' xs (s5 xs)∧wb3.grownBy w' (some g))from text_st g m c' 4096 (by omega) A' xs (s4 xs) wb3 HS4.out)
 go_wp2_with fail;refine(HC4.out).mono ?_;rintro e wa4 ⟨rfl,hS,hG⟩;clear HC4;generalize va (pT 4096) [] (s4 xs)=z5 at*;have htl:=tlen.out;have hB:=blk_kept HH4.out hG (by have:=HLV.out;omega);have hBr:=blk_kept HZ4.out hG (by have:=HLV.out;omega);have hEa:Ext w wa4:=ext_grown HE4.out hG (fun q e=>by cases e;have:=HLV.out;omega);have hza:=zw10 HSZ4.out hG.size;have hc:=fun i=>hB.cell i;have hfz:=fun i=>hB.frozen i;have HBa:=zh hB;have HBra:=zh hBr;have HEa:=zh hEa;have HSa:=zh hS;have HZa:=zh hza;clear hB hBr hEa hS hG hza HS4 HH4 HZ4 HE4 HSZ4;go_upto_region 8 with fail;have HH5:Hid (Blk (wa4.setCell ⟨hb,4,none⟩ (.string (strOf z5))) hb 56 #[.int .i64 (z1:Int),.int .i64 (z2:Int),.int .i64 (z3:Int),.int .u32 (z4:Int),.string (strOf z5),.slice none 0 0]):=zh (HBa.out.set_ 4 (.string (strOf z5)));have HZ5:=zh (HBra.out.far (p:=⟨hb,4,none⟩) (by have:=HLV.out;show rb≠hb;omega) (.string (strOf z5)));have HE5:=zh (ext_set HEa.out (p:=⟨hb,4,none⟩) (by have:=HLV.out;show w.heap.size≤hb;omega) (.string (strOf z5)));have HS5:=zh (HSa.out.set HR0.out (p:=⟨hb,4,none⟩) (by have:=HLV.out;show B1≤hb;omega) (.string (strOf z5)));have HSZ5:Hid (hb+1≤(wa4.setCell ⟨hb,4,none⟩ (.string (strOf z5))).heap.size):=zh (by have:=HZa.out;simpa [World.setCell]using this);obtain⟨wb4,hwn⟩:∃q,q=wa4.setCell ⟨hb,4,none⟩ (.string (strOf z5)):=⟨_,rfl⟩;rw[←hwn]at HH5 HZ5 HE5 HS5 HSZ5 ⊢;clear hwn hc hfz HBa HBra HEa HSa HZa;have HC5:=zh (show Calls Tryz.prog 94 #[.pointer (some ⟨g,0,none⟩)] wb4 (fun e w'=>e= .returned (.int .u64 ((va pN 0 (s5 xs):Nat):Int))∧va pN 0 (s5 xs)<18446744073709551616∧RSt w' g A' m c' xs (s6 xs)∧wb4.grownBy w' (some g))from num_st g m c' A' xs (s5 xs) wb4 HS5.out)
 go_wp2_with fail;refine(HC5.out).mono ?_;rintro e w9 ⟨rfl,hz5,hS,hG⟩;clear HC5;generalize va pN 0 (s5 xs)=left at*;have HREL:Hid (HRel w g A' m c' xs rb hb (hb+1) z1 z2 z3 z4 (strOf z5) ((s6 xs).bind (restS [] left)) left (.bool true) (.int .u64 (left:Int)) w9):=zh<| by
  refine⟨[],[],.slice none 0 0,true,s6 xs,rfl,rfl,hz5,hS,?_,blk_kept HH5.out hG (by have:=HLV.out;omega),OwnR.nil _ _ _ _ _,by simp,(fun _=>⟨rfl,⟨(fun u hu=>by cases hu),by simp⟩⟩),(fun h=>by cases h),(fun u hu=>by cases hu),HS6.out,zw10 HSZ5.out hG.size,ext_grown HE5.out hG (fun q e=>by cases e;have:=HLV.out;omega),rfl⟩;exact blk_kept HZ5.out hG (by have:=HLV.out;omega)
 generalize hO:(s6 xs).bind (restS [] left)=O at HREL HTH;clear hO hS hG HS6 HS5 HE5 HZ5 HH5 HSZ5 hz5 HSM;go_wp2_with fail
 go_step3
 go_wp2_with fail
 go_loopg [6,7] left (fun gh fv kv wr=>HRel w g A' m c' xs rb hb (hb+1) z1 z2 z3 z4 (strOf z5) O gh fv kv wr)
 case atStart=>exact HREL.out
 case round=>
  obtain⟨done,sts,v,fits,st,rfl,rfl,hgh,hS,hZ,hH,hO,hsl,hft,hff,hsf,hst,hsz,hE,hOO⟩:=hrel;obtain⟨wi,rfl⟩:∃wi:World,wi=wr:=⟨_,rfl⟩;obtain⟨gh,rfl⟩:∃gh:Nat,gh=gk:=⟨_,rfl⟩;have HS:=zh hS;have HZ:=zh hZ;have HH:=zh hH;have HO:=zh hO;have HFT:=zh hft;have HFF:=zh hff;have HSF:=zh hsf;have HST:=zh hst;have HSZ:=zh hsz;have HE:=zh hE;have HOO:=zh hOO;clear hS hZ hH hO hft hff hsf hst hsz hE hOO HREL
  cases gh with
  | zero=>
   have HEN:=zh (end_st g m c' A' xs st wi HS.out);go_wp2_with fail;refine(HEN.out).mono ?_;rintro e w5 ⟨x,rfl,hx,hE5⟩;have HX:=zh hx;have HEF:=zh (zxt HE.out hE5);have HZF:=zh (HZ.out.ext hE5);have HHF:=zh (HH.out.ext hE5);have HOF:=zh (HO.out.ext hE5);clear hE5 hx HS HZ HH HO HE;have z0:=fun i=>HZF.out.cell i;have zf:=fun i=>HZF.out.frozen i;have h0:=fun i=>HHF.out.cell i;simp only[zeroH]at z0;by_cases hx0:x=0
   ·have HST0:=zh (HX.out.1 hx0)
    subst hx0;have HOD:Hid (O=some done):=zh (by rw[HOO.out,HST0.out,Option.bind_some,restS_zero,if_pos rfl])
    cases fits with
    | false=>
     have HTF:Hid (thL xs=none):=zh (by
      rw[HTH.out,HOD.out,Option.bind_some];unfold thO;rw[if_neg (fun h=>HFF.out rfl h.1)])
     go_wp2_with fail;rw[Exit.noGoto_ret];have hb1:=(((((HZF.out.set_ 0 (.int .i64 0)).set_ 1 (.int .i64 0)).set_ 2 (.int .i64 0)).set_ 3 (.int .u32 0)).set_ 4 (.string ⟨#[]⟩)).set_ 5 (.slice none 0 0);refine bodyPost_ret (v:= .tuple #[.agg zeroH,.int .i64 4]) (results_cell2 Tryz.results56 _ _ rb 56 _ (0,0) _ rfl hb1 _ rfl Tryz.underlying56 rfl (by kernel_rfl)) rfl ?_;have hrw:w.heap.size≤rb:=by have:=HLV.out;omega
     exact th_bad (ext_set (ext_set (ext_set (ext_set (ext_set (ext_set HEF.out hrw _) hrw _) hrw _) hrw _) hrw _) hrw _) HTF.out (by decide)
    | true=>
     obtain⟨hsd,hgd⟩:=HFT.out rfl;subst hsd;obtain⟨A5,c5,rfl,hs1,hs2,hs3,hs4⟩:=HOF.out.shape;have hstl:(strOf z5).size≤5000:=by rw[strOf_size];omega
     have HMY:=zh (may_st (Hd.hv ⟨z1,z2,z3,z4,z5,done⟩) A5 _ c5 w5 (OwnR.row cS_len HOF.out) HSF.out hstl (by omega) (by show(-9223372036854775808:Int)≤(z1:Int);omega) (by show(z1:Int)≤9223372036854775807;omega) (by show(-9223372036854775808:Int)≤(z2:Int);omega) (by show(z2:Int)≤9223372036854775807;omega));obtain⟨mb,hmb⟩:∃mb,mb=decide (mayH (Hd.hv ⟨z1,z2,z3,z4,z5,done⟩)):=⟨_,rfl⟩;rw[←hmb]at HMY;replace hmb:=zh hmb;have HTQ:Hid (thL xs=if mayH (Hd.hv ⟨z1,z2,z3,z4,z5,done⟩)then some (Hd.hv ⟨z1,z2,z3,z4,z5,done⟩)else none):=zh (by
      rw[HTH.out,HOD.out,Option.bind_some];unfold thO;by_cases hq:mayH (Hd.hv ⟨z1,z2,z3,z4,z5,done⟩)
      ·rw[if_pos ⟨hgd,hq⟩,if_pos hq]
      ·rw[if_neg (fun h=>hq h.2),if_neg hq])
     have HSH:=zh (And.intro hs1 hs2);clear hs1 hs2 hs3 hs4 hgd;simp only[cH,Hd.hv]at HMY;generalize hlen:(List.map St.sv done).length=nl at*;replace hlen:=zh hlen;go_wp2_with fail;refine(HMY.out).mono ?_;rintro e w6 ⟨rfl,hE6⟩;have HEF6:=zh (zxt HEF.out hE6);have HZF6:=zh (HZF.out.ext hE6);have HHF6:=zh (HHF.out.ext hE6);have HOF6:=zh (HOF.out.ext hE6);clear hE6 HEF HZF HHF HOF HMY z0 zf h0;have z0:=fun i=>HZF6.out.cell i;have zf:=fun i=>HZF6.out.frozen i;have h0:=fun i=>HHF6.out.cell i;simp only[zeroH]at z0
     cases mb with
     | true=>
      have hq:=of_decide_eq_true hmb.out.symm;have HTF:Hid (thL xs=some (Hd.hv ⟨z1,z2,z3,z4,z5,done⟩)):=zh (by rw[HTQ.out,if_pos hq]);clear hq HTQ;go_wp2_with fail;rw[Exit.noGoto_ret];have hb1:=(((((HZF6.out.set_ 0 (.int .i64 (z1:Int))).set_ 1 (.int .i64 (z2:Int))).set_ 2 (.int .i64 (z3:Int))).set_ 3 (.int .u32 (z4:Int))).set_ 4 (.string (strOf z5))).set_ 5 (.slice A5 nl c5);refine bodyPost_ret (v:= .tuple #[.agg (cH (Hd.hv ⟨z1,z2,z3,z4,z5,done⟩) (.slice A5 nl c5)),.int .i64 0]) (results_cell2 Tryz.results56 _ _ rb 56 _ (0,0) _ rfl hb1 _ rfl Tryz.underlying56 rfl (by kernel_rfl)) rfl ?_;have hrw:w.heap.size≤rb:=by have:=HLV.out;omega
      have hrb:rb<hb+1:=by have:=HLV.out;omega
      have hk:∀(u:World) (i:Nat) (v:Value) (q:Nat),hb+1≤q→(u.setCell ⟨rb,i,none⟩ v).heap[q]? =u.heap[q]? :=fun u i v q hq=>zw46 u ⟨rb,i,none⟩ v q (by show q≠rb;omega);refine th_ok (b:=hb+1) (ext_set (ext_set (ext_set (ext_set (ext_set (ext_set HEF6.out hrw _) hrw _) hrw _) hrw _) hrw _) hrw _) HTF.out ?_ (by have:=HLV.out;omega);refine OwnR_keep HOF6.out (fun q hq _=>?_);rw[hk _ _ _ _ hq,hk _ _ _ _ hq,hk _ _ _ _ hq,hk _ _ _ _ hq,hk _ _ _ _ hq,hk _ _ _ _ hq]
     | false=>
      have hq:=of_decide_eq_false hmb.out.symm;have HTF:Hid (thL xs=none):=zh (by rw[HTQ.out,if_neg hq]);clear hq HTQ;go_wp2_with fail;rw[Exit.noGoto_ret];have hb1:=(((((HZF6.out.set_ 0 (.int .i64 0)).set_ 1 (.int .i64 0)).set_ 2 (.int .i64 0)).set_ 3 (.int .u32 0)).set_ 4 (.string ⟨#[]⟩)).set_ 5 (.slice none 0 0);refine bodyPost_ret (v:= .tuple #[.agg zeroH,.int .i64 4]) (results_cell2 Tryz.results56 _ _ rb 56 _ (0,0) _ rfl hb1 _ rfl Tryz.underlying56 rfl (by kernel_rfl)) rfl ?_;have hrw:w.heap.size≤rb:=by have:=HLV.out;omega
      exact th_bad (ext_set (ext_set (ext_set (ext_set (ext_set (ext_set HEF6.out hrw _) hrw _) hrw _) hrw _) hrw _) hrw _) HTF.out (by decide)
   ·have HTF:Hid (thL xs=none):=zh (by
     rw[HTH.out,HOO.out]
     cases hst:st with
     | none=>rfl
     | some L=>
      rw[Option.bind_some,restS_zero,if_neg (fun h=>hx0 (HX.out.2 (by rw[hst,h])))];rfl)
    go_wp2_with fail;rw[Exit.noGoto_ret];have hb1:=(((((HZF.out.set_ 0 (.int .i64 0)).set_ 1 (.int .i64 0)).set_ 2 (.int .i64 0)).set_ 3 (.int .u32 0)).set_ 4 (.string ⟨#[]⟩)).set_ 5 (.slice none 0 0);refine bodyPost_ret (v:= .tuple #[.agg zeroH,.int .i64 x]) (results_cell2 Tryz.results56 _ _ rb 56 _ (0,0) _ rfl hb1 _ rfl Tryz.underlying56 rfl (by kernel_rfl)) rfl ?_;have hrw:w.heap.size≤rb:=by have:=HLV.out;omega
    exact th_bad (ext_set (ext_set (ext_set (ext_set (ext_set (ext_set HEF.out hrw _) hrw _) hrw _) hrw _) hrw _) hrw _) HTF.out hx0
  | succ gh=>
   have hst2:∃L,st=some L:=by
    cases hq:st with
    | none=>exact absurd (HST.out hq) (by omega)
    | some L=>exact⟨L,rfl⟩
   obtain⟨L,rfl⟩:=hst2;have HCH:=zh (chain3 (L:=L) done gh);have HA1:=zh (num_st g m c' A' xs (some L) wi HS.out);have hghi:(0:Int)<((gh+1:Nat):Int):=by omega
   clear HST;go_wp2_with fail;refine(HA1.out).mono ?_;rintro e w1 ⟨rfl,hy1,hS1,hG1⟩;have HS1:=zh hS1;have HG1:=zh hG1;clear hS1 hG1 HA1;have HA2:=zh (num_st g m c' A' xs _ w1 HS1.out);obtain⟨o,hva⟩:∃o,o=va pN 0 (some L):=⟨_,rfl⟩;rw[←hva]at hy1 ⊢;replace hva:=zh hva;go_wp2_with fail;refine(HA2.out).mono ?_;rintro e w4 ⟨rfl,hy2,hS2,hG2⟩;have HS2:=zh hS2;have HG2:=zh hG2;clear hS2 hG2 HA2;have HA3:=zh (int_st g m c' A' xs _ w4 HS2.out);obtain⟨kd,hvb⟩:∃o,o=va pN 0 (nx pN (some L)):=⟨_,rfl⟩;rw[←hvb]at hy2 ⊢;replace hvb:=zh hvb;go_wp2_with fail;refine(HA3.out).mono ?_;rintro e w5 ⟨rfl,hy3,hS3,hG3⟩;have HS3:=zh hS3;have HG3:=zh hG3;clear hS3 hG3 HA3;obtain⟨tl,hvc⟩:∃o,o=va pI 0 (nx pN (nx pN (some L))):=⟨_,rfl⟩;rw[←hvc]at hy3 ⊢;replace hvc:=zh hvc;have HGG:Hid (wi.grownBy w5 (some g)):=zh (gb_trans (gb_trans HG1.out HG2.out) HG3.out);have HZ5:=zh (blk_kept HZ.out HGG.out (by have:=HLV.out;omega));have HH5:=zh (blk_kept HH.out HGG.out (by have:=HLV.out;omega));have HO5:=zh (HO.out.grown HGG.out (by have:=HLV.out;omega));have HSZ5:=zh (zw10 HSZ.out HGG.out.size);have HE5:Hid (Ext w w5):=zh (ext_grown HE.out HGG.out (fun q e=>by cases e;have:=HLV.out;omega));clear HZ HH HO HSZ HE HS HS1 HS2 HG1 HG2 HG3 HGG;have HER:=zh (err_st g m c' A' xs _ w5 HS3.out);go_wp2_with fail;refine(HER.out).mono ?_;rintro e w6 ⟨x,rfl,hx,rfl⟩;clear HER;rcases HCH.out with ⟨d1,d2⟩ | ⟨o',L1,k',L2,t',L3,d1,d2,d3,f1,f2,f3,d4⟩
   ·have hx1:¬x=0:=hx.2 d1
    have HTF:Hid (thL xs=none):=zh (by rw[HTH.out,HOO.out,Option.bind_some,d2];rfl);rw[d1]at HS3;have HEN:=zh (end_st g m c' A' xs none w5 HS3.out);clear hx d1 d2 HCH;go_wp2_with fail;refine(HEN.out).mono ?_;rintro e w7 ⟨y,rfl,hy,hE7⟩;have hyn:¬y=0:=fun h=>by have:=hy.1 h;cases this
    have HEF:=zh (zxt HE5.out hE7);have HZF:=zh (HZ5.out.ext hE7);clear hy hE7;have z0:=fun i=>HZF.out.cell i;have zf:=fun i=>HZF.out.frozen i;simp only[zeroH]at z0;go_wp2_with fail;rw[Exit.noGoto_ret];have hb1:=(((((HZF.out.set_ 0 (.int .i64 0)).set_ 1 (.int .i64 0)).set_ 2 (.int .i64 0)).set_ 3 (.int .u32 0)).set_ 4 (.string ⟨#[]⟩)).set_ 5 (.slice none 0 0);refine bodyPost_ret (v:= .tuple #[.agg zeroH,.int .i64 y]) (results_cell2 Tryz.results56 _ _ rb 56 _ (0,0) _ rfl hb1 _ rfl Tryz.underlying56 rfl (by kernel_rfl)) rfl ?_;have hrw:w.heap.size≤rb:=by have:=HLV.out;omega
    exact th_bad (ext_set (ext_set (ext_set (ext_set (ext_set (ext_set HEF.out hrw _) hrw _) hrw _) hrw _) hrw _) hrw _) HTF.out hyn
   ·have q3:nx pI (nx pN (nx pN (some L)))=some L3:=by rw[d1,d2,d3]
    rw[q3]at HS3 hx;have hx1:x=0:=by
     by_cases h0:x=0
     ·exact h0
     ·have:=hx.1 h0;cases this
    subst hx1;have ho:o=o':=by rw[hva.out,f1]
    have hkd:kd=k':=by rw[hvb.out,d1,f2]
    have htl2:tl=t':=by rw[hvc.out,d1,d2,f3]
    subst ho hkd htl2;have HOO2:Hid (O=(some L3).bind (restS (done++[⟨o,kd,tl⟩]) gh)):=zh (by rw[HOO.out,Option.bind_some,d4];rfl);clear hx d1 d2 d3 f1 f2 f3 d4 q3 HCH HOO hva hvb hvc;have h0:=fun i=>HH5.out.cell i;have hf0:=fun i=>HH5.out.frozen i;obtain⟨A5,c5,rfl,hs1,hs2,hs3,hs4⟩:=HO5.out.shape;generalize hln:sts.length=nl at*;have HLN:=zh hln;clear hln hs3 hs4;by_cases b1:o≤255
    ·have b1':(o:Int)≤255:=by omega
     by_cases b2:kd≤255
     ·have b2':(kd:Int)≤255:=by omega
      by_cases b3:nl=128
      ·have b3':((nl:Int)==128)=true:=beq_iff_eq.2 (by omega)
       go_wp2_with fail
       go_roundg gh
       case measure=>omega
       case rel=>
        have hng:¬goodS (done++[⟨o,kd,tl⟩]):=fun h=>by
         rw[goodS_snoc]at h
         cases fits with
         | true=>
          have h2:=congrArg List.length (HFT.out rfl).1;rw[zw4,HLN.out]at h2;omega
         | false=>exact HFF.out rfl h.1
        refine⟨done++[⟨o,kd,tl⟩],sts,.slice A5 nl c5,false,some L3,rfl,rfl,by omega,HS3.out,HZ5.out,HH5.out,HO5.out,by rw[HLN.out];exact hsl,(fun h=>by cases h),(fun _=>hng),HSF.out,(fun h=>by cases h),HSZ5.out,HE5.out,HOO2.out⟩
      ·have b3':((nl:Int)==128)=false:=zw12.2 (by omega)
       have HEA:=zh (zxa (zxr w5) (.cells (cS ⟨o,kd,(tl:Int)⟩).toArray 110));have HSRC:=zh (src_rec (P:=Tryz.prog) (e':=110) Tryz.underlying54 w5 (cS ⟨o,kd,(tl:Int)⟩) rfl (by intro u hu;simp[cS]at hu;rcases hu with rfl | rfl | rfl<;>rfl) 1)
       have HO8:=zh (HO5.out.ext HEA.out);have HSZ8:Hid (hb+1≤(w5.alloc (.cells (cS ⟨o,kd,(tl:Int)⟩).toArray 110)).heap.size):=zh (by rw[zw22];have:=HSZ5.out;omega);have HDL:Hid (sts.length≤100000000):=zh (by rw[HLN.out];omega);go_wp2_with (at_builtin;refine wpList_rec rfl (.tmp 57) (.tmp 64) 54 110 3 16 _ cS rfl Tryz.underlying54 infoS rfl (by decide) (.slice A5 nl c5) _ sts ⟨o,kd,(tl:Int)⟩ rfl rfl HO8.out HSZ8.out HSRC.out HDL.out ?_;intro v9 w9 hown9 hgr9;have HO9:=zh hown9;have HG9:=zh hgr9;have HH9:=zh (own_blk1 HO8.out HG9.out (HH5.out.ext HEA.out) (by omega));clear hown9 hgr9;obtain⟨A9,c9,hv9,_,_,_,_⟩:=HO9.out.shape;generalize (sts++[(⟨o,kd,(tl:Int)⟩:Sv)]).length=n9 at hv9;subst hv9;have hh9:=fun i=>HH9.out.cell i;have hf9:=fun i=>HH9.out.frozen i)
       go_roundg gh
       case measure=>omega
       case rel=>
        have hob:∀k,(Value.slice A5 nl c5).ownBlock=some k→hb+1≤k:=fun k e=>(zw23 HO8.out k e).1;have hkeep:∀k,k<hb+1→w9.heap[k]? =(w5.alloc (.cells (cS ⟨o,kd,(tl:Int)⟩).toArray 110)).heap[k]? :=fun k hk=>
         HG9.out.block k (zw9 hk HSZ8.out) (fun e=>by have:=hob k e.symm;omega)
        have hlv:=HLV.out;have hE9:Ext w w9:=ext_grown (zxt HE5.out HEA.out) HG9.out (fun k e=>by have:=hob k e;omega);have hS9:RSt w9 g A' m c' xs (some L3):=(HS3.out.ext HEA.out).keep HR0.out (fun k hk=>hkeep k (by omega)) HG9.out.size;have hZ9:Blk w9 rb 56 zeroH:=(hkeep rb (by omega)).trans (HZ5.out.ext HEA.out);refine⟨done++[⟨o,kd,tl⟩],sts++[⟨o,kd,(tl:Int)⟩],.slice A9 n9 c9,fits,some L3,rfl,rfl,by omega,hS9.set HR0.out (by show B1≤hb;omega) _,hZ9.far (by show rb≠hb;omega) _,HH9.out.set_ 5 (.slice A9 n9 c9),?_,?_,?_,?_,?_,(fun h=>by cases h),?_,ext_set hE9 (by show w.heap.size≤hb;omega) _,HOO2.out⟩
        ·exact OwnR_keep HO9.out (fun q hq _=>zw46 w9 ⟨hb,5,none⟩ (.slice A9 n9 c9) q (by show q≠hb;omega))
        ·rw[zw0,HLN.out,zw27];omega
        ·intro hf
         obtain⟨r1,r2⟩:=HFT.out hf;have h2:=congrArg List.length r1;rw[zw4,HLN.out]at h2;refine⟨by rw[r1,List.map_append];rfl,goodS_snoc.2 ⟨r2,b1,b2,by omega⟩⟩
        ·intro hf h
         exact HFF.out hf (goodS_left h)
        ·intro u hu
         rcases zw16.1 hu with hu | hu
         ·exact HSF.out u hu
         ·rw[zw52]at hu
          subst hu;exact⟨by show o<256;omega,by show kd<256;omega,by show(-9223372036854775808:Int)≤(tl:Int);omega,by show(tl:Int)≤9223372036854775807;omega⟩
        ·have:=zw10 HSZ8.out HG9.out.size
         simpa [World.setCell]using this
     ·have b2':¬(kd:Int)≤255:=by omega
      go_wp2_with fail
      go_roundg gh
      case measure=>omega
      case rel=>
       refine⟨done++[⟨o,kd,tl⟩],sts,.slice A5 nl c5,false,some L3,rfl,rfl,by omega,HS3.out,HZ5.out,HH5.out,HO5.out,by rw[HLN.out];exact hsl,(fun h=>by cases h),(fun _=>fun h=>b2 (goodS_snoc.1 h).2.2.1),HSF.out,(fun h=>by cases h),HSZ5.out,HE5.out,HOO2.out⟩
    ·have b1':¬(o:Int)≤255:=by omega
     go_wp2_with fail
     go_roundg gh
     case measure=>omega
     case rel=>
      refine⟨done++[⟨o,kd,tl⟩],sts,.slice A5 nl c5,false,some L3,rfl,rfl,by omega,HS3.out,HZ5.out,HH5.out,HO5.out,by rw[HLN.out];exact hsl,(fun h=>by cases h),(fun _=>fun h=>b1 (goodS_snoc.1 h).2.1),HSF.out,(fun h=>by cases h),HSZ5.out,HE5.out,HOO2.out⟩
theorem hmxL:Tryz.prog.follows .mixedOrders=true:=by kernel_rfl
def SE (w:World):World→Prop:=fun w'=>Ext w w'
def VRel (w:World) (evs:List Ev) (gh:Nat) (ov iv:Value) (wr:World):Prop:=
 ∃(k:Nat),k+gh=evs.length∧iv= .int .i64 (k:Int)∧OwnR w.heap.size wr 116 7 cV ov (evs.take k)∧Ext w wr
def cC (x:Ev):List Value:=[.int .u8 (x.player:Int),.int .u8 (x.doing:Int),.int .u16 (x.unit:Int),.int .u16 (x.tile:Int),.int .u16 (x.target:Int),.int .u8 (x.kind:Int)]
def atL (tick:Int) (evs:List Ev):List Ev:=evs.filter (fun x=>decide (x.tick=tick))
theorem hd_hv {x:Hv} (h:mayH x):x.hd.hv=x:=by
 obtain⟨⟨o1,o2,o3,o4,_⟩,p1,p4,p8,hb⟩:=h;obtain⟨xw,xh,xp,xs,xt,us⟩:=x;simp only at*;unfold Hv.hd Hd.hv;simp only[Hv.mk.injEq,strOf_nats,List.map_map,true_and];refine⟨by omega,by omega,by omega,?_⟩;have ht:=mayB_tiles _ _ _ _ hb;have:us.map (St.sv ∘ Sv.st)=us.map id:=List.map_congr_left (fun u hu=>by
  obtain⟨u1,u2,u3⟩:=u;have:=(ht _ hu).1;simp only at this;simp only[Function.comp,Sv.st,St.sv,id]
  congr 1
  omega)
 rw[this,List.map_id]
theorem take_header {x:Hv} (h:mayH x) (hf:∀u∈x.starts,u.fits) (hs:x.seed<4294967296):thL (encH x.hd)=some x:=by
 have hv:=hd_hv h;have h0:=h;obtain⟨⟨o1,o2,o3,o4,o5,_⟩,p1,p4,p8,hb⟩:=h;have ht:=mayB_tiles _ _ _ _ hb;have hts:x.tiles.size≤4096:=by
  have:(x.tiles.size:Int)≤64*64:=by rw[o5];exact Int.mul_le_mul o2 o4 (by omega) (by omega)
  omega
 have hfit:x.hd.fits:=by
  refine⟨by show x.w.toNat≤_;omega,by show x.h.toNat≤_;omega,by show x.players.toNat≤_;omega,hs,by show(natsOf x.tiles).length≤4096;rw[natsOf_len];exact hts,by show(x.starts.map Sv.st).length<_;rw[zw4];omega,?_⟩;intro u hu;obtain⟨u',hu',rfl⟩:=List.mem_map.1 hu;have h1:=hf u' hu';have h2:=ht u' hu';exact⟨by show u'.owner<_;have:=h1.1;omega,by show u'.kind<_;have:=h1.2.1;omega,by show u'.tile.toNat≤_;omega⟩
 have:=pH_put hfit [];rw[zw18]at this;unfold thL;rw[this];simp only;have hg:goodS x.hd.starts:=by
  refine⟨fun u hu=>?_,by show(x.starts.map Sv.st).length≤128;rw[zw4];exact p8⟩;obtain⟨u',hu',rfl⟩:=List.mem_map.1 hu;have h1:=hf u' hu';exact⟨by show u'.owner≤255;have:=h1.1;omega,by show u'.kind≤255;have:=h1.2.1;omega⟩
 unfold thO;rw[hv,if_pos ⟨hg,h0⟩]
theorem encH_small (x:Hd) (hs:x.seed<4294967296) (ht:∀c∈x.tiles,c<256):∀c∈encH x,c<256:=by
 have hS:∀us:List St,∀c∈encS us,c<256:=by
  intro us
  induction us with
  | nil=>intro c hc;cases hc
  | cons u us ih=>
   intro c hc;rw[encS]at hc;simp only[zw16]at hc;rcases hc with hc | hc | hc | hc
   ·exact vb_mem _ c hc
   ·exact vb_mem _ c hc
   ·exact vb_mem _ c hc
   ·exact ih c hc
 intro c hc;unfold encH at hc;simp only[zw16]at hc;rcases hc with hc | hc | hc | hc | hc | hc | hc | hc
 ·exact vb_mem _ c hc
 ·exact vb_mem _ c hc
 ·exact vb_mem _ c hc
 ·exact fx_mem hs c hc
 ·exact vb_mem _ c hc
 ·exact ht c hc
 ·exact vb_mem _ c hc
 ·exact hS _ c hc
theorem encH_len (x:Hv) (h:mayH x) (hf:∀u∈x.starts,u.fits):(encH x.hd).length≤20000:=by
 obtain⟨⟨o1,o2,o3,o4,o5,_⟩,p1,p4,p8,hb⟩:=h;have ht:=mayB_tiles _ _ _ _ hb;have hts:x.tiles.size≤4096:=by
  have:(x.tiles.size:Int)≤64*64:=by rw[o5];exact Int.mul_le_mul o2 o4 (by omega) (by omega)
  omega
 have hS:∀us:List Sv,(∀u∈us,u.owner<256∧u.kind≤5∧u.tile.toNat<x.tiles.size)→(encS (us.map Sv.st)).length≤30*us.length:=by
  intro us
  induction us with
  | nil=>intro _;simp[encS]
  | cons u us ih=>
   intro hu;have h1:=ih (fun v hv=>hu v (by simp[hv]));obtain⟨a,b,d⟩:=hu u (by simp);rw[List.map_cons,encS];simp only[zw0,zw3,Sv.st];have:=vb_ten (n:=u.owner) (by omega);have:=vb_ten (n:=u.kind) (by omega);have:=vb_ten (n:=u.tile.toNat) (by omega);omega
 have h1:=hS x.starts (fun u hu=>⟨(hf u hu).1,(ht u hu).2.2,(ht u hu).2.1⟩);have q1:=vb_ten (n:=x.w.toNat) (by omega);have q2:=vb_ten (n:=x.h.toNat) (by omega);have q3:=vb_ten (n:=x.players.toNat) (by omega);have q4:=vb_ten (n:=x.tiles.size) (by omega);have q5:=vb_ten (n:=x.starts.length) (by omega);have q6:(fx x.seed).length=4:=rfl;show(vb x.w.toNat++(vb x.h.toNat++(vb x.players.toNat++(fx x.seed++(vb (natsOf x.tiles).length++(natsOf x.tiles++(vb (x.starts.map Sv.st).length++encS (x.starts.map Sv.st)))))))).length≤20000;simp only[zw0,natsOf_len,zw4];omega
end Go.Proofs.YtbopblbhjcemaaaGreatDoor.Log
