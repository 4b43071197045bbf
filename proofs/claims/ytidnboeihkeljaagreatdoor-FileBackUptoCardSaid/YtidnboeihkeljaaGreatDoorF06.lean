
import Derived.Test.YtidnboeihkeljaaGreatDoorF05
import Derived.Test.YtidnboeihkeljaaGreatDoorF12
set_option maxHeartbeats 16000000
set_option maxRecDepth 100000
set_option linter.all false
namespace Go.Proofs.YtidnboeihkeljaaGreatDoor.Lz
open Go.ChangeShapes Go.WideShapes Go.ChangeAt Go.RowKit Go.Shelf
open Wire Go.Proofs.YtidnboeihkeljaaGreatDoor.Map32
def PkRel (W:World) (G N:Nat) (sl:Value) (xs:List Nat) (av:Value) (wr:World):Prop:=
 ∃(a told:Nat) (v:Value) (ys:List Nat) (M:Nat→Option Value),a≤N∧told≤a∧av= .int .i64 (a:Int)∧Outs wr (G+3) (G+2) (G+1) G told v sl ys∧Groups wr (G+3) 3 (G+3) M (seen xs a)∧ys++pk xs told a=pk xs 0 0∧Ext W wr
def InRel (W:World) (G a L:Nat) (xs:List Nat) (av iv:Value) (wr:World):Prop:=
 ∃(k p:Nat) (M:Nat→Option Value),k≤L∧p=a+k∧iv= .int .i64 (k:Int)∧av= .int .i64 (p:Int)∧Groups wr (G+3) 3 (G+3) M (seen xs p)∧Keep (G+3) W wr
def PkPost (w:World) (zs:List Nat) (e:Ending) (w':World):Prop:=∃v,e= .returned v∧Wire.Own w w' v zs∧Ext w w'
theorem own_low {w:World} {a b:Nat} {e:TypeId} {size n:Nat} {v:Value} {xs:List Value} (h:w.ownsRow b e size v n xs) (hab:a≤b):w.ownsRow a e size v n xs:=by
 rcases h with ⟨hl,hq | ⟨g,cap,cur,hv,hb,r⟩⟩
 ·exact⟨hl,.inl hq⟩
 ·exact⟨hl,.inr ⟨g,cap,cur,hv,zw10 hab hb,r⟩⟩
theorem keep_old {a b c:World} {base:Nat} (h:Keep base b c) (e:Ext a b) (hb:a.heap.size≤base):Ext a c:=
 ⟨h.low.os.trans e.os,h.low.tape.trans e.tape,h.low.output.trans e.output,zw10 e.size h.low.size,fun k hk=>(h.low.block k (by omega)).trans (e.block k hk)⟩
theorem pack (A:Option Addr) (N c:Nat) (xs:List Nat) (w:World) (hB:Bs w A N xs) (hN:N≤1000000) (hc1:N≤c) (hc2:c≤9223372036854775807):
  Calls Tryz.prog 106 #[.slice A N c] w (PkPost w (pk xs 0 0)):=by
 have hxl:xs.length=N:=hB.1;obtain⟨G,hG⟩:∃G,G=w.heap.size:=⟨_,rfl⟩;have hAd:0<N→∀ad,A=some ad→ad.block<G:=fun h0 ad ha=>by
  obtain⟨b,o,he,hb,_⟩:=hB.2.2 h0;rw[ha]at he;obtain rfl:=zw13 he;rw[hG];exact hb
 have hpl:=pk_len hB.2.1 _ 0 0 rfl (zw8 _) (Nat.zero_le _);rw[hxl]at hpl;have HB:=zh hB;have HAD:=zh hAd;have HXL:=zh hxl;have HG:=zh hG;have HAP:=zh (apart_of G);have HGD:=zh (bst_good hB.2.1);obtain⟨R,hR⟩:∃R,R=pk xs 0 0:=⟨_,rfl⟩;have HR:=zh hR;rw[←hR]at hpl ⊢;have hRl:R.length≤2000000:=by omega
 obtain⟨i0,hi0,hz0,hz1,hz2⟩:=info_parts info8;have HI:=zh (And.intro hi0 (And.intro hz0 (And.intro hz1 hz2)));clear hi0 hz0 hz1 hz2;clear hB hAd hxl hR hpl hG;have hmm:=@run_makeMap Tryz.prog;go_enter Tryz.func106,Tryz.ntmps106;go_wp2_with fail;have hE0:Ext w ((((w.alloc (.cells #[.slice A N c] 48)).alloc (.cells #[.slice none 0 0] 48)).alloc (.cells #[.int .i64 0] 3)).alloc (.map #[] 0)):=zxa (zxa (zxa (zxa (zxr w) _) _) _) _;have hO0:Outs ((((w.alloc (.cells #[.slice A N c] 48)).alloc (.cells #[.slice none 0 0] 48)).alloc (.cells #[.int .i64 0] 3)).alloc (.map #[] 0)) (w.heap.size+3) (w.heap.size+2) (w.heap.size+1) w.heap.size 0 (.slice none 0 0) (.slice A N c) []:=by
  have b1:=Boxed.new w 48 (.slice A N c);have b2:=Boxed.new (w.alloc (.cells #[.slice A N c] 48)) 48 (.slice none 0 0);have b3:=Boxed.new ((w.alloc (.cells #[.slice A N c] 48)).alloc (.cells #[.slice none 0 0] 48)) 3 (.int .i64 0);simp only[zw22]at b2 b3;exact⟨b3.alloc _,(b2.alloc _).alloc _,((b1.alloc _).alloc _).alloc _,World.ownsRow_nil _ _ _ _⟩
 have hG0:=Groups.new (((w.alloc (.cells #[.slice A N c] 48)).alloc (.cells #[.slice none 0 0] 48)).alloc (.cells #[.int .i64 0] 3)) (w.heap.size+3) 3 (by simp only[zw22];omega);simp only[zw22,Nat.add_assoc,Nat.reduceAdd]at hG0 ⊢;have HE0:=zh hE0;have HO0:=zh hO0;have HG0:=zh hG0;clear hE0 hO0 hG0 hmm;obtain⟨W0,hW0⟩:∃W,W=((((w.alloc (.cells #[.slice A N c] 48)).alloc (.cells #[.slice none 0 0] 48)).alloc (.cells #[.int .i64 0] 3)).alloc (.map #[] 0)):=⟨_,rfl⟩;rw[←hW0]at HE0 HO0 HG0 ⊢;rw[←HG.out]at HO0 HG0 ⊢;clear hW0;go_wp2_with fail
 go_loopw [7] (fun av wr=>PkRel w G N (.slice A N c) xs av wr) (fun av _=>N-(intOf av).toNat)
 case atStart=>exact⟨0,0,_,_,_,Nat.zero_le _,zw8 _,rfl,HO0.out,HG0.out,by rw[zw17],HE0.out⟩
 case round=>
  clear HO0 HG0 HE0;obtain⟨a,told,v,ys,M,ha,hta,rfl,hO,hGr,hE,hEx⟩:=hrel;rw[←HR.out]at hE;have hyl:ys.length≤2000000:=by
   have e:=congrArg List.length hE;rw[zw0]at e;omega
  have c2:=hO.b.cell;have HO:=zh hO;have HGr:=zh hGr;have HE:=zh hE;have HEx:=zh hEx;have HBr:=zh (HB.out.ext hEx);clear hO hGr hE hEx;obtain⟨wo,hwo⟩:∃wo,wo=wr:=⟨_,rfl⟩;subst hwo;by_cases hlt:a<N
  ·have z0:(a:Int)<(N:Int):=by omega
   go_wp2_with fail;refine(best A N c a (G+3) (G+3) xs M _ HBr.out HGr.out hlt hN).mono ?_;rintro e w1 ⟨rfl,b1⟩;have HE1:=zh b1;have c3:=(HO.out.ext b1).b.cell;clear b1 c2;obtain⟨B,L,hBL⟩:∃B L,bst xs a=(B,L):=⟨_,_,rfl⟩;have hgood:=HGD.out a;rw[hBL]at hgood ⊢;simp only;have HBL:=zh hBL;clear hBL;have HO1:=zh (HO.out.ext HE1.out);have HG1:=zh (HGr.out.ext HE1.out);have HB1:=zh (HBr.out.ext HE1.out);have HX1:=zh (zxt HEx.out HE1.out);by_cases hL:L=0
   ·subst hL
    have HPK:Hid (pk xs told a=pk xs told (a+1)):=zh (pk_lit (by rw[HXL.out];exact hlt) (by rw[HBL.out]));clear hgood;go_wp2_with fail;refine(remember A N c a (G+3) (G+3) xs M _ HB1.out (fun ad h=>by have:=HAD.out (by omega) ad h;omega) HG1.out hlt hN).mono ?_;rintro e w2 ⟨rfl,M2,hG2,hK2⟩;have HG2:=zh hG2;have HK2:=zh hK2;clear hG2 hK2;go_wp2_with fail
    go_roundw
    case rel=>exact⟨a+1,told,v,ys,M2,by omega,by omega,by go_num,HO1.out.keep HAP.out HK2.out,HG2.out,by rw[←HPK.out,←HR.out];exact HE.out,keep_old HK2.out HX1.out (by have:=HG.out;omega)⟩
    case measure=>simp[intOf];omega
   ·obtain⟨h3,h66,haN,hB1,hB4,hBa⟩:3≤L∧L≤66∧a+L≤N∧1≤B∧B≤4096∧B≤a:=by
     rcases hgood with h | h
     ·exact absurd (Prod.mk.inj h).2 hL
     ·simp only at h;have:=HXL.out;omega
    have HPK:Hid (ys++litT ((xs.drop told).take (a-told))++[2*(L-3)+1]++vb (B-1)++pk xs (a+L) (a+L)=R):=zh (by
     have e:=pk_match (xs:=xs) (told:=told) (a:=a) (by rw[HXL.out];exact hlt) (by rw[HBL.out];exact hL);rw[HBL.out]at e;rw[←HE.out,e];simp only[zw7,List.cons_append,zw17])
    clear hgood;have z1:((L:Int)==0)=false:=zw12.2 (by omega);clear hL;go_wp2_with fail;refine(putRuns G N c told a A xs ys v _ HB1.out HAD.out hN hc1 hc2 HO1.out hta (by omega) (by omega)).mono ?_;rintro e w2 ⟨rfl,v2,hO2,hC2⟩;obtain⟨zs,hzs⟩:∃zs,zs=ys++litT ((xs.drop told).take (a-told)):=⟨_,rfl⟩;rw[←hzs]at hO2;rw[←hzs]at HPK;clear hzs;have hzl:zs.length≤2000000:=by
     have e:=congrArg List.length HPK.out;simp only[zw0]at e;omega
    have HO2:=zh hO2;have HG2:=zh (Groups.chg HG1.out (by omega) (by omega) hC2);have HX2:=zh (hC2.old HX1.out (by have:=HG.out;omega) (by have:=HG.out;omega) (by have:=HG.out;omega));have HB2:=zh (HB.out.ext HX2.out);clear hO2 hC2 c3;obtain⟨m,hm⟩:∃m,m=2*(L-3)+1:=⟨_,rfl⟩;have q0:(2:Int)*((L:Int)-3)+1=(m:Int):=by omega
    have hm1:m≤127:=by omega
    have HM:=zh hm;clear hm;rw[←HM.out]at HPK;have HO3:=zh (HO2.out.ext (zxa (zxr w2) (.cells #[.int .u8 (m:Int)] 5)));have HSR:=zh (src_one w2 m);have d1:=HO2.out.o.cell;have hzs:=HO3.out.t.lt;go_wp2_with (at_builtin;refine wpList_app_own rfl (.tmp 34) (.tmp 40) 48 48 rfl 5 i0 (.int .u8 0) 1 1 Tryz.underlying48 HI.out.1 HI.out.2.1 HI.out.2.2.1 HI.out.2.2.2 rfl (G+3) v2 _ zs.length (c8 zs) rfl rfl HO3.out.r [m].length (c8 [m]) HSR.out (by unfold maxLen;simp;omega) (by simp;omega) (by omega) ?_;intro v5 w5 hown5 hgr5;have hst:=Outs.put HO3.out HAP.out (zs:=zs++[m]) (by rw[zw0,c8_app];exact hown5) hgr5;obtain⟨A5,k5,rfl,_⟩:=own_shape hown5;obtain⟨hc5,hf5,hO5⟩:=hst;have HO5:=zh hO5;have HC5:=zh ((Chg.of_ext (base:=G+3) (bt:=G+2) (bo:=G+1) (zxa (zxr w2) (.cells #[.int .u8 (m:Int)] 5))).trans ((Chg.of_row HO3.out.r hgr5).trans (Chg.of_set (G+1) (.slice A5 (zs.length+[m].length) k5) (.inr rfl))));clear hown5 hgr5 hO5)
    have HO6:Hid (Outs (w5.setCell ⟨G+1,0,none⟩ (.slice A5 (zs.length+1) k5)) (G+3) (G+2) (G+1) G a (.slice A5 (zs.length+1) k5) (.slice A N c) (zs++[m])):=HO5;have HC6:Hid (Chg (G+3) (G+2) (G+1) w2 (w5.setCell ⟨G+1,0,none⟩ (.slice A5 (zs.length+1) k5))):=HC5;clear HO5 HC5 HO3 HSR hzs hc5 hf5 d1;obtain⟨W1,hW1⟩:∃W,W=w5.setCell ⟨G+1,0,none⟩ (.slice A5 (zs.length+1) k5):=⟨_,rfl⟩;rw[←hW1]at HO6 HC6 ⊢;clear hW1;have HG3:=zh (Groups.chg HG2.out (by omega) (by omega) HC6.out);have HX3:=zh (HC6.out.old HX2.out (by have:=HG.out;omega) (by have:=HG.out;omega) (by have:=HG.out;omega));clear HG2 HX2 HC6 HB2;obtain⟨q,hq⟩:∃q,q=zs++[m]:=⟨_,rfl⟩;rw[←hq]at HO6 HPK;have hql:q.length≤2000001:=by rw[hq,zw0];simp;omega
    obtain⟨u5,hu5⟩:∃u5,u5=Value.slice A5 (zs.length+1) k5:=⟨_,rfl⟩;rw[←hu5]at HO6;clear hq hu5;obtain⟨bb,hbb⟩:∃bb,bb=B-1:=⟨_,rfl⟩;have q1:(B:Int)-1=(bb:Int):=by omega
    have hbb2:bb<4096:=by omega
    rw[←hbb]at HPK;clear hbb;obtain⟨r,hr⟩:∃r,r=q++vb bb:=⟨_,rfl⟩;rw[←hr]at HPK;have HRR:=zh hr;clear hr
    go_cut [] (fun wx=>(∃v9,Outs wx (G+3) (G+2) (G+1) G a v9 (.slice A N c) r)∧Chg (G+3) (G+2) (G+1) W1 wx)
    case first=>
     have d1:=HO6.out.o.cell;have q2:IntKind.i64.wrap (bb:Int)=(bb:Int):=by rw[IntKind.wrap_i64];omega
     have q3:IntKind.u64.wrap (bb:Int)=(bb:Int):=by rw[IntKind.wrap_u64];omega
     have hv1:=vb_ten (n:=bb) (by omega);refine zw38 (S:=fun _=>True) hmx trivial (fun _=>?_)
     (refine zw40 (i:=1) (v:=?_) rfl (by kernel_rfl) (by kernel_rfl) (by kernel_rfl) (fun _ _ _ h=>h) (Or.inl ⟨by rfl,?_⟩) trivial ?_);rotate_left
     ·(intro w hSw;go_simp;try with_reducible rfl)
     (refine zw40 (i:=2) (v:=?_) rfl (by kernel_rfl) (by kernel_rfl) (by kernel_rfl) (fun _ _ _ h=>h) (Or.inl ⟨by rfl,?_⟩) trivial ?_);rotate_left
     ·(intro w hSw;go_simp;try with_reducible rfl)
     (refine zw40 (i:=3) (v:=?_) rfl (by kernel_rfl) (by kernel_rfl) (by kernel_rfl) (fun _ _ _ h=>h) (Or.inl ⟨by rfl,?_⟩) trivial ?_);rotate_left
     ·(intro w hSw;go_simp;try with_reducible rfl)
     refine zw41 (rs:=[0,4]) (by kernel_rfl) (by simp) ?_;refine AllReadyH.cons rfl (fun K hK=>?_) (AllReadyH.cons rfl (fun K hK=>?_) zw42)
     ·go_simp
      refine hK.out _ _ trivial fun _=>?_;clear hK K;refine zqO (i:=4) (by kernel_rfl) rfl fun K hK=>?_;go_simp;refine(put none 0 0 [] bb (by omega) _ (Bs.none _ _) (fun _=>⟨rfl,rfl⟩) (by omega) (by omega) (by omega)).mono ?_;rintro e w8 ⟨g2,k2,rfl,hd3,hd4,hg2,hO2,hE8⟩;rw[zw17]at hO2 hd3 ⊢;have he8:Ext W1 w8:=zxt (zxd (zxr W1)) hE8;have HO8:=zh (HO6.out.ext he8);have hc8:=HO8.out.o.cell;obtain⟨v2',w9,hrun,ho2,hgr2⟩:=run_app_own (P:=Tryz.prog) 48 48 48 5 i0 (.int .u8 0) 1 1 Tryz.underlying48 HI.out.1 HI.out.2.1 HI.out.2.2.1 HI.out.2.2.2 rfl (G+3) u5 q.length (c8 q) HO8.out.r (.slice (some ⟨g2,0,none⟩) (vb bb).length k2) (vb bb).length (c8 (vb bb)) ((Own.bs hO2 (vb_byte bb)).src Tryz.underlying48 k2) (by unfold maxLen;omega) (by omega) (by have:=HO8.out.t.lt;omega);have ho3:w9.ownsRow (G+3) 5 1 v2' r.length (c8 r):=by rw[HRR.out,zw0,c8_app];exact ho2
      have hst:=Outs.put HO8.out HAP.out ho3 hgr2;obtain⟨A2,c3,rfl,_⟩:=own_shape ho3;obtain⟨hc9,hf9,hO9⟩:=hst;have HO9:=zh hO9;have HC9:=zh ((Chg.of_ext (base:=G+3) (bt:=G+2) (bo:=G+1) he8).trans ((Chg.of_row HO8.out.r hgr2).trans (Chg.of_set (G+1) (.slice A2 r.length c3) (.inr rfl))));have HRUN:=zh hrun;clear hrun ho2 ho3 hgr2 hO2 hE8 he8 hO9
      (try go_wp2_with fail)
      refine hK.out _ _ trivial fun _=>?_;clear hK K;refine zqO (i:=5) (by kernel_rfl) rfl fun K hK=>?_;refine wanted_append rfl (.tmp 42) (.tmp 46) 48 48 rfl _ _ rfl rfl HRUN.out ?_;refine hK.out _ _ trivial fun _=>?_;clear hK K;refine zqO (i:=6) (by kernel_rfl) rfl fun K hK=>?_;go_simp;refine hK.out _ _ trivial fun _=>?_;clear hK K;refine zw39 (by kernel_rfl) ?_ _;go_wp2_with fail;go_meet;exact⟨⟨_,HO9.out⟩,HC9.out⟩
     ·go_simp
      refine(put none 0 0 [] bb (by omega) _ (Bs.none _ _) (fun _=>⟨rfl,rfl⟩) (by omega) (by omega) (by omega)).mono ?_;rintro e w8 ⟨g2,k2,rfl,hd3,hd4,hg2,hO2,hE8⟩;rw[zw17]at hO2 hd3 ⊢;have he8:Ext W1 w8:=zxt (zxd (zxr W1)) hE8;have HO8:=zh (HO6.out.ext he8);have hc8:=HO8.out.o.cell;obtain⟨v2',w9,hrun,ho2,hgr2⟩:=run_app_own (P:=Tryz.prog) 48 48 48 5 i0 (.int .u8 0) 1 1 Tryz.underlying48 HI.out.1 HI.out.2.1 HI.out.2.2.1 HI.out.2.2.2 rfl (G+3) u5 q.length (c8 q) HO8.out.r (.slice (some ⟨g2,0,none⟩) (vb bb).length k2) (vb bb).length (c8 (vb bb)) ((Own.bs hO2 (vb_byte bb)).src Tryz.underlying48 k2) (by unfold maxLen;omega) (by omega) (by have:=HO8.out.t.lt;omega);have ho3:w9.ownsRow (G+3) 5 1 v2' r.length (c8 r):=by rw[HRR.out,zw0,c8_app];exact ho2
      have hst:=Outs.put HO8.out HAP.out ho3 hgr2;obtain⟨A2,c3,rfl,_⟩:=own_shape ho3;obtain⟨hc9,hf9,hO9⟩:=hst;have HO9:=zh hO9;have HC9:=zh ((Chg.of_ext (base:=G+3) (bt:=G+2) (bo:=G+1) he8).trans ((Chg.of_row HO8.out.r hgr2).trans (Chg.of_set (G+1) (.slice A2 r.length c3) (.inr rfl))));have HRUN:=zh hrun;clear hrun ho2 ho3 hgr2 hO2 hE8 he8 hO9
      (try go_wp2_with fail)
      refine hK.out _ _ trivial fun _=>?_;clear hK K;refine zqO (i:=0) (by kernel_rfl) rfl fun K hK=>?_;go_simp;refine hK.out _ _ trivial fun _=>?_;clear hK K;refine zqO (i:=5) (by kernel_rfl) rfl fun K hK=>?_;refine wanted_append rfl (.tmp 42) (.tmp 46) 48 48 rfl _ _ rfl rfl HRUN.out ?_;refine hK.out _ _ trivial fun _=>?_;clear hK K;refine zqO (i:=6) (by kernel_rfl) rfl fun K hK=>?_;go_simp;refine hK.out _ _ trivial fun _=>?_;clear hK K;refine zw39 (by kernel_rfl) ?_ _;go_wp2_with fail;go_meet;exact⟨⟨_,HO9.out⟩,HC9.out⟩
    case rest=>
     obtain⟨⟨v9,hO9⟩,hC9⟩:=hcut;have HG9:=zh (Groups.chg HG3.out (by omega) (by omega) hC9);have HX9:=zh (hC9.old HX3.out (by have:=HG.out;omega) (by have:=HG.out;omega) (by have:=HG.out;omega));have HO9:=zh hO9;clear hO9 hC9 q1 q0 HG3 HX3 HO6;go_wp2_with fail
     go_loopw [7,49] (fun av iv wr=>InRel wc G a L xs av iv wr) (fun _ iv _=>L-(intOf iv).toNat)
     case atStart=>exact⟨0,a,M,Nat.zero_le _,rfl,rfl,rfl,HG9.out,Keep.refl _ _⟩
     case round=>
      obtain⟨k,p,M2,hk,hp,rfl,rfl,hG2,hK2⟩:=hrel;have HG2:=zh hG2;have HK2:=zh hK2;have HOK:=zh (HO9.out.keep HAP.out hK2);have HXK:=zh (keep_old hK2 HX9.out (by have:=HG.out;omega));clear hG2 hK2;have d2:=HOK.out.b.cell;by_cases hkl:k<L
      ·have z2:(k:Int)<(L:Int):=by omega
       have hpN:p<N:=by omega
       have HP:=zh hp;clear hp;go_wp2_with fail;refine(remember A N c p (G+3) (G+3) xs M2 _ (HB.out.ext HXK.out) (fun ad h=>by have:=HAD.out (by omega) ad h;omega) HG2.out hpN hN).mono ?_;rintro e w7 ⟨rfl,M7,hG7,hK7⟩;have HG7:=zh hG7;have HK7:=zh hK7;clear hG7 hK7;go_wp2_with fail
       go_roundw
       case rel=>exact⟨k+1,p+1,M7,by omega,by have:=HP.out;omega,by go_num,by go_num,HG7.out,HK2.out.trans HK7.out⟩
       case measure=>simp[intOf];omega
      ·have z2:¬(k:Int)<(L:Int):=by omega
       have hpl:p=a+L:=by omega
       have d0:=HOK.out.t.cell;have f0:=HOK.out.t.frozen;have HP:=zh hpl;clear hp hpl;have hpN:p≤N:=by have:=HP.out;omega
       have hpa:a<p:=by have:=HP.out;omega
       go_wp2_with fail
       go_roundw
       case rel=>exact⟨p,p,v9,r,M2,hpN,zw8 _,rfl,HOK.out.tell HAP.out rfl,Groups.chg HG2.out (by omega) (by omega) (Chg.of_set (bt:=G+2) (bo:=G+1) (G+2) _ (.inl rfl)),by rw[←HR.out,HP.out];exact HPK.out,(Chg.of_set (base:=G+3) (bt:=G+2) (bo:=G+1) (G+2) _ (.inl rfl)).old HXK.out (by have:=HG.out;omega) (by have:=HG.out;omega) (by have:=HG.out;omega)⟩
       case measure=>simp[intOf];omega
  ·have haN:a=N:=by omega
   have z0:¬(a:Int)<(N:Int):=by omega
   have HF:Hid (ys++litT ((xs.drop told).take (N-told))=R):=zh (by
    rw[←HE.out,pk_end (by rw[HXL.out];omega),List.take_of_length_le (by rw[zw1,HXL.out];exact zw8 _)])
   have HAN:=zh haN;clear haN;have htN:told≤N:=by omega
   go_wp2_with fail;refine(putRuns G N c told N A xs ys v _ HBr.out HAD.out hN hc1 hc2 HO.out htN (zw8 _) (by omega)).mono ?_;rintro e w2 ⟨rfl,v2,hO2,hC2⟩;rw[HF.out]at hO2;have d1:=hO2.o.cell;have HO2:=zh hO2;have HX2:=zh (hC2.old HEx.out (by have:=HG.out;omega) (by have:=HG.out;omega) (by have:=HG.out;omega));clear hO2 hC2 c2;go_wp2_with fail;go_ret;exact⟨_,rfl,own_low HO2.out.r (by have:=HG.out;omega),HX2.out⟩
theorem pk_small {xs:List Nat} (hx:∀j,xs.getD j 0<256):∀(n told a:Nat),xs.length-a=n→∀c∈pk xs told a,c<256:=by
 have hm:=mem_small hx;intro n
 induction n using Nat.strongRecOn with
 | ind n ih=>
  intro told a hn;by_cases h:a<xs.length
  ·by_cases h2:(bst xs a).2=0
   ·rw[pk_lit h h2];exact ih (xs.length-(a+1)) (by omega) told (a+1) rfl
   ·rw[pk_match h h2]
    rcases bst_good hx a with hg | ⟨g1,g2,g3,g4,g5,g6,g7⟩
    ·rw[hg]at h2;exact absurd rfl h2
    ·intro c hc
     rcases zw16.1 hc with hc | hc
     ·exact litT_small _ _ rfl (fun c hc=>hm c (List.mem_of_mem_drop (List.mem_of_mem_take hc))) c hc
     ·rcases zw30.1 hc with rfl | hc
      ·omega
      ·rcases zw16.1 hc with hc | hc
       ·exact mem_small (vb_byte _) c hc
       ·exact ih (xs.length-(a+(bst xs a).2)) (by omega) _ _ rfl c hc
  ·rw[pk_end (by omega)]
   exact litT_small _ _ rfl (fun c hc=>hm c (List.mem_of_mem_drop hc))
theorem pk_byte {xs:List Nat} (hx:∀j,xs.getD j 0<256):∀j,(pk xs 0 0).getD j 0<256:=small_mem (pk_small hx _ 0 0 rfl)
open Go.ChangeShapes Go.WideShapes Go.ChangeAt Go.RowKit
def MRel (w:World) (xs:List Nat) (f a:Nat) (nv:Value) (wr:World):Prop:=
 ∃n:Nat,n≤66∧a+n≤xs.length∧nv= .int .i64 (n:Int)∧(∀j,j<n→xs.getD (f+j) 0=xs.getD (a+j) 0)∧Ext w wr
def lkd (xs:List Nat) (a m:Nat):List Nat:=if a+3≤xs.length then(pls xs m a (key xs a)).reverse else []
def stR (xs:List Nat) (a m:Nat):Nat × Nat:=(lkd xs a m).foldl (pickR xs a) (0,0)
def plc (a:Nat) (s:Nat × Nat):Nat:=if s.2=0 then 0 else a-s.1
def QRel (w:World) (xs:List Nat) (a:Nat) (pv nv lv fv:Value) (wr:World):Prop:=
 ∃m:Nat,m≤a∧a-4096≤m∧(lkd xs a m).length≤16∧pv= .int .i64 (plc a (stR xs a m):Nat)∧nv= .int .i64 ((stR xs a m).2:Nat)∧lv= .int .i64 ((lkd xs a m).length:Nat)∧fv= .int .i64 ((m:Int)-1)∧(stR xs a m).2≤66∧Ext w wr
def RRRel (w:World) (R:List Nat) (M:Nat) (sv ov:Value) (wr:World):Prop:=
 ∃(X:ByteArray) (E:List Nat),sv= .string X∧ov= .string (strOf E)∧X.size≤M∧E++litT (natsOf X)=R∧Ext w wr
end Go.Proofs.YtidnboeihkeljaaGreatDoor.Lz
