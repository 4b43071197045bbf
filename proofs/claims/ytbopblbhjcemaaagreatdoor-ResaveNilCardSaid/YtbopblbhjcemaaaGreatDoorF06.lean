
import Derived.Test.YtbopblbhjcemaaaGreatDoorF05
import Derived.Test.YtbopblbhjcemaaaGreatDoorF12
set_option maxHeartbeats 16000000
set_option maxRecDepth 100000
set_option linter.all false
namespace Go.Proofs.YtbopblbhjcemaaaGreatDoor.Lz
open Go.ChangeShapes Go.WideShapes Go.ChangeAt Go.RowKit Go.Shelf
open Wire Go.Proofs.YtbopblbhjcemaaaGreatDoor.Map32
def PkRel (W:World) (G N:Nat) (sl:Value) (xs:List Nat) (av:Value) (wr:World):Prop:=
 ∃(a told:Nat) (v:Value) (ys:List Nat) (M:Nat→Option Value),a≤N∧told≤a∧av= .int .i64 (a:Int)∧Outs wr (G+3) (G+2) (G+1) G told v sl ys∧Groups wr (G+3) 3 (G+3) M (seen xs a)∧ys++pk xs told a=pk xs 0 0∧Ext W wr
def InRel (W:World) (G a L:Nat) (xs:List Nat) (av iv:Value) (wr:World):Prop:=
 ∃(k p:Nat) (M:Nat→Option Value),k≤L∧p=a+k∧iv= .int .i64 (k:Int)∧av= .int .i64 (p:Int)∧Groups wr (G+3) 3 (G+3) M (seen xs p)∧Keep (G+3) W wr
def PkPost (w:World) (zs:List Nat) (e:Ending) (w':World):Prop:=∃v,e= .returned v∧Wire.Own w w' v zs∧Ext w w'
theorem own_low {w:World} {a b:Nat} {e:TypeId} {size n:Nat} {v:Value} {xs:List Value} (h:w.ownsRow b e size v n xs) (hab:a≤b):w.ownsRow a e size v n xs:=by
 rcases h with ⟨hl,hq | ⟨g,cap,cur,hv,hb,r⟩⟩
 ·exact⟨hl,.inl hq⟩
 ·exact⟨hl,.inr ⟨g,cap,cur,hv,zw10 hab hb,r⟩⟩
theorem keep_old {a b c:World} {base:Nat} (h:Keep base b c) (e:Ext a b) (hb:a.heap.size≤base):Ext a c:=
 ⟨h.low.os.trans e.os,h.low.tape.trans e.tape,h.low.output.trans e.output,zw10 e.size h.low.size,fun k hk=>(h.low.block k (by omega)).trans (e.block k hk)⟩
theorem pack (A:Option Addr) (N c:Nat) (xs:List Nat) (w:World) (hB:Bs w A N xs) (hN:N≤1000000) (hc1:N≤c) (hc2:c≤9223372036854775807):
  Calls Tryz.prog 88 #[.slice A N c] w (PkPost w (pk xs 0 0)):=by
 have hxl:xs.length=N:=hB.1;obtain⟨G,hG⟩:∃G,G=w.heap.size:=⟨_,rfl⟩;have hAd:0<N→∀ad,A=some ad→ad.block<G:=fun h0 ad ha=>by
  obtain⟨b,o,he,hb,_⟩:=hB.2.2 h0;rw[ha]at he;obtain rfl:=zw13 he;rw[hG];exact hb
 have hpl:=pk_len hB.2.1 _ 0 0 rfl (zw8 _) (Nat.zero_le _);rw[hxl]at hpl;have HB:=zh hB;have HAD:=zh hAd;have HXL:=zh hxl;have HG:=zh hG;have HAP:=zh (apart_of G);have HGD:=zh (bst_good hB.2.1);obtain⟨R,hR⟩:∃R,R=pk xs 0 0:=⟨_,rfl⟩;have HR:=zh hR;rw[←hR]at hpl ⊢;have hRl:R.length≤2000000:=by omega
 obtain⟨i0,hi0,hz0,hz1,hz2⟩:=info_parts info8;have HI:=zh (And.intro hi0 (And.intro hz0 (And.intro hz1 hz2)));clear hi0 hz0 hz1 hz2;clear hB hAd hxl hR hpl hG;have hmm:=@run_makeMap Tryz.prog;go_enter Tryz.func88,Tryz.ntmps88;go_wp2_with fail;have hE0:Ext w ((((w.alloc (.cells #[.slice A N c] 22)).alloc (.cells #[.slice none 0 0] 22)).alloc (.cells #[.int .i64 0] 3)).alloc (.map #[] 0)):=zxa (zxa (zxa (zxa (zxr w) _) _) _) _;have hO0:Outs ((((w.alloc (.cells #[.slice A N c] 22)).alloc (.cells #[.slice none 0 0] 22)).alloc (.cells #[.int .i64 0] 3)).alloc (.map #[] 0)) (w.heap.size+3) (w.heap.size+2) (w.heap.size+1) w.heap.size 0 (.slice none 0 0) (.slice A N c) []:=by
  have b1:=Boxed.new w 22 (.slice A N c);have b2:=Boxed.new (w.alloc (.cells #[.slice A N c] 22)) 22 (.slice none 0 0);have b3:=Boxed.new ((w.alloc (.cells #[.slice A N c] 22)).alloc (.cells #[.slice none 0 0] 22)) 3 (.int .i64 0);simp only[zw22]at b2 b3;exact⟨b3.alloc _,(b2.alloc _).alloc _,((b1.alloc _).alloc _).alloc _,World.ownsRow_nil _ _ _ _⟩
 have hG0:=Groups.new (((w.alloc (.cells #[.slice A N c] 22)).alloc (.cells #[.slice none 0 0] 22)).alloc (.cells #[.int .i64 0] 3)) (w.heap.size+3) 3 (by simp only[zw22];omega);simp only[zw22,Nat.add_assoc,Nat.reduceAdd]at hG0 ⊢;have HE0:=zh hE0;have HO0:=zh hO0;have HG0:=zh hG0;clear hE0 hO0 hG0 hmm;obtain⟨W0,hW0⟩:∃W,W=((((w.alloc (.cells #[.slice A N c] 22)).alloc (.cells #[.slice none 0 0] 22)).alloc (.cells #[.int .i64 0] 3)).alloc (.map #[] 0)):=⟨_,rfl⟩;rw[←hW0]at HE0 HO0 HG0 ⊢;rw[←HG.out]at HO0 HG0 ⊢;clear hW0;go_wp2_with fail
 go_loopw [7] (fun av wr=>PkRel w G N (.slice A N c) xs av wr) (fun av _=>N-(intOf av).toNat)
 case atStart=>exact⟨0,0,_,_,_,Nat.zero_le _,zw8 _,rfl,HO0.out,HG0.out,by rw[zw17],HE0.out⟩
 case round=>
  clear HO0 HG0 HE0;obtain⟨a,told,v,ys,M,ha,hta,rfl,hO,hGr,hE,hEx⟩:=hrel;rw[←HR.out]at hE;have hyl:ys.length≤2000000:=by
   have e:=congrArg List.length hE;rw[zw0]at e;omega
  have c2:=hO.b.cell;have HO:=zh hO;have HGr:=zh hGr;have HE:=zh hE;have HEx:=zh hEx;have HBr:=zh (HB.out.ext hEx);clear hO hGr hE hEx;obtain⟨wo,hwo⟩:∃wo,wo=wr:=⟨_,rfl⟩;subst hwo;by_cases hlt:a<N
  ·have z0:(a:Int)<(N:Int):=by omega
   go_wp2_with fail;refine(best A N c a (G+3) (G+3) xs M _ HBr.out HGr.out hlt hN).mono ?_;rintro e w1 ⟨rfl,b1⟩;have HE1:=zh b1;have c3:=(HO.out.ext b1).b.cell;clear b1 c2;obtain⟨B,L,hBL⟩:∃B L,bst xs a=(B,L):=⟨_,_,rfl⟩;have hgood:=HGD.out a;rw[hBL]at hgood ⊢;simp only;have HBL:=zh hBL;clear hBL;have HO1:=zh (HO.out.ext HE1.out);have HG1:=zh (HGr.out.ext HE1.out);have HB1:=zh (HBr.out.ext HE1.out);have HX1:=zh (zxt HEx.out HE1.out);by_cases hL:L=0
   ·subst hL
    have HPK:Hid (pk xs told a=pk xs told (a+1)):=zh (pk_lit (by rw[HXL.out];exact hlt) (by rw[HBL.out]));clear hgood;go_wp2_with fail;refine(remember A N c a (G+3) (G+3) xs M _ HB1.out (fun ad h=>by have:=HAD.out (by omega) ad h;omega) HG1.out hlt hN).mono ?_;rintro e w2 ⟨rfl,M2,hG2,hK2⟩;have HG2:=zh hG2;have HK2:=zh hK2;clear hG2 hK2;go_wp2_with fail
    go_roundw
    case rel=>exact⟨a+1,told,v,ys,M2,by omega,by omega,by go_num,HO1.out.keep HAP.out HK2.out,HG2.out,by rw[←HPK.out,←HR.out];exact HE.out,keep_old HK2.out HX1.out (by have:=HG.out;omega)⟩
    case measure=>simp[intOf];omega
   ·obtain⟨h3,h66,haN,hB1,hB4,hBa⟩:3≤L∧L≤66∧a+L≤N∧1≤B∧B≤4096∧B≤a:=by
     rcases hgood with h | h
     ·exact absurd (Prod.mk.inj h).2 hL
     ·simp only at h;have:=HXL.out;omega
    have HPK:Hid (ys++litT ((xs.drop told).take (a-told))++[2*(L-3)+1]++vb (B-1)++pk xs (a+L) (a+L)=R):=zh (by
     have e:=pk_match (xs:=xs) (told:=told) (a:=a) (by rw[HXL.out];exact hlt) (by rw[HBL.out];exact hL);rw[HBL.out]at e;rw[←HE.out,e];simp only[zw7,List.cons_append,zw17])
    clear hgood;have z1:((L:Int)==0)=false:=zw12.2 (by omega);clear hL;go_wp2_with fail;refine(putRuns G N c told a A xs ys v _ HB1.out HAD.out hN hc1 hc2 HO1.out hta (by omega) (by omega)).mono ?_;rintro e w2 ⟨rfl,v2,hO2,hC2⟩;obtain⟨zs,hzs⟩:∃zs,zs=ys++litT ((xs.drop told).take (a-told)):=⟨_,rfl⟩;rw[←hzs]at hO2;rw[←hzs]at HPK;clear hzs;have hzl:zs.length≤2000000:=by
     have e:=congrArg List.length HPK.out;simp only[zw0]at e;omega
    have HO2:=zh hO2;have HG2:=zh (Groups.chg HG1.out (by omega) (by omega) hC2);have HX2:=zh (hC2.old HX1.out (by have:=HG.out;omega) (by have:=HG.out;omega) (by have:=HG.out;omega));have HB2:=zh (HB.out.ext HX2.out);clear hO2 hC2 c3;obtain⟨m,hm⟩:∃m,m=2*(L-3)+1:=⟨_,rfl⟩;have q0:(2:Int)*((L:Int)-3)+1=(m:Int):=by omega
    have hm1:m≤127:=by omega
    have HM:=zh hm;clear hm;rw[←HM.out]at HPK;have HO3:=zh (HO2.out.ext (zxa (zxr w2) (.cells #[.int .u8 (m:Int)] 5)));have HSR:=zh (src_one w2 m);have d1:=HO2.out.o.cell;have hzs:=HO3.out.t.lt;go_wp2_with (at_builtin;refine wpList_app_own rfl (.tmp 34) (.tmp 40) 22 22 rfl 5 i0 (.int .u8 0) 1 1 Tryz.underlying22 HI.out.1 HI.out.2.1 HI.out.2.2.1 HI.out.2.2.2 rfl (G+3) v2 _ zs.length (c8 zs) rfl rfl HO3.out.r [m].length (c8 [m]) HSR.out (by unfold maxLen;simp;omega) (by simp;omega) (by omega) ?_;intro v5 w5 hown5 hgr5;have hst:=Outs.put HO3.out HAP.out (zs:=zs++[m]) (by rw[zw0,c8_app];exact hown5) hgr5;obtain⟨A5,k5,rfl,_⟩:=own_shape hown5;obtain⟨hc5,hf5,hO5⟩:=hst;have HO5:=zh hO5;have HC5:=zh ((Chg.of_ext (base:=G+3) (bt:=G+2) (bo:=G+1) (zxa (zxr w2) (.cells #[.int .u8 (m:Int)] 5))).trans ((Chg.of_row HO3.out.r hgr5).trans (Chg.of_set (G+1) (.slice A5 (zs.length+[m].length) k5) (.inr rfl))));clear hown5 hgr5 hO5)
    have HO6:Hid (Outs (w5.setCell ⟨G+1,0,none⟩ (.slice A5 (zs.length+1) k5)) (G+3) (G+2) (G+1) G a (.slice A5 (zs.length+1) k5) (.slice A N c) (zs++[m])):=HO5;have HC6:Hid (Chg (G+3) (G+2) (G+1) w2 (w5.setCell ⟨G+1,0,none⟩ (.slice A5 (zs.length+1) k5))):=HC5;clear HO5 HC5 HO3 HSR hzs hc5 hf5 d1;obtain⟨W1,hW1⟩:∃W,W=w5.setCell ⟨G+1,0,none⟩ (.slice A5 (zs.length+1) k5):=⟨_,rfl⟩;rw[←hW1]at HO6 HC6 ⊢;clear hW1;have HG3:=zh (Groups.chg HG2.out (by omega) (by omega) HC6.out);have HX3:=zh (HC6.out.old HX2.out (by have:=HG.out;omega) (by have:=HG.out;omega) (by have:=HG.out;omega));clear HG2 HX2 HC6 HB2;obtain⟨q,hq⟩:∃q,q=zs++[m]:=⟨_,rfl⟩;rw[←hq]at HO6 HPK;have hql:q.length≤2000001:=by rw[hq,zw0];simp;omega
    obtain⟨u5,hu5⟩:∃u5,u5=Value.slice A5 (zs.length+1) k5:=⟨_,rfl⟩;rw[←hu5]at HO6;clear hq hu5;obtain⟨bb,hbb⟩:∃bb,bb=B-1:=⟨_,rfl⟩;have q1:(B:Int)-1=(bb:Int):=by omega
    have hbb2:bb<4096:=by omega
    rw[←hbb]at HPK;clear hbb;obtain⟨r,hr⟩:∃r,r=q++vb bb:=⟨_,rfl⟩;rw[←hr]at HPK;have HRR:=zh hr;clear hr
    go_cut [] (fun wx=>(∃v9,Outs wx (G+3) (G+2) (G+1) G a v9 (.slice A N c) r)∧Chg (G+3) (G+2) (G+1) W1 wx)
    case first=>
     have d1:=HO6.out.o.cell;have q2:IntKind.i64.wrap (bb:Int)=(bb:Int):=by rw[IntKind.wrap_i64];omega
     have q3:IntKind.u64.wrap (bb:Int)=(bb:Int):=by rw[IntKind.wrap_u64];omega
     have hv1:=vb_ten (n:=bb) (by omega);refine zw38 (S:=fun _=>True) hmx trivial (fun _=>?_)
     (refine zw40 (i:=1) (v:=?_) rfl (by kernel_rfl) (by kernel_rfl) (by kernel_rfl) (fun _ _ _ h=>h) (Or.inl ⟨by rfl,?_⟩) trivial ?_);rotate_left
     ·(intro w hSw;go_simp;try with_reducible rfl)
     (refine zw40 (i:=2) (v:=?_) rfl (by kernel_rfl) (by kernel_rfl) (by kernel_rfl) (fun _ _ _ h=>h) (Or.inl ⟨by rfl,?_⟩) trivial ?_);rotate_left
     ·(intro w hSw;go_simp;try with_reducible rfl)
     (refine zw40 (i:=3) (v:=?_) rfl (by kernel_rfl) (by kernel_rfl) (by kernel_rfl) (fun _ _ _ h=>h) (Or.inl ⟨by rfl,?_⟩) trivial ?_);rotate_left
     ·(intro w hSw;go_simp;try with_reducible rfl)
     refine zw41 (rs:=[0,4]) (by kernel_rfl) (by simp) ?_;refine AllReadyH.cons rfl (fun K hK=>?_) (AllReadyH.cons rfl (fun K hK=>?_) zw42)
     ·go_simp
      refine hK.out _ _ trivial fun _=>?_;clear hK K;refine zqO (i:=4) (by kernel_rfl) rfl fun K hK=>?_;go_simp;refine(put none 0 0 [] bb (by omega) _ (Bs.none _ _) (fun _=>⟨rfl,rfl⟩) (by omega) (by omega) (by omega)).mono ?_;rintro e w8 ⟨g2,k2,rfl,hd3,hd4,hg2,hO2,hE8⟩;rw[zw17]at hO2 hd3 ⊢;have he8:Ext W1 w8:=zxt (zxd (zxr W1)) hE8;have HO8:=zh (HO6.out.ext he8);have hc8:=HO8.out.o.cell;obtain⟨v2',w9,hrun,ho2,hgr2⟩:=run_app_own (P:=Tryz.prog) 22 22 22 5 i0 (.int .u8 0) 1 1 Tryz.underlying22 HI.out.1 HI.out.2.1 HI.out.2.2.1 HI.out.2.2.2 rfl (G+3) u5 q.length (c8 q) HO8.out.r (.slice (some ⟨g2,0,none⟩) (vb bb).length k2) (vb bb).length (c8 (vb bb)) ((Own.bs hO2 (vb_byte bb)).src Tryz.underlying22 k2) (by unfold maxLen;omega) (by omega) (by have:=HO8.out.t.lt;omega);have ho3:w9.ownsRow (G+3) 5 1 v2' r.length (c8 r):=by rw[HRR.out,zw0,c8_app];exact ho2
      have hst:=Outs.put HO8.out HAP.out ho3 hgr2;obtain⟨A2,c3,rfl,_⟩:=own_shape ho3;obtain⟨hc9,hf9,hO9⟩:=hst;have HO9:=zh hO9;have HC9:=zh ((Chg.of_ext (base:=G+3) (bt:=G+2) (bo:=G+1) he8).trans ((Chg.of_row HO8.out.r hgr2).trans (Chg.of_set (G+1) (.slice A2 r.length c3) (.inr rfl))));have HRUN:=zh hrun;clear hrun ho2 ho3 hgr2 hO2 hE8 he8 hO9
      (try go_wp2_with fail)
      refine hK.out _ _ trivial fun _=>?_;clear hK K;refine zqO (i:=5) (by kernel_rfl) rfl fun K hK=>?_;refine wanted_append rfl (.tmp 42) (.tmp 46) 22 22 rfl _ _ rfl rfl HRUN.out ?_;refine hK.out _ _ trivial fun _=>?_;clear hK K;refine zqO (i:=6) (by kernel_rfl) rfl fun K hK=>?_;go_simp;refine hK.out _ _ trivial fun _=>?_;clear hK K;refine zw39 (by kernel_rfl) ?_ _;go_wp2_with fail;go_meet;exact⟨⟨_,HO9.out⟩,HC9.out⟩
     ·go_simp
      refine(put none 0 0 [] bb (by omega) _ (Bs.none _ _) (fun _=>⟨rfl,rfl⟩) (by omega) (by omega) (by omega)).mono ?_;rintro e w8 ⟨g2,k2,rfl,hd3,hd4,hg2,hO2,hE8⟩;rw[zw17]at hO2 hd3 ⊢;have he8:Ext W1 w8:=zxt (zxd (zxr W1)) hE8;have HO8:=zh (HO6.out.ext he8);have hc8:=HO8.out.o.cell;obtain⟨v2',w9,hrun,ho2,hgr2⟩:=run_app_own (P:=Tryz.prog) 22 22 22 5 i0 (.int .u8 0) 1 1 Tryz.underlying22 HI.out.1 HI.out.2.1 HI.out.2.2.1 HI.out.2.2.2 rfl (G+3) u5 q.length (c8 q) HO8.out.r (.slice (some ⟨g2,0,none⟩) (vb bb).length k2) (vb bb).length (c8 (vb bb)) ((Own.bs hO2 (vb_byte bb)).src Tryz.underlying22 k2) (by unfold maxLen;omega) (by omega) (by have:=HO8.out.t.lt;omega);have ho3:w9.ownsRow (G+3) 5 1 v2' r.length (c8 r):=by rw[HRR.out,zw0,c8_app];exact ho2
      have hst:=Outs.put HO8.out HAP.out ho3 hgr2;obtain⟨A2,c3,rfl,_⟩:=own_shape ho3;obtain⟨hc9,hf9,hO9⟩:=hst;have HO9:=zh hO9;have HC9:=zh ((Chg.of_ext (base:=G+3) (bt:=G+2) (bo:=G+1) he8).trans ((Chg.of_row HO8.out.r hgr2).trans (Chg.of_set (G+1) (.slice A2 r.length c3) (.inr rfl))));have HRUN:=zh hrun;clear hrun ho2 ho3 hgr2 hO2 hE8 he8 hO9
      (try go_wp2_with fail)
      refine hK.out _ _ trivial fun _=>?_;clear hK K;refine zqO (i:=0) (by kernel_rfl) rfl fun K hK=>?_;go_simp;refine hK.out _ _ trivial fun _=>?_;clear hK K;refine zqO (i:=5) (by kernel_rfl) rfl fun K hK=>?_;refine wanted_append rfl (.tmp 42) (.tmp 46) 22 22 rfl _ _ rfl rfl HRUN.out ?_;refine hK.out _ _ trivial fun _=>?_;clear hK K;refine zqO (i:=6) (by kernel_rfl) rfl fun K hK=>?_;go_simp;refine hK.out _ _ trivial fun _=>?_;clear hK K;refine zw39 (by kernel_rfl) ?_ _;go_wp2_with fail;go_meet;exact⟨⟨_,HO9.out⟩,HC9.out⟩
    case rest=>
     obtain⟨⟨v9,hO9⟩,hC9⟩:=hcut;have HG9:=zh (Groups.chg HG3.out (by omega) (by omega) hC9);have HX9:=zh (hC9.old HX3.out (by have:=HG.out;omega) (by have:=HG.out;omega) (by have:=HG.out;omega));have HO9:=zh hO9;clear hO9 hC9 q1 q0 HG3 HX3 HO6;go_wp2_with fail
     go_loopw [7,49] (fun av iv wr=>InRel wc G a L xs av iv wr) (fun _ iv _=>L-(intOf iv).toNat)
     case atStart=>exact⟨0,a,M,Nat.zero_le _,rfl,rfl,rfl,HG9.out,Keep.refl _ _⟩
     case round=>
      obtain⟨k,p,M2,hk,hp,rfl,rfl,hG2,hK2⟩:=hrel;have HG2:=zh hG2;have HK2:=zh hK2;have HOK:=zh (HO9.out.keep HAP.out hK2);have HXK:=zh (keep_old hK2 HX9.out (by have:=HG.out;omega));clear hG2 hK2;have d2:=HOK.out.b.cell;by_cases hkl:k<L
      ·have z2:(k:Int)<(L:Int):=by omega
       have hpN:p<N:=by omega
       have HP:=zh hp;clear hp;go_wp2_with fail;refine(remember A N c p (G+3) (G+3) xs M2 _ (HB.out.ext HXK.out) (fun ad h=>by have:=HAD.out (by omega) ad h;omega) HG2.out hpN hN).mono ?_;rintro e w7 ⟨rfl,M7,hG7,hK7⟩;have HG7:=zh hG7;have HK7:=zh hK7;clear hG7 hK7;go_wp2_with fail
       go_roundw
       case rel=>exact⟨k+1,p+1,M7,by omega,by have:=HP.out;omega,by go_num,by go_num,HG7.out,HK2.out.trans HK7.out⟩
       case measure=>simp[intOf];omega
      ·have z2:¬(k:Int)<(L:Int):=by omega
       have hpl:p=a+L:=by omega
       have d0:=HOK.out.t.cell;have f0:=HOK.out.t.frozen;have HP:=zh hpl;clear hp hpl;have hpN:p≤N:=by have:=HP.out;omega
       have hpa:a<p:=by have:=HP.out;omega
       go_wp2_with fail
       go_roundw
       case rel=>exact⟨p,p,v9,r,M2,hpN,zw8 _,rfl,HOK.out.tell HAP.out rfl,Groups.chg HG2.out (by omega) (by omega) (Chg.of_set (bt:=G+2) (bo:=G+1) (G+2) _ (.inl rfl)),by rw[←HR.out,HP.out];exact HPK.out,(Chg.of_set (base:=G+3) (bt:=G+2) (bo:=G+1) (G+2) _ (.inl rfl)).old HXK.out (by have:=HG.out;omega) (by have:=HG.out;omega) (by have:=HG.out;omega)⟩
       case measure=>simp[intOf];omega
  ·have haN:a=N:=by omega
   have z0:¬(a:Int)<(N:Int):=by omega
   have HF:Hid (ys++litT ((xs.drop told).take (N-told))=R):=zh (by
    rw[←HE.out,pk_end (by rw[HXL.out];omega),List.take_of_length_le (by rw[zw1,HXL.out];exact zw8 _)])
   have HAN:=zh haN;clear haN;have htN:told≤N:=by omega
   go_wp2_with fail;refine(putRuns G N c told N A xs ys v _ HBr.out HAD.out hN hc1 hc2 HO.out htN (zw8 _) (by omega)).mono ?_;rintro e w2 ⟨rfl,v2,hO2,hC2⟩;rw[HF.out]at hO2;have d1:=hO2.o.cell;have HO2:=zh hO2;have HX2:=zh (hC2.old HEx.out (by have:=HG.out;omega) (by have:=HG.out;omega) (by have:=HG.out;omega));clear hO2 hC2 c2;go_wp2_with fail;go_ret;exact⟨_,rfl,own_low HO2.out.r (by have:=HG.out;omega),HX2.out⟩
theorem pk_small {xs:List Nat} (hx:∀j,xs.getD j 0<256):∀(n told a:Nat),xs.length-a=n→∀c∈pk xs told a,c<256:=by
 have hm:=mem_small hx;intro n
 induction n using Nat.strongRecOn with
 | ind n ih=>
  intro told a hn;by_cases h:a<xs.length
  ·by_cases h2:(bst xs a).2=0
   ·rw[pk_lit h h2];exact ih (xs.length-(a+1)) (by omega) told (a+1) rfl
   ·rw[pk_match h h2]
    rcases bst_good hx a with hg | ⟨g1,g2,g3,g4,g5,g6,g7⟩
    ·rw[hg]at h2;exact absurd rfl h2
    ·intro c hc
     rcases zw16.1 hc with hc | hc
     ·exact litT_small _ _ rfl (fun c hc=>hm c (List.mem_of_mem_drop (List.mem_of_mem_take hc))) c hc
     ·rcases zw30.1 hc with rfl | hc
      ·omega
      ·rcases zw16.1 hc with hc | hc
       ·exact mem_small (vb_byte _) c hc
       ·exact ih (xs.length-(a+(bst xs a).2)) (by omega) _ _ rfl c hc
  ·rw[pk_end (by omega)]
   exact litT_small _ _ rfl (fun c hc=>hm c (List.mem_of_mem_drop hc))
theorem pk_byte {xs:List Nat} (hx:∀j,xs.getD j 0<256):∀j,(pk xs 0 0).getD j 0<256:=small_mem (pk_small hx _ 0 0 rfl)
open Go.ChangeShapes Go.WideShapes Go.ChangeAt Go.RowKit
open Com (natsOf_get str_ext)
def MRel (w:World) (xs:List Nat) (f a:Nat) (nv:Value) (wr:World):Prop:=
 ∃n:Nat,n≤66∧a+n≤xs.length∧nv= .int .i64 (n:Int)∧(∀j,j<n→xs.getD (f+j) 0=xs.getD (a+j) 0)∧Ext w wr
theorem refMatch (s:ByteArray) (f a:Nat) (w:World) (hs:s.size≤1000000) (hf:f<a) (ha:a≤s.size):
  Calls Tryz.prog 151 #[.string s,.int .i64 (f:Int),.int .i64 (a:Int)] w fun e w'=>e= .returned (.int .i64 (mt (natsOf s) f a:Nat))∧Ext w w':=by
 have hl:(natsOf s).length=s.size:=natsOf_len s;have HL:=zh hl;clear hl;have HG:=zh (fun k hk=>natsOf_get s k hk);go_enter Tryz.func151,Tryz.ntmps151;go_wp2_with fail
 go_loopw [7] (fun nv wr=>MRel w (natsOf s) f a nv wr) (fun nv wr=>66-(intOf nv).toNat)
 case atStart=>exact⟨0,by omega,by rw[HL.out];exact ha,rfl,fun j hj=>by omega,zxr _⟩
 case round=>
  obtain⟨n,hn,hna,rfl,hj,hE⟩:=hrel;rw[HL.out]at hna;have HJ:=zh hj;have HE:=zh hE;clear hj hE;have HX:Hid (∀m,Ext w (wr.drewN m)):=zh (fun m=>ext_drewN HE.out m);go_wp2_with fail;by_cases h66:n<66
  ·have z0:(n:Int)<66:=by omega
   by_cases hin:a+n<s.size
   ·have z1:(a:Int)+(n:Int)<(s.size:Int):=by omega
    have HST:=zh (fun h=>mt_stop (xs:=natsOf s) (f:=f) (a:=a) (n:=n) (by rw[HL.out];omega) HJ.out h);have g1:=HG.out (f+n) (by omega);have g2:=HG.out (a+n) hin;rw[g1,g2]at HST;have s1:(0:Int)≤(f:Int)+(n:Int):=by omega
    have s2:(f:Int)+(n:Int)<(s.size:Int):=by omega
    have s3:((f:Int)+(n:Int)).toNat=f+n:=by omega
    have s4:(0:Int)≤(a:Int)+(n:Int):=by omega
    have s6:((a:Int)+(n:Int)).toNat=a+n:=by omega
    by_cases heq:s[f+n].toNat=s[a+n].toNat
    ·have HJ2:Hid (∀j,j<n+1→(natsOf s).getD (f+j) 0=(natsOf s).getD (a+j) 0):=zh (fun j hj=>by
      by_cases h:j=n
      ·rw[h,g1,g2];exact heq
      ·exact HJ.out j (by omega))
     have z5:(((s[f+n].toNat:Nat):Int)==((s[a+n].toNat:Nat):Int))=true:=beq_iff_eq.2 (by omega);clear g1 g2 HST
     go_quiet (fail)
     go_wp2_with fail;exact⟨⟨n+1,by omega,by rw[HL.out];omega,by go_num,HJ2.out,HX.out _⟩,by simp only[intOf];omega⟩
    ·have hnm:=HST.out heq
     have z5:(((s[f+n].toNat:Nat):Int)==((s[a+n].toNat:Nat):Int))=false:=zw12.2 (by omega);clear g1 g2 HST;have HNM:=zh hnm;clear hnm
     go_quiet (fail)
     go_wp2_with fail;refine bodyPost_ret (results_tmp rfl _ _ _) rfl ?_;exact⟨by rw[HNM.out];rfl,HX.out _⟩
   ·have z1:decide ((a:Int)+(n:Int)<(s.size:Int))=false:=zw14 (by omega)
    have HNM:=zh (mt_most (xs:=natsOf s) (f:=f) (a:=a) (n:=n) (by rw[HL.out];omega) HJ.out)
    go_quiet (fail)
    go_wp2_with fail;refine bodyPost_ret (results_tmp rfl _ _ _) rfl ?_;exact⟨by rw[HNM.out];rfl,HX.out _⟩
  ·have z0:decide ((n:Int)<66)=false:=zw14 (by omega)
   have HNM:=zh (mt_most (xs:=natsOf s) (f:=f) (a:=a) (n:=n) (by rw[HL.out];omega) HJ.out)
   go_quiet (fail)
   go_wp2_with fail;refine bodyPost_ret (results_tmp rfl _ _ _) rfl ?_;exact⟨by rw[HNM.out];rfl,HX.out _⟩
theorem pls_empty (xs:List Nat) (m k:Nat):pls xs m m k=[]:=by
 apply List.eq_nil_iff_forall_not_mem.2;intro p hp;rw[pls_mem]at hp;omega
theorem pls_split {xs:List Nat} {lo m k:Nat} (h:lo≤m):∀hi,m≤hi→pls xs lo hi k=pls xs lo m k++pls xs m hi k:=by
 intro hi
 induction hi with
 | zero=>
  intro hm;obtain rfl:m=0:=by omega
  rw[pls_empty,zw18]
 | succ hi ih=>
  intro hm;by_cases he:m=hi+1
  ·subst he;rw[pls_empty,zw18]
  ·rw[pls_snoc (by omega),pls_snoc (by omega),ih (by omega)]
   split
   ·rw[zw7]
   ·rfl
theorem last16_app {l r:List Nat} (h:r.length=16):last16 (l++r)=r:=by
 unfold last16;rw[zw0,show l.length+r.length-16=l.length from by omega,List.drop_left]
theorem seen_all {xs:List Nat} {a m k:Nat} (hm:m≤a) (hw:a-4096≤m) (hl:(pls xs m a k).length≤16) (he:m=a-4096∨(pls xs m a k).length=16):seen xs a k=pls xs m a k:=by
 unfold seen;generalize a-4096=lo at*;rcases he with he | he
 ·rw[←he];exact last16_few hl
 ·rw[pls_split hw a hm,last16_app he]
theorem mt_three {xs:List Nat} (hx:∀j,xs.getD j 0<256) {a f:Nat} (hf:f<a):3≤mt xs f a↔a+3≤xs.length∧key xs f=key xs a:=by
 constructor
 ·intro h
  have h1:=mt_le xs f a;refine⟨by omega,(key_inj hx).2 ⟨?_,?_,?_⟩⟩
  ·have:=mtU_eq (xs:=xs) (f:=f) (a:=a) _ 0 (show 0<mt xs f a by omega);simpa using this
  ·exact mtU_eq (xs:=xs) (f:=f) (a:=a) _ 1 (show 1<mt xs f a by omega)
  ·exact mtU_eq (xs:=xs) (f:=f) (a:=a) _ 2 (show 2<mt xs f a by omega)
 ·rintro ⟨h1,h2⟩
  obtain⟨e0,e1,e2⟩:=(key_inj hx).1 h2;refine mtU_ge _ 3 (by omega) (fun j hj=>?_);rcases(show j=0∨j=1∨j=2 by omega)with rfl | rfl | rfl
  ·simpa using e0
  ·exact e1
  ·exact e2
def lkd (xs:List Nat) (a m:Nat):List Nat:=if a+3≤xs.length then(pls xs m a (key xs a)).reverse else []
def stR (xs:List Nat) (a m:Nat):Nat × Nat:=(lkd xs a m).foldl (pickR xs a) (0,0)
def plc (a:Nat) (s:Nat × Nat):Nat:=if s.2=0 then 0 else a-s.1
theorem lkd_step {xs:List Nat} (hx:∀j,xs.getD j 0<256) {a m:Nat} (hm:m<a) (ha:a≤xs.length):lkd xs a m=if 3≤mt xs m a then lkd xs a (m+1)++[m]else lkd xs a (m+1):=by
 unfold lkd;by_cases h:a+3≤xs.length
 ·rw[if_pos h,if_pos h,filter_lo a hm]
  by_cases hk:key xs m=key xs a
  ·rw[if_pos ⟨by omega,hk⟩,if_pos ((mt_three hx hm).2 ⟨h,hk⟩),List.reverse_cons]
  ·rw[if_neg (fun e=>hk e.2),if_neg (fun e=>hk ((mt_three hx hm).1 e).2)]
 ·rw[if_neg h,if_neg h,if_neg (fun e=>h ((mt_three hx hm).1 e).1)]
theorem stR_step {xs:List Nat} (hx:∀j,xs.getD j 0<256) {a m:Nat} (hm:m<a) (ha:a≤xs.length):stR xs a m=if 3≤mt xs m a then pickR xs a (stR xs a (m+1)) m else stR xs a (m+1):=by
 unfold stR;rw[lkd_step hx hm ha]
 split
 ·rw[List.foldl_append];rfl
 ·rfl
theorem stR_end {xs:List Nat} (hx:∀j,xs.getD j 0<256) {a m:Nat} (hm:m≤a) (hw:a-4096≤m) (hl:(lkd xs a m).length≤16) (he:m=a-4096∨(lkd xs a m).length=16):stR xs a m=bst xs a:=by
 unfold stR lkd at*;by_cases h:a+3≤xs.length
 ·rw[if_pos h]at hl he ⊢
  rw[List.length_reverse]at hl he;rw[bst_ref hx h,seen_all hm hw hl he]
 ·rw[if_neg h,bst_end (by omega)];rfl
def QRel (w:World) (xs:List Nat) (a:Nat) (pv nv lv fv:Value) (wr:World):Prop:=
 ∃m:Nat,m≤a∧a-4096≤m∧(lkd xs a m).length≤16∧pv= .int .i64 (plc a (stR xs a m):Nat)∧nv= .int .i64 ((stR xs a m).2:Nat)∧lv= .int .i64 ((lkd xs a m).length:Nat)∧fv= .int .i64 ((m:Int)-1)∧(stR xs a m).2≤66∧Ext w wr
theorem refBest (s:ByteArray) (a:Nat) (w:World) (hs:s.size≤1000000) (ha:a≤s.size):
  Calls Tryz.prog 135 #[.string s,.int .i64 (a:Int)] w fun e w'=>e= .returned (.tuple #[.int .i64 (plc a (bst (natsOf s) a):Nat),.int .i64 ((bst (natsOf s) a).2:Nat)])∧Ext w w':=by
 have HX:=zh (natsOf_small s);have HL:=zh (natsOf_len s);have HM:=zh (fun f W (h:f<a)=>refMatch s f a W hs h ha);obtain⟨xs,hxs⟩:∃xs,xs=natsOf s:=⟨_,rfl⟩;rw[←hxs]at HX HL HM ⊢;clear hxs;go_enter Tryz.func135,Tryz.ntmps135;go_wp2_with fail
 go_loopw [6,7,8,9] (fun pv nv lv fv wr=>QRel w xs a pv nv lv fv wr) (fun _ _ _ fv wr=>(intOf fv+1).toNat)
 case atStart=>
  have e:lkd xs a a=[]:=by
   unfold lkd
   split
   ·rw[pls_empty];rfl
   ·rfl
  have e2:stR xs a a=(0,0):=by unfold stR;rw[e];rfl
  exact⟨a,zw8 _,by omega,by rw[e];exact Nat.zero_le _,by rw[e2];rfl,by rw[e2];rfl,by rw[e];rfl,rfl,by rw[e2];exact Nat.zero_le _,zxr _⟩
 case round=>
  obtain⟨m,hm,hw,hl16,rfl,rfl,rfl,rfl,h66,hE⟩:=hrel;have HE:=zh hE;clear hE;have HEND:Hid (m=a-4096∨(lkd xs a m).length=16→stR xs a m=bst xs a):=zh (fun h=>stR_end HX.out hm hw hl16 h);by_cases hend:m=a-4096∨(lkd xs a m).length=16
  ·have HB:=zh (HEND.out hend)
   obtain⟨P1,hP1⟩:∃P1,P1=plc a (stR xs a m):=⟨_,rfl⟩;obtain⟨N1,hN1⟩:∃N1,N1=(stR xs a m).2:=⟨_,rfl⟩;obtain⟨K,hK⟩:∃K,K=(lkd xs a m).length:=⟨_,rfl⟩;rw[←hP1,←hN1,←hK];rw[←hK]at hend hl16;have HP1:=zh hP1;have HN1:=zh hN1;clear hP1 hN1 hK h66 HEND;by_cases hm0:m=0
   ·have z1:¬(0:Int)≤(m:Int)-1:=by omega
    clear hend;go_wp2_with fail
    go_ret2
    exact⟨by rw[HP1.out,HN1.out,HB.out];rfl,HE.out⟩
   ·have z1:(0:Int)≤(m:Int)-1:=by omega
    by_cases hfar:m=a-4096
    ·have z2:¬(a:Int)-((m:Int)-1)≤4096:=by omega
     clear hend hfar;go_wp2_with fail
     go_ret2
     exact⟨by rw[HP1.out,HN1.out,HB.out];rfl,HE.out⟩
    ·have z2:(a:Int)-((m:Int)-1)≤4096:=by omega
     have z3:¬(K:Int)<16:=by omega
     clear hend;go_wp2_with fail
     go_ret2
     exact⟨by rw[HP1.out,HN1.out,HB.out];rfl,HE.out⟩
  ·obtain⟨f,rfl⟩:∃f,m=f+1:=⟨m-1,by omega⟩
   have HST:=zh (stR_step HX.out (a:=a) (m:=f) (by omega) (by rw[HL.out];exact ha));have HLK:=zh (lkd_step HX.out (a:=a) (m:=f) (by omega) (by rw[HL.out];exact ha));have hT66:=mt_le xs f a;clear HEND;generalize stR xs a (f+1)=S at*;generalize lkd xs a (f+1)=ls at*;obtain⟨P1,hP1⟩:∃P1,P1=plc a S:=⟨_,rfl⟩;rw[←hP1];have HP1:=zh hP1;clear hP1;obtain⟨S1,S2⟩:=S;simp only at h66 ⊢;have hK16:ls.length<16:=by omega
   have z1:(0:Int)≤(f:Int):=by omega
   have z2:(a:Int)-(f:Int)≤4096:=by omega
   have z3:(ls.length:Int)<16:=by omega
   clear hend;go_wp2_with fail;refine(HM.out f _ (by omega)).mono ?_;rintro e w1 ⟨rfl,b1⟩;have HE1:=zh (zxt HE.out b1);clear b1;obtain⟨T,hT⟩:∃T,mt xs f a=T:=⟨_,rfl⟩;rw[hT]at hT66 ⊢;have HT:=zh hT;clear hT;by_cases h3:3≤T
   ·have z4:¬(T:Int)<3:=by omega
    have HL2:Hid (lkd xs a f=ls++[f]):=zh (by rw[HLK.out,if_pos (by rw[HT.out];exact h3)]);have HS2:Hid (stR xs a f=if S2<T∧(3<T∨a-f≤128)then(a-f,T)else(S1,S2)):=zh (by rw[HST.out,if_pos (by rw[HT.out];exact h3)];unfold pickR;rw[HT.out]);by_cases hc:S2<T
    ·have z5:(S2:Int)<(T:Int):=by omega
     by_cases h33:3<T
     ·have z6:(3:Int)<(T:Int):=by omega
      have HS3:Hid (stR xs a f=(a-f,T)):=zh (by rw[HS2.out,if_pos ⟨hc,.inl h33⟩]);have HP2:Hid (plc a (a-f,T)=f):=zh (by unfold plc;rw[if_neg (by simp only;omega)];simp only;omega);go_wp2_with fail
      go_roundw
      case rel=>exact⟨f,by omega,by omega,by rw[HL2.out,zw0];simp;omega,by rw[HS3.out,HP2.out],by rw[HS3.out],by rw[HL2.out,zw0];go_num,by go_num,by rw[HS3.out];simp only;omega,HE1.out⟩
      case measure=>simp only[intOf];omega
     ·have z6:¬(3:Int)<(T:Int):=by omega
      by_cases hnear:a-f≤128
      ·have z7:(a:Int)-(f:Int)≤128:=by omega
       have HS3:Hid (stR xs a f=(a-f,T)):=zh (by rw[HS2.out,if_pos ⟨hc,.inr hnear⟩]);have HP2:Hid (plc a (a-f,T)=f):=zh (by unfold plc;rw[if_neg (by simp only;omega)];simp only;omega);go_wp2_with fail
       go_roundw
       case rel=>exact⟨f,by omega,by omega,by rw[HL2.out,zw0];simp;omega,by rw[HS3.out,HP2.out],by rw[HS3.out],by rw[HL2.out,zw0];go_num,by go_num,by rw[HS3.out];simp only;omega,HE1.out⟩
       case measure=>simp only[intOf];omega
      ·have z7:¬(a:Int)-(f:Int)≤128:=by omega
       have HS3:Hid (stR xs a f=(S1,S2)):=zh (by rw[HS2.out,if_neg (fun h=>by rcases h.2 with h | h<;>omega)])
       go_wp2_with fail
       go_roundw
       case rel=>exact⟨f,by omega,by omega,by rw[HL2.out,zw0];simp;omega,by rw[HS3.out,HP1.out],by rw[HS3.out],by rw[HL2.out,zw0];go_num,by go_num,by rw[HS3.out];exact h66,HE1.out⟩
       case measure=>simp only[intOf];omega
    ·have z5:¬(S2:Int)<(T:Int):=by omega
     have HS3:Hid (stR xs a f=(S1,S2)):=zh (by rw[HS2.out,if_neg (fun h=>hc h.1)]);go_wp2_with fail
     go_roundw
     case rel=>exact⟨f,by omega,by omega,by rw[HL2.out,zw0];simp;omega,by rw[HS3.out,HP1.out],by rw[HS3.out],by rw[HL2.out,zw0];go_num,by go_num,by rw[HS3.out];exact h66,HE1.out⟩
     case measure=>simp only[intOf];omega
   ·have z4:(T:Int)<3:=by omega
    have HL2:Hid (lkd xs a f=ls):=zh (by rw[HLK.out,if_neg (by rw[HT.out];exact h3)]);have HS3:Hid (stR xs a f=(S1,S2)):=zh (by rw[HST.out,if_neg (by rw[HT.out];exact h3)]);go_wp2_with fail
    go_roundw
    case rel=>exact⟨f,by omega,by omega,by rw[HL2.out];exact hl16,by rw[HS3.out,HP1.out],by rw[HS3.out],by rw[HL2.out],by go_num,by rw[HS3.out];exact h66,HE1.out⟩
    case measure=>simp only[intOf];omega
def RRRel (w:World) (R:List Nat) (M:Nat) (sv ov:Value) (wr:World):Prop:=
 ∃(X:ByteArray) (E:List Nat),sv= .string X∧ov= .string (strOf E)∧X.size≤M∧E++litT (natsOf X)=R∧Ext w wr
theorem refRun (s:ByteArray) (w:World) (hs:s.size≤1000000):
  Calls Tryz.prog 136 #[.string s] w fun e w'=>e= .returned (.string (strOf (litT (natsOf s))))∧Ext w w':=by
 have hl:=litT_len _ (natsOf s) rfl;rw[natsOf_len]at hl;obtain⟨R,hR⟩:∃R,R=litT (natsOf s):=⟨_,rfl⟩;rw[←hR]at hl ⊢;have hRl:R.length≤2000000:=by omega
 have HR:=zh hR;clear hl hR;go_enter Tryz.func136,Tryz.ntmps136;go_wp2_with fail
 go_loopw [0,3] (fun sv ov wr=>RRRel w R s.size sv ov wr) (fun sv _ _=>match sv with | .string X=>X.size | _=>0)
 case atStart=>exact⟨s,[],rfl,rfl,zw8 _,by rw[HR.out,zw17],zxr _⟩
 case round=>
  obtain⟨X,E,rfl,rfl,hX,hE,hEx⟩:=hrel;have hEl:E.length≤2000000:=by
   have e:=congrArg List.length hE;rw[zw0]at e;omega
  have HE:=zh hE;have HEx:=zh hEx;clear hE hEx;by_cases h0:0<X.size
  ·obtain⟨n,hn⟩:∃n,n=min 64 X.size:=⟨_,rfl⟩
   have hn1:1≤n:=by omega
   have hn2:n≤64:=by omega
   have hn3:n≤X.size:=by omega
   have z0:(0:Int)<(X.size:Int):=by omega
   have HST:=zh (litT_step (l:=natsOf X) (by rw[natsOf_len];exact h0));go_upto_region 3 with fail
   go_cut [4] (fun nv wx=>nv= .int .i64 (n:Int)∧wr=wx)
   case first=>
    by_cases hm:64≤X.size
    ·have hm1:(64:Int)≤(X.size:Int):=by omega
     go_wp2_with fail;go_meet;exact⟨int_eq (by omega),rfl⟩
    ·have hm1:(X.size:Int)<64:=by omega
     go_wp2_with fail;go_meet;exact⟨int_eq (by omega),rfl⟩
   case rest=>
   obtain⟨rfl,rfl⟩:=hcut;obtain⟨m,hm⟩:∃m,m=2*(n-1):=⟨_,rfl⟩;have hm1:m≤126:=by omega
   have HST2:Hid (litT (natsOf X)=m::((natsOf X).take n++litT (natsOf (X.extract n X.size)))):=zh (by
    rw[HST.out,natsOf_len,←hn,←hm,Com.nats_ext])
   have q1:IntKind.i64.wrap ((n:Int)-1)=(n:Int)-1:=by rw[IntKind.wrap_i64];omega
   have q2:(2:Int)*((n:Int)-1)=(m:Int):=by omega
   have q3:IntKind.i64.wrap (m:Int)=(m:Int):=by rw[IntKind.wrap_i64];omega
   have q4:IntKind.u8.wrap (m:Int)=(m:Int):=by rw[IntKind.wrap_u8];omega
   have s1:(0:Int)≤(n:Int):=by omega
   have s2:(n:Int)≤(X.size:Int):=by omega
   have HC:=zh (one_conv wr.heap.size (wr.alloc (.cells #[.int .u8 (m:Int)] 5)).drew m (by omega) ((Blk.new wr 5 #[.int .u8 (m:Int)]).drew.cell 0));have HF:Hid (strOf E++strOf [m]++X.extract 0 n=strOf (E++(m::(natsOf X).take n))):=zh (by
    rw[Com.str_ext X 0 n,zw28,Nat.sub_zero,←strOf_app,←strOf_app];simp only[zw7,List.singleton_append])
   have hs0:(strOf E).size≤2000000:=by rw[strOf_size];exact hEl
   have hs1:(strOf [m]).size=1:=by rw[strOf_size];rfl
   clear hn hm HST;have HS1:=zh hs1;have hs2:(strOf [m]).size≤1:=by omega
   clear hs1;generalize strOf E=S0 at*;generalize strOf [m]=S1 at*;have hz1:¬9223372036854775807<S0.size+S1.size:=by omega
   have hz2:¬9223372036854775807<S0.size+S1.size+n:=by omega
   go_wp2_with fail
   go_cut [3] (fun ov wx=>ov= .string (S0++S1++X.extract 0 n)∧Ext wr wx)
   case first=>
    refine zw38 (S:=fun _=>True) hmx trivial (fun _=>?_)
    (refine zw40 (i:=0) (v:=?_) rfl (by kernel_rfl) (by kernel_rfl) (by kernel_rfl) (fun _ _ _ h=>h) (Or.inl ⟨by rfl,?_⟩) trivial ?_);rotate_left
    ·(intro w hSw;go_simp;try with_reducible rfl)
    (refine zw40 (i:=1) (v:=?_) rfl (by kernel_rfl) (by kernel_rfl) (by kernel_rfl) (fun _ _ _ h=>h) (Or.inl ⟨by rfl,?_⟩) trivial ?_);rotate_left
    ·(intro w hSw;go_simp;try with_reducible rfl)
    (refine zw40 (i:=2) (v:=?_) rfl (by kernel_rfl) (by kernel_rfl) (by kernel_rfl) (fun _ _ _ h=>h) (Or.inl ⟨by rfl,?_⟩) trivial ?_);rotate_left
    ·(intro w hSw;go_simp;try with_reducible rfl)
    (refine zw40 (i:=3) (v:=?_) rfl (by kernel_rfl) (by kernel_rfl) (by kernel_rfl) (fun _ _ _ h=>h) (Or.inl ⟨by rfl,?_⟩) trivial ?_);rotate_left
    ·(intro w hSw;go_simp;try with_reducible rfl)
    (refine zw40 (i:=4) (v:=?_) rfl (by kernel_rfl) (by kernel_rfl) (by kernel_rfl) (fun _ _ _ h=>h) (Or.inl ⟨by rfl,?_⟩) trivial ?_);rotate_left
    ·(intro w hSw;go_simp;try with_reducible rfl)
    (refine zw40 (i:=8) (v:=?_) rfl (by kernel_rfl) (by kernel_rfl) (by kernel_rfl) (fun _ _ _ h=>h) (Or.inl ⟨by rfl,?_⟩) trivial ?_);rotate_left
    ·(intro w hSw;go_simp;try with_reducible rfl)
    (refine zw40 (i:=9) (v:=?_) rfl (by kernel_rfl) (by kernel_rfl) (by kernel_rfl) (fun _ _ _ h=>h) (Or.inl ⟨by rfl,?_⟩) trivial ?_);rotate_left
    ·(intro w hSw;go_simp;try with_reducible rfl)
    (refine zw40 (i:=10) (v:=?_) rfl (by kernel_rfl) (by kernel_rfl) (by kernel_rfl) (fun _ _ _ h=>h) (Or.inl ⟨by rfl,?_⟩) trivial ?_);rotate_left
    ·(intro w hSw;go_simp;try with_reducible rfl)
    have hC:=HC.out;refine zqO (i:=5) (by kernel_rfl) rfl fun K hK=>?_;go_simp;refine hK.out _ _ trivial fun _=>?_;clear hK K;refine zqO (i:=6) (by kernel_rfl) rfl fun K hK=>?_;go_simp;refine hK.out _ _ trivial fun _=>?_;clear hK K hC;refine zqO (i:=7) (by kernel_rfl) rfl fun K hK=>?_;go_simp;refine hK.out _ _ trivial fun _=>?_;clear hK K;refine zqO (i:=11) (by kernel_rfl) rfl fun K hK=>?_;go_simp;refine hK.out _ _ trivial fun _=>?_;clear hK K;refine zqO (i:=12) (by kernel_rfl) rfl fun K hK=>?_;go_simp;refine hK.out _ _ trivial fun _=>?_;clear hK K;refine zw39 (by kernel_rfl) ?_ _;go_wp2_with fail;go_meet;exact⟨rfl,zxa (zxd (zxr _)) _⟩
   case rest=>
    obtain⟨rfl,hE2⟩:=hcut;have HE2:=zh (zxt HEx.out hE2);clear hE2 HC q1 q2 q3 q4;go_wp2_with fail
    go_roundw
    case rel=>exact⟨_,E++(m::(natsOf X).take n),rfl,by rw[HF.out],by simp;omega,by rw[←HE.out,HST2.out];simp only[zw7,List.cons_append],HE2.out⟩
    case measure=>simp;omega
  ·have z0:¬(0:Int)<(X.size:Int):=by omega
   have HF:Hid (E=R):=zh (by
    have e:natsOf X=[]:=zw19 (by rw[natsOf_len];omega);rw[←HE.out,e,litT_nil,zw18])
   go_wp2_with fail;go_ret;exact⟨by rw[HF.out];rfl,HEx.out⟩
end Go.Proofs.YtbopblbhjcemaaaGreatDoor.Lz
