
import Derived.Test.YtidnboeihkeljaaGreatDoorF18
import Derived.Test.YtidnboeihkeljaaGreatDoorRecOf
set_option maxHeartbeats 16000000
set_option maxRecDepth 100000
set_option linter.all false
namespace Go.Proofs.YtidnboeihkeljaaGreatDoor.Log
open Go.ChangeShapes Go.WideShapes Go.ChangeAt Go.RowKit
open Wire
open Rec
open Grid (okm)
theorem hE1o {a b c:World} (h:Ext a b) (k:Ext b c):Ext a c:=zxt h k
theorem header_st (x:Hv) (A:Option Addr) (m c:Nat) (w:World) (hB:RowR w A m 3 cS x.starts) (hf:∀u∈x.starts,u.fits) (hs:x.tiles.size≤5000) (hm:m≤1000000) (hsd:x.seed<4294967296)
  (hw1: -9223372036854775808≤x.w) (hw2:x.w≤9223372036854775807) (hh1: -9223372036854775808≤x.h) (hh2:x.h≤9223372036854775807):
  Calls Tryz.prog 25 #[.agg (cH x (.slice A m c))] w (HdPost w x):=by
 have HMY:=zh (fun(w':World) (e:Ext w w')=>may_st x A m c w' (hB.ext e) hf hs hm hw1 hw2 hh1 hh2);have HB:=zh hB;have HLEN:=zh hB.1;have HE0:=zh (zxa (zxr w) (.cells (cH x (.slice A m c)) 25));have HFI:=zh (fun u hu=>(hf u hu).1);clear hB hf hw1 hw2 hh1 hh2;by_cases hmay:mayH x
 ·have HMAY:=zh hmay
  rw[zw15 hmay]at HMY;obtain⟨⟨o1,o2,o3,o4,o5,o6⟩,p1,p4,p8,hmb⟩:=hmay;have HTI:=zh (mayB_tiles _ _ _ _ hmb);have HHD:Hid (encH x.hd=vb x.w.toNat++(vb x.h.toNat++(vb x.players.toNat++(fx x.seed++(vb (natsOf x.tiles).length++(natsOf x.tiles++(vb (x.starts.map Sv.st).length++encS (x.starts.map Sv.st)))))))):=zh rfl;obtain⟨xw,xh,xp,xs,xt,us⟩:=x;simp only at*;obtain⟨W,rfl⟩:∃W:Nat,xw=(W:Int):=⟨xw.toNat,by omega⟩;obtain⟨H,rfl⟩:∃H:Nat,xh=(H:Int):=⟨xh.toNat,by omega⟩;obtain⟨p,rfl⟩:∃p:Nat,xp=(p:Int):=⟨xp.toNat,by omega⟩;simp only[zw35]at HHD;rw[natsOf_len,zw4,HLEN.out]at HHD;have g1:W<1000000:=by omega
  have g2:H<1000000:=by omega
  have g3:p<1000000:=by omega
  have g4:m≤128:=by have:=HLEN.out;omega
  clear o1 o2 o3 o4 o5 o6 p1 p4 p8 hmb;unfold cH at HMY HE0 ⊢;simp only at HMY HE0 ⊢;have HH0:=zh (Blk.new w 25 #[.int .i64 (W:Int),.int .i64 (H:Int),.int .i64 (p:Int),.int .u32 (xs:Int),.string xt,.slice A m c]);go_enter Tryz.func25,Tryz.ntmps25;go_wp2_with fail;refine(HMY.out _ HE0.out).mono ?_;rintro e w1 ⟨rfl,hE1⟩;have HH1:=zh (HH0.out.ext hE1);have HE1:=zh (zxt HE0.out hE1);have h1c:=fun i=>HH1.out.cell i;have hl1:w.heap.size<w1.heap.size:=HH1.out.lt;clear hE1 HMY HE0 HH0;have HI0:=zh (Blk.new w1 3 #[.int .i64 (W:Int),.int .i64 (H:Int),.int .i64 (p:Int)]);have HR0:Hid (NRel w1 [] [W,H,p] w1.heap.size #[.int .i64 (W:Int),.int .i64 (H:Int),.int .i64 (p:Int)] 3 (.slice none 0 0) (.int .i64 ((0:Nat):Int)) (w1.alloc (.cells #[.int .i64 (W:Int),.int .i64 (H:Int),.int .i64 (p:Int)] 3))):=
   zh ⟨0,rfl,rfl,OwnB.nil _ _,HI0.out,(by intro h;cases h),zxa (zxr _) _⟩
  go_upto_region 5 with fail
  go_loopg [4,22] 3 (fun gh bv iv wr=>NRel w1 [] [W,H,p] w1.heap.size #[.int .i64 (W:Int),.int .i64 (H:Int),.int .i64 (p:Int)] gh bv iv wr)
  case atStart=>exact HR0.out
  case round=>
   obtain⟨k,hk,rfl,hO,hI,hF,hE⟩:=hrel;obtain⟨wi,rfl⟩:∃wi:World,wi=wr:=⟨_,rfl⟩;obtain⟨vi,rfl⟩:∃vi:Value,vi=u4:=⟨_,rfl⟩;obtain⟨gh,rfl⟩:∃gh:Nat,gh=gk:=⟨_,rfl⟩;have HO:=zh hO;have HI:=zh hI;have HF:=zh hF;have HE:=zh hE;clear hO hI hF hE HR0 HI0 h1c;have i1:(0:Int)≤(k:Int):=by omega
   by_cases hl3:k<3
   ·obtain⟨y,hy1,hy2,hy3⟩:=ints3 W H p g1 g2 g3 k hl3
    have HY3:=zh hy3;have cy:=HI.out.cell k;rw[hy2]at cy;have i2:(k:Int)<3:=by omega
    have HPY:=zh (fun w'=>put_nil y (by omega) w');clear hy2 hy3;go_wp2_with fail;refine(HPY.out wi).mono ?_;rintro e w8 ⟨v8,rfl,hsrc8,hO8',hE8⟩;have HSRC:=zh hsrc8;have HO8:=zh (HO.out.ext hE8);have HI8:=zh (HI.out.ext hE8);have HE8:=zh (zxt HE.out hE8);clear hsrc8 hO8' hE8 cy;have HLZ:Hid ((([]:List Nat)++([W,H,p].take k).flatMap vb).length+(vb y).length≤140737488355328):=zh (by
     have q2:=vb_ten (n:=y) (by omega);have q3:=flat3i_len W H p g1 g2 g3 k;simp only[zw0,zw26];omega)
    go_wp2_with (at_builtin;refine wpList_b rfl (.tmp 26) (.tmp 29) 48 rfl vi v8 ([]++([W,H,p].take k).flatMap vb) (vb y) rfl rfl HO8.out HE8.out.size HSRC.out HLZ.out ?_;intro vC wC hOC hGC;have HOC:=zh hOC;have HGC:=zh hGC;clear hOC hGC)
    go_roundg (gh-1)
    case measure=>omega
    case rel=>
     refine⟨k+1,by omega,by go_num,?_,HGC.out.blk HF.out HI8.out,HGC.out.off HF.out HI8.out.lt,HGC.out.ext HE8.out HO8.out (zw8 _)⟩;rw[HY3.out,←zw7];exact HOC.out
   ·obtain rfl:k=3:=by omega
    have i2:¬((3:Nat):Int)<3:=by omega
    have hH:=HH1.out.ext HE.out;have hHc:=fun i=>hH.cell i;have hZ:([]:List Nat)++([W,H,p].take 3).flatMap vb=vb W++(vb H++vb p):=by simp
    rw[hZ]at HO;clear hZ hH HI HF;have HPF:=zh (fun w'=>put_fixed_nil xs hsd w');have HPT:=zh (fun w'=>put_text_nil xt (by omega) w');have HPM:=zh (fun w'=>put_nil m (by omega) w');have l1:=vb_ten (n:=W) (by omega);have l2:=vb_ten (n:=H) (by omega);have l3:=vb_ten (n:=p) (by omega);have l4:=vb_ten (n:=xt.size) (by omega);have l5:=vb_ten (n:=m) (by omega);have l6:(fx xs).length=4:=rfl;have l7:=natsOf_len xt;have HL:=zh (And.intro l1 (And.intro l2 (And.intro l3 (And.intro l4 (And.intro l5 (And.intro l6 l7))))));clear l1 l2 l3 l4 l5 l6 l7;go_wp2_with fail;refine(HPF.out wi).mono ?_;rintro e w2 ⟨v2,rfl,hsrc,hE2⟩;have HSRC:=zh hsrc;have HO2:=zh (HO.out.ext hE2);have HE2:=zh (zxt HE.out hE2);have HLZ:Hid ((vb W++(vb H++vb p)).length+(fx xs).length≤140737488355328):=zh (by
     obtain⟨l1,l2,l3,l4,l5,l6,l7⟩:=HL.out;simp only[zw0];omega)
    clear hsrc hE2 hHc HO HE;go_upto_region 10 with (at_builtin;refine wpList_b rfl (.tmp 32) (.tmp 35) 48 rfl vi v2 (vb W++(vb H++vb p)) (fx xs) rfl rfl HO2.out HE2.out.size HSRC.out HLZ.out ?_;intro v3 w3 hO3 hG3;have HO3:=zh hO3;have HG3:=zh hG3;clear hO3 hG3)
    have HE3:=zh (HG3.out.ext HE2.out HO2.out (zw8 _));have hH:=HH1.out.ext HE3.out;have hHc:=fun i=>hH.cell i;clear hH HSRC HO2 HE2 HLZ HG3;go_wp2_with fail;refine(HPT.out w3).mono ?_;rintro e w4 ⟨v4,rfl,hsrc,hE4⟩;have HSRC:=zh hsrc;have HO4:=zh (HO3.out.ext hE4);have HE4:=zh (zxt HE3.out hE4);have HLZ:Hid ((vb W++(vb H++vb p)++fx xs).length+(vb xt.size++natsOf xt).length≤140737488355328):=zh (by
     obtain⟨l1,l2,l3,l4,l5,l6,l7⟩:=HL.out;simp only[zw0];omega)
    clear hsrc hE4 hHc HO3 HE3;go_upto_region 11 with (at_builtin;refine wpList_b rfl (.tmp 37) (.tmp 40) 48 rfl v3 v4 (vb W++(vb H++vb p)++fx xs) (vb xt.size++natsOf xt) rfl rfl HO4.out HE4.out.size HSRC.out HLZ.out ?_;intro v5 w5 hO5 hG5;have HO5:=zh hO5;have HG5:=zh hG5;clear hO5 hG5)
    have HE5:=zh (HG5.out.ext HE4.out HO4.out (zw8 _));have hH:=HH1.out.ext HE5.out;have hHc:=fun i=>hH.cell i;clear hH HSRC HO4 HE4 HLZ HG5;go_wp2_with fail;refine(HPM.out w5).mono ?_;rintro e w6 ⟨v6,rfl,hsrc,_,hE6⟩;have HSRC:=zh hsrc;have HO6:=zh (HO5.out.ext hE6);have HE6:=zh (zxt HE5.out hE6);have HLZ:Hid ((vb W++(vb H++vb p)++fx xs++(vb xt.size++natsOf xt)).length+(vb m).length≤140737488355328):=zh (by
     obtain⟨l1,l2,l3,l4,l5,l6,l7⟩:=HL.out;simp only[zw0];omega)
    clear hsrc hE6 hHc HO5 HE5;go_upto_region 12 with (at_builtin;refine wpList_b rfl (.tmp 42) (.tmp 47) 48 rfl v5 v6 (vb W++(vb H++vb p)++fx xs++(vb xt.size++natsOf xt)) (vb m) rfl rfl HO6.out HE6.out.size HSRC.out HLZ.out ?_;intro v7 w7 hO7 hG7;have HO7:=zh hO7;have HG7:=zh hG7;clear hO7 hG7)
    have HE7:=zh (HG7.out.ext HE6.out HO6.out (zw8 _));have hH:=HH1.out.ext HE7.out;have hHc:=fun i=>hH.cell i;have HUR:Hid (URel w1 (us.map Sv.st) (encH (Hv.hd ⟨(W:Int),(H:Int),(p:Int),xs,xt,us⟩)) m v7 (.int .i64 ((0:Nat):Int)) w7):=zh<| by
     refine⟨0,_,by rw[zw4,HLEN.out];omega,rfl,HO7.out,?_,HE7.out,?_⟩
     ·obtain⟨l1,l2,l3,l4,l5,l6,l7⟩:=HL.out
      simp only[zw0];omega
     ·rw[HHD.out];simp only[zw7,zw28]
    clear hH HSRC HO6 HE6 HLZ HG7;obtain⟨T,hT⟩:∃T,T=encH (Hv.hd ⟨(W:Int),(H:Int),(p:Int),xs,xt,us⟩):=⟨_,rfl⟩;rw[←hT]at HUR;have HT:=zh hT;clear hT HHD HL;go_wp2_with fail
    go_loopg [4,52] m (fun gh bv iv wr=>URel w1 (us.map Sv.st) T gh bv iv wr)
    case atStart=>exact HUR.out
    case round=>
     obtain⟨k,zs,hk,rfl,hO,hzl,hE,hTT⟩:=hrel;obtain⟨wo,rfl⟩:∃wo:World,wo=wr:=⟨_,rfl⟩;obtain⟨vo,rfl⟩:∃vo:Value,vo=u4:=⟨_,rfl⟩;obtain⟨gh,rfl⟩:∃gh:Nat,gh=gk:=⟨_,rfl⟩;have hkm:k+gh=m:=by rw[hk,zw4,HLEN.out]
     have HO:=zh hO;have HE:=zh hE;have HTT:=zh hTT;clear hO hE hTT HUR HO7 HE7 hHc hk;have y1:(0:Int)≤(k:Int):=by omega
     by_cases hlt:k<m
     ·have hke:k<us.length:=by rw[HLEN.out];exact hlt
      obtain⟨b,o,rfl,hbw,hc⟩:=HB.out.2 (by omega);have hti:=HTI.out us[k] (zw25 hke);have hcx:=hc k hke;have hd:(us.map Sv.st).drop k=Sv.st us[k]::(us.map Sv.st).drop (k+1):=by
       rw[zw20 (by rw[zw4];exact hke),List.getElem_map]
      obtain⟨u,hu⟩:∃u,u=us[k]:=⟨_,rfl⟩;rw[←hu]at hd hti hcx;obtain⟨u1,u2,u3⟩:=u;obtain⟨t1,t2,t3⟩:=hti;simp only at t1 t2 t3;obtain⟨t,rfl⟩:∃t:Nat,u3=(t:Int):=⟨u3.toNat,by omega⟩;rw[zw35]at t2;have hu1:=HFI.out us[k] (zw25 hke);rw[←hu]at hu1;simp only at hu1;have e1:=hE1o HE1.out HE.out;have c0:=(e1.cell (p:=⟨b,o+k*3+0,none⟩) hbw).trans (hcx 0 (by omega));have c1:=(e1.cell (p:=⟨b,o+k*3+1,none⟩) hbw).trans (hcx 1 (by omega));have c2:=(e1.cell (p:=⟨b,o+k*3+2,none⟩) hbw).trans (hcx 2 (by omega));simp only[cS,Nat.add_zero,List.getElem?_cons_zero,List.getElem?_cons_succ]at c0 c1 c2;have HTT2:Hid (T=(zs++(vb u1++(vb u2++vb t)))++encS ((us.map Sv.st).drop (k+1))):=zh (by
       rw[HTT.out,hd,encS];simp only[Sv.st,zw35,zw7])
      clear hc hcx hu hd hke e1 HTT;have y2:(k:Int)<(m:Int):=by omega
      have k1:u1<1000000:=by omega
      have k2:u2<1000000:=by omega
      have k3:t<1000000:=by omega
      have HEA:=zh (zxa (zxa (zxr wo) (.cells #[.int .u8 (u1:Int),.int .u8 (u2:Int),.int .i64 (t:Int)] 99)) (.cells #[.int .i64 (u1:Int),.int .i64 (u2:Int),.int .i64 (t:Int)] 3));have HI0:=zh (Blk.new1 wo (.cells #[.int .u8 (u1:Int),.int .u8 (u2:Int),.int .i64 (t:Int)] 99) 3 #[.int .i64 (u1:Int),.int .i64 (u2:Int),.int .i64 (t:Int)]);have HNR:Hid (NRel w1 zs [u1,u2,t] (wo.heap.size+1) #[.int .i64 (u1:Int),.int .i64 (u2:Int),.int .i64 (t:Int)] 3 vo (.int .i64 ((0:Nat):Int)) ((wo.alloc (.cells #[.int .u8 (u1:Int),.int .u8 (u2:Int),.int .i64 (t:Int)] 99)).alloc (.cells #[.int .i64 (u1:Int),.int .i64 (u2:Int),.int .i64 (t:Int)] 3))):=
       zh ⟨0,rfl,rfl,by simpa using HO.out.ext HEA.out,HI0.out,off_new HO.out (.inl (by omega)),zxt HE.out HEA.out⟩
      go_wp2_with fail
      go_loopg [4,66] 3 (fun gh bv iv wr=>NRel w1 zs [u1,u2,t] (wo.heap.size+1) #[.int .i64 (u1:Int),.int .i64 (u2:Int),.int .i64 (t:Int)] gh bv iv wr)
      case atStart=>exact HNR.out
      case round=>
       obtain⟨q,hq,rfl,hO,hI,hF,hE⟩:=hrel;obtain⟨wj,rfl⟩:∃wj:World,wj=wr:=⟨_,rfl⟩;obtain⟨vj,rfl⟩:∃vj:Value,vj=u4:=⟨_,rfl⟩;obtain⟨gh2,rfl⟩:∃gh:Nat,gh=gk:=⟨_,rfl⟩;have HOJ:=zh hO;have HI:=zh hI;have HF:=zh hF;have HEJ:=zh hE;clear hO hI hF hE HNR HI0 HEA HO c0 c1 c2;have i1:(0:Int)≤(q:Int):=by omega
       by_cases hl3:q<3
       ·obtain⟨y,hy1,hy2,hy3⟩:=ints3 u1 u2 t k1 k2 k3 q hl3
        have HY3:=zh hy3;have cy:=HI.out.cell q;rw[hy2]at cy;have i2:(q:Int)<3:=by omega
        have HPY:=zh (fun w'=>put_nil y (by omega) w');clear hy2 hy3;go_wp2_with fail;refine(HPY.out wj).mono ?_;rintro e w8 ⟨v8,rfl,hsrc8,hO8',hE8⟩;have HSRC:=zh hsrc8;have HO8:=zh (HOJ.out.ext hE8);have HI8:=zh (HI.out.ext hE8);have HE8:=zh (zxt HEJ.out hE8);clear hsrc8 hO8' hE8 cy;have HLZ:Hid ((zs++([u1,u2,t].take q).flatMap vb).length+(vb y).length≤140737488355328):=zh (by
         have q2:=vb_ten (n:=y) (by omega);have q3:=flat3i_len u1 u2 t k1 k2 k3 q;simp only[zw0];omega)
        go_wp2_with (at_builtin;refine wpList_b rfl (.tmp 70) (.tmp 73) 48 rfl vj v8 (zs++([u1,u2,t].take q).flatMap vb) (vb y) rfl rfl HO8.out HE8.out.size HSRC.out HLZ.out ?_;intro vC wC hOC hGC;have HOC:=zh hOC;have HGC:=zh hGC;clear hOC hGC)
        go_roundg (gh2-1)
        case measure=>omega
        case rel=>
         refine⟨q+1,by omega,by go_num,?_,HGC.out.blk HF.out HI8.out,HGC.out.off HF.out HI8.out.lt,HGC.out.ext HE8.out HO8.out (zw8 _)⟩;rw[HY3.out,←zw7];exact HOC.out
       ·obtain rfl:q=3:=by omega
        have i2:¬((3:Nat):Int)<3:=by omega
        have hZ:zs++([u1,u2,t].take 3).flatMap vb=zs++(vb u1++(vb u2++vb t)):=by simp
        rw[hZ]at HOJ;clear hZ;go_wp2_with fail
        go_roundg (gh-1)
        case measure=>omega
        case rel=>
         have q1:=vb_ten (n:=u1) (by omega);have q2:=vb_ten (n:=u2) (by omega);have q3:=vb_ten (n:=t) (by omega);refine⟨k+1,_,by rw[zw4,HLEN.out];omega,by go_num,HOJ.out,?_,HEJ.out,HTT2.out⟩;simp only[zw0];omega
     ·obtain rfl:gh=0:=by omega
      obtain rfl:k=m:=by omega
      have HZ:Hid (encH (Hv.hd ⟨(W:Int),(H:Int),(p:Int),xs,xt,us⟩)=zs):=zh (by
       rw[←HT.out,HTT.out,zw21 (by rw[zw4,HLEN.out];omega),encS,zw18])
      have y2:¬(k:Int)<(k:Int):=by omega
      go_wp2_with fail
      go_ret2
      exact hd_ok HMAY.out (zxt HE1.out HE.out) HO.out HZ.out (by omega)
 ·rw[zw14 hmay]at HMY
  have HNM:=zh hmay;clear hmay;obtain⟨xw,xh,xp,xs,xt,us⟩:=x;unfold cH at HMY HE0 ⊢;simp only at*;go_enter Tryz.func25,Tryz.ntmps25;go_wp2_with fail;refine(HMY.out _ HE0.out).mono ?_;rintro e w1 ⟨rfl,hE1⟩;have HE1:=zh (zxt HE0.out hE1);clear hE1;go_wp2_with fail
  go_ret2
  exact hd_bad HNM.out HE1.out
def PRel (w:World) (B2 lb eb nb:Nat) (n:Int) (evs:List Ev) (T:Option (List Nat)) (gh:Nat) (bv lv iv:Value) (wr:World):Prop:=
 ∃(k:Nat) (last:Int) (each:Nat) (zs:List Nat),k+gh=evs.length∧iv= .int .i64 (k:Int)∧lv= .int .i64 last∧0≤last∧last≤4096∧each≤32∧OwnB B2 wr bv zs∧(∀c∈zs,c<256)∧zs.length≤50*k+10∧
  Boxes wr lb eb nb last each n∧B2≤wr.heap.size∧Ext w wr∧T=if pacedB n last each (evs.drop k)=true then some (zs++encV last (evs.drop k))else none
def WRel (w:World) (B2 lb eb nb:Nat) (n last:Int) (each:Nat) (zs ws:List Nat) (sb ab:Nat) (cs ds:Array Value) (gh:Nat) (bv iv:Value) (wr:World):Prop:=
 ∃(k:Nat),k+gh=3∧iv= .int .i64 (k:Int)∧OwnB B2 wr bv (zs++(ws.take k).flatMap vb)∧Blk wr sb 104 cs∧Blk wr ab 60 ds∧Off bv sb∧Off bv ab∧Boxes wr lb eb nb last each n∧B2≤wr.heap.size∧Ext w wr
theorem boxes_grew {w w':World} {v v':Value} {B2 lb eb nb:Nat} {last n:Int} {each:Nat} {zs:List Nat} (h:Boxes w lb eb nb last each n) (hg:Grew w w' v v') (hO:OwnB B2 w v zs) (h1:lb<B2) (h2:eb<B2) (h3:nb<B2):Boxes w' lb eb nb last each n:=
 ⟨hg.blk (off_new hO (.inr h1)) h.1,hg.blk (off_new hO (.inr h2)) h.2.1,hg.blk (off_new hO (.inr h3)) h.2.2.1,h.2.2.2⟩
theorem words3 (x3 x4 x5:Nat) (f3:x3<65536) (f4:x4<65536) (f5:x5<65536):∀k,k<3→∃y,y<65536∧(#[Value.int .u16 (x3:Int),.int .u16 (x4:Int),.int .u16 (x5:Int)])[k]? =some (.int .u16 (y:Int))∧([x3,x4,x5].take (k+1)).flatMap vb=([x3,x4,x5].take k).flatMap vb++vb y
 | 0,_=>⟨x3,f3,rfl,by simp⟩
 | 1,_=>⟨x4,f4,rfl,by simp⟩
 | 2,_=>⟨x5,f5,rfl,by simp⟩
 | k+3,h=>absurd h (by omega)
theorem flat3_len (x3 x4 x5:Nat) (f3:x3<65536) (f4:x4<65536) (f5:x5<65536):∀k,(([x3,x4,x5].take k).flatMap vb).length≤30:=by
 intro k;have q1:=vb_ten (n:=x3) (by omega);have q2:=vb_ten (n:=x4) (by omega);have q3:=vb_ten (n:=x5) (by omega)
 match k with
 | 0=>simp
 | 1=>simp;omega
 | 2=>simp;omega
 | k+3=>simp;omega
theorem put_st (A:Option Addr) (m c:Nat) (evs:List Ev) (n:Int) (w:World) (hB:RowR w A m 7 cV evs) (hf:∀x∈evs,x.fits) (hm:m≤1000000):
  Calls Tryz.prog 26 #[.slice A m c,.int .i64 n] w (PtPost w n evs):=by
 have HT:=zh (ticks_any n w);have HLEN:=zh hB.1;have HB:=zh hB;have HF:=zh hf;clear hB hf;by_cases hn:0≤n∧n≤4096
 ·rw[zw15 hn]at HT
  obtain⟨nn,rfl⟩:∃nn:Nat,n=(nn:Int):=⟨n.toNat,by omega⟩;have HTR:Hid (putL nn evs=if pacedB nn 0 0 evs=true then some (vb m++encV 0 evs)else none):=zh<| by
   unfold putL;rw[HLEN.out];by_cases h:pacedB nn 0 0 evs=true
   ·rw[if_pos ⟨hn.1,hn.2,h⟩,if_pos h]
   ·rw[if_neg (fun x=>h x.2.2),if_neg h]
  have hn2:nn≤4096:=by omega
  clear hn;go_enter Tryz.func26,Tryz.ntmps26;go_wp2_with fail;refine(HT.out).mono ?_;rintro e w1 ⟨rfl,hE1⟩;have HE1:=zh hE1;clear hE1;have HP:=zh (pace (nn:Int) w1);go_wp2_with fail;refine(HP.out).mono ?_;rintro e w3 ⟨v,rfl,⟨lb,eb,nb,rfl,hbx,hb1,hb2,hb3⟩,hE3⟩;have HE3:=zh (zxt HE1.out hE3);have HBX:=zh hbx;have HBL:Hid (w.heap.size≤lb∧w.heap.size≤eb∧w.heap.size≤nb∧lb<w3.heap.size∧eb<w3.heap.size∧nb<w3.heap.size∧w.heap.size≤w3.heap.size):=
   zh ⟨zw10 HE1.out.size hb1,zw10 HE1.out.size hb2,zw10 HE1.out.size hb3,Blk.lt hbx.1,Blk.lt hbx.2.1,Blk.lt hbx.2.2.1,HE3.out.size⟩
  clear hE3 hbx hb1 hb2 hb3;have HPU:=zh (put_nil m (by omega) w3);go_wp2_with fail;refine(HPU.out).mono ?_;rintro e w4 ⟨bv,rfl,hq1,hO4,hE4⟩;have HREL:Hid (PRel w w3.heap.size lb eb nb nn evs (putL nn evs) m bv (.int .i64 0) (.int .i64 ((0:Nat):Int)) w4):=zh<| by
   refine⟨0,0,0,vb m,by rw[HLEN.out];omega,rfl,rfl,by omega,by omega,by omega,?_,vb_mem m,by have:=vb_ten (n:=m) (by omega);omega,boxes_ext HBX.out hE4,hE4.size,zxt HE3.out hE4,?_⟩
   ·exact hO4
   ·rw[HTR.out];rfl
  obtain⟨T,hTk⟩:∃T,putL nn evs=T:=⟨_,rfl⟩;rw[hTk]at HREL;have HTK:=zh hTk;clear hTk;generalize hB2:w3.heap.size=B2 at*;clear hB2 hq1 hO4 hE4 HPU HP HBX HTR HT HE3;go_wp2_with fail
  go_loopg [7,8,24] m (fun gh bv lv iv wr=>PRel w B2 lb eb nb nn evs T gh bv lv iv wr)
  case atStart=>exact HREL.out
  case round=>
   obtain⟨k,last,each,zs,hk,rfl,rfl,hl0,hl1,he1,hO,hzs,hzl,hbx,hsz,hE,hT⟩:=hrel;obtain⟨wi,rfl⟩:∃wi:World,wi=wr:=⟨_,rfl⟩;obtain⟨gh,rfl⟩:∃gh:Nat,gh=gk:=⟨_,rfl⟩;have HO:=zh hO;have HBX:=zh hbx;have HZS:=zh hzs;have HSZ:=zh hsz;have HE:=zh hE;have HTT:=zh hT;have hkm:k+gh=m:=by rw[hk,HLEN.out]
   clear hO hbx hzs hsz hE hT HREL hk;by_cases hlt:k<m
   ·have hke:k<evs.length:=by rw[HLEN.out];exact hlt
    obtain⟨b,o,rfl,hbw,hc⟩:=HB.out.2 (by omega);have hd:evs.drop k=evs[k]::evs.drop (k+1):=zw20 hke;have hfx:=HF.out evs[k] (zw25 hke);have hcx:=hc k hke;obtain⟨x,hx⟩:∃x,x=evs[k]:=⟨_,rfl⟩;rw[←hx]at hd hfx hcx;obtain⟨f1,f2,f3,f4,f5,f6⟩:=hfx;have HD:=zh hd;have HCX:=zh (fun i (hi:i<7)=>(HE.out.cell (p:=⟨b,o+k*7+i,none⟩) hbw).trans (hcx i hi));clear hc hcx hx hd hke;have c0:=HCX.out 0 (by omega);have c1:=HCX.out 1 (by omega);have c2:=HCX.out 2 (by omega);have c3:=HCX.out 3 (by omega);have c4:=HCX.out 4 (by omega);have c5:=HCX.out 5 (by omega);have c6:=HCX.out 6 (by omega);simp only[cV,Nat.add_zero,List.getElem?_cons_zero,List.getElem?_cons_succ]at c0 c1 c2 c3 c4 c5 c6;obtain⟨tick,x1,x2,x3,x4,x5,x6⟩:=x;simp only at c0 c1 c2 c3 c4 c5 c6 f1 f2 f3 f4 f5 f6;have y1:(0:Int)≤(k:Int):=by omega
    have y2:(k:Int)<(m:Int):=by omega
    have HPC:=zh (fun(w':World) (h:Boxes w' lb eb nb last each nn)=>pace1 lb eb nb last tick nn each w' h (by omega));go_wp2_with fail;have hsb:=off_new HO.out (b:=wi.heap.size) (.inl (zw8 _));have HSB:=zh hsb;clear hsb;refine(HPC.out _ (boxes_ext HBX.out (zxa (zxr _) _))).mono ?_;rintro e w7 ⟨rfl,hbx7,h2w⟩;have hk6:∀k,k≠lb→k≠eb→k<(wi.alloc (.cells #[.int .i64 tick,.int .u8 (x1:Int),.int .u8 (x2:Int),.int .u16 (x3:Int),.int .u16 (x4:Int),.int .u16 (x5:Int),.int .u8 (x6:Int)] 104)).heap.size→w7.heap[k]? =(wi.alloc (.cells #[.int .i64 tick,.int .u8 (x1:Int),.int .u8 (x2:Int),.int .u16 (x3:Int),.int .u16 (x4:Int),.int .u16 (x5:Int),.int .u8 (x6:Int)] 104)).heap[k]? :=fun k h1 h2 h3=>h2w.2.2.2.2 k h3 h1 h2;have hb6:=Blk.new wi 104 #[.int .i64 tick,.int .u8 (x1:Int),.int .u8 (x2:Int),.int .u16 (x3:Int),.int .u16 (x4:Int),.int .u16 (x5:Int),.int .u8 (x6:Int)];have hb7:Blk w7 wi.heap.size 104 #[.int .i64 tick,.int .u8 (x1:Int),.int .u8 (x2:Int),.int .u16 (x3:Int),.int .u16 (x4:Int),.int .u16 (x5:Int),.int .u8 (x6:Int)]:=
     (hk6 _ (by have:=HBL.out;have:=HSZ.out;omega) (by have:=HBL.out;have:=HSZ.out;omega) hb6.lt).trans hb6
    have HE7:Hid (Ext w w7):=zh (h2w.ext (zxa HE.out _) (by have:=HBL.out;omega) (by have:=HBL.out;omega));have HO7:Hid (OwnB B2 w7 u7 zs):=zh ((HO.out.ext (zxa (zxr wi) (.cells #[.int .i64 tick,.int .u8 (x1:Int),.int .u8 (x2:Int),.int .u16 (x3:Int),.int .u16 (x4:Int),.int .u16 (x5:Int),.int .u8 (x6:Int)] 104))).keep (fun k h1 h2=>hk6 k (by have:=HBL.out;omega) (by have:=HBL.out;omega) h2));have HSZ7:Hid (B2≤w7.heap.size):=zh (by have:=HSZ.out;have:=hb7.lt;omega);have HB7:=zh hb7;have HBX7:=zh hbx7;clear hbx7 h2w hb6 hk6 hb7 HPC HBX HO HCX c0 c1 c2 c3 c4 c5 c6 HE HB;by_cases hp:last≤tick∧tick<(nn:Int)∧eachI last each tick≤32
    ·rw[zw15 hp]
     obtain⟨hp1,hp2,hp3⟩:=hp;have HTT2:Hid (T=if pacedB nn tick (eachI last each tick) (evs.drop (k+1))=true then some ((zs++(vb (tick-last).toNat++([x1,x2,x6]++(vb x3++(vb x4++vb x5)))))++encV tick (evs.drop (k+1)))else none):=zh<| by
      rw[HTT.out,HD.out,pacedB,encV,zw15 (show last≤tick∧tick<(nn:Int)∧eachI last each tick≤32 from⟨hp1,hp2,hp3⟩),zw50];simp only[zw7]
     generalize heq:eachI last each tick=each2 at*;clear heq HTT HD;obtain⟨d,rfl⟩:∃d:Nat,tick=last+(d:Int):=⟨(tick-last).toNat,by omega⟩;have hd1:d<5000:=by omega
     rw[show(last+(d:Int)-last).toNat=d by omega]at HTT2;have HP1:=zh (fun w'=>put_nil d (by omega) w');have z0:=fun i=>HB7.out.cell i;have hi1:last+(d:Int)≤4096:=by omega
     have hi0:0≤last+(d:Int):=by omega
     go_wp2_with fail;rw[show last+(d:Int)-last=(d:Int)by omega];refine(HP1.out w7).mono ?_;rintro e w8 ⟨v8,rfl,hsrc8,hO8',hE8⟩;have HSRC:=zh hsrc8;have HO8:=zh (HO7.out.ext hE8);have HB8:=zh (HB7.out.ext hE8);have HBX8:=zh (boxes_ext HBX7.out hE8);have HSZ8:=zh (zw10 HSZ7.out hE8.size);have HE8:=zh (zxt HE7.out hE8);clear hsrc8 hO8' hE8 HO7 HB7 HBX7 HSZ7 HE7 z0;have HLZ:Hid (zs.length+(vb d).length≤140737488355328):=zh (by have:=vb_ten (n:=d) (by omega);omega);go_upto_region 12 with (at_builtin;refine wpList_b rfl (.tmp 33) (.tmp 39) 48 rfl u7 v8 zs (vb d) rfl rfl HO8.out HSZ8.out HSRC.out HLZ.out ?_;intro v9 w9 hO9 hG9;have HO9:=zh hO9;have HG9:=zh hG9;clear hO9 hG9)
     have HB9:=zh (HG9.out.blk HSB.out HB8.out);have HF9:=zh (HG9.out.off HSB.out HB8.out.lt);have HBX9:=zh (boxes_grew HBX8.out HG9.out HO8.out HBL.out.2.2.2.1 HBL.out.2.2.2.2.1 HBL.out.2.2.2.2.2.1);have HSZ9:=zh (zw10 HSZ8.out HG9.out.1.size);have HE9:=zh (HG9.out.ext HE8.out HO8.out HBL.out.2.2.2.2.2.2);clear HSRC HO8 HB8 HBX8 HSZ8 HE8 HG9 HLZ HSB;have hb9c:=fun i=>HB9.out.cell i;have HEA:=zh (zxa (zxr w9) (.cells (c8 [x1,x2,x6]).toArray 5));have HOA:=zh (HO9.out.ext HEA.out);have HSRA:=zh (src_row w9 [x1,x2,x6] 3 3 rfl);have HSZA:=zh (zw10 HSZ9.out HEA.out.size);have HLZA:Hid ((zs++vb d).length+[x1,x2,x6].length≤140737488355328):=zh (by have:=vb_ten (n:=d) (by omega);rw[zw0];simp only[zw3,zw26];omega);go_upto_region 13 with (at_builtin;refine wpList_b rfl (.tmp 41) (.tmp 51) 48 rfl v9 _ (zs++vb d) [x1,x2,x6] rfl rfl HOA.out HSZA.out HSRA.out HLZA.out ?_;intro vA wA hOA hGA;have HO10:=zh hOA;have HG10:=zh hGA;clear hOA hGA)
     have HB10:=zh (HG10.out.blk HF9.out (HB9.out.ext HEA.out));have HF10:=zh (HG10.out.off HF9.out (HB9.out.ext HEA.out).lt);have HBX10:=zh (boxes_grew (boxes_ext HBX9.out HEA.out) HG10.out HOA.out HBL.out.2.2.2.1 HBL.out.2.2.2.2.1 HBL.out.2.2.2.2.2.1);have HSZ10:=zh (zw10 HSZA.out HG10.out.1.size);have HE10:=zh (HG10.out.ext (zxt HE9.out HEA.out) HOA.out HBL.out.2.2.2.2.2.2);clear hb9c HO9 HB9 HF9 HBX9 HSZ9 HE9 HEA HOA HSRA HSZA HLZA HG10;have hb10:=fun i=>HB10.out.cell i;have HB11:=zh (Blk.new wA 60 #[.int .u16 (x3:Int),.int .u16 (x4:Int),.int .u16 (x5:Int)]);have HWR0:Hid (WRel w B2 lb eb nb nn (last+d) each2 (zs++vb d++[x1,x2,x6]) [x3,x4,x5] wi.heap.size wA.heap.size #[.int .i64 (last+(d:Int)),.int .u8 (x1:Int),.int .u8 (x2:Int),.int .u16 (x3:Int),.int .u16 (x4:Int),.int .u16 (x5:Int),.int .u8 (x6:Int)] #[.int .u16 (x3:Int),.int .u16 (x4:Int),.int .u16 (x5:Int)] 3 vA (.int .i64 ((0:Nat):Int)) (wA.alloc (.cells #[.int .u16 (x3:Int),.int .u16 (x4:Int),.int .u16 (x5:Int)] 60))):=zh<| by
      refine⟨0,rfl,rfl,?_,HB10.out.alloc _,HB11.out,HF10.out,off_new HO10.out (.inl (zw8 _)),boxes_ext HBX10.out (zxa (zxr _) _),by rw[zw22];have:=HSZ10.out;omega,zxa HE10.out _⟩
      simpa using HO10.out.ext (zxa (zxr _) _)
     go_wp2_with fail
     go_loopg [7,64] 3 (fun gh bv iv wq=>WRel w B2 lb eb nb nn (last+d) each2 (zs++vb d++[x1,x2,x6]) [x3,x4,x5] wi.heap.size wA.heap.size #[.int .i64 (last+(d:Int)),.int .u8 (x1:Int),.int .u8 (x2:Int),.int .u16 (x3:Int),.int .u16 (x4:Int),.int .u16 (x5:Int),.int .u8 (x6:Int)] #[.int .u16 (x3:Int),.int .u16 (x4:Int),.int .u16 (x5:Int)] gh bv iv wq)
     case atStart=>exact HWR0.out
     case round=>
      obtain⟨k2,hk2,rfl,hO2,hB2,hB3,hF2,hF3,hbx2,hsz2,hE2⟩:=hrel;obtain⟨wj,rfl⟩:∃wj:World,wj=wr:=⟨_,rfl⟩;obtain⟨vj,rfl⟩:∃vj:Value,vj=u7:=⟨_,rfl⟩;obtain⟨gh2,rfl⟩:∃gh:Nat,gh=gk:=⟨_,rfl⟩;have HO2:=zh hO2;have HB2:=zh hB2;have HB3:=zh hB3;have HF2:=zh hF2;have HF3:=zh hF3;have HBX2:=zh hbx2;have HSZ2:=zh hsz2;have HE2:=zh hE2;clear hO2 hB2 hB3 hF2 hF3 hbx2 hsz2 hE2 HWR0 hb10 HB10 HO10 HF10 HBX10 HSZ10 HE10;by_cases hl3:k2<3
      ·obtain⟨y,hy1,hy2,hy3⟩:=words3 x3 x4 x5 f3 f4 f5 k2 hl3
       have HY3:=zh hy3;have cy:=HB3.out.cell k2;rw[hy2]at cy;have i1:(0:Int)≤(k2:Int):=by omega
       have i2:(k2:Int)<3:=by omega
       have HPY:=zh (fun w'=>put_nil y (by omega) w');have hwA:wA.heap.size<wj.heap.size:=HB3.out.lt;clear hy2 hy3;go_wp2_with fail;refine(HPY.out wj).mono ?_;rintro e w8' ⟨v8',rfl,hsrc8,hO8',hE8⟩;have HSRC:=zh hsrc8;have HO8:=zh (HO2.out.ext hE8);have HB8:=zh (HB2.out.ext hE8);have HB8':=zh (HB3.out.ext hE8);have HBX8:=zh (boxes_ext HBX2.out hE8);have HSZ8:=zh (zw10 HSZ2.out hE8.size);have HE8:=zh (zxt HE2.out hE8);clear hsrc8 hO8' hE8 cy;have HLZ:Hid ((zs++vb d++[x1,x2,x6]++([x3,x4,x5].take k2).flatMap vb).length+(vb y).length≤140737488355328):=zh (by
        have q1:=vb_ten (n:=d) (by omega);have q2:=vb_ten (n:=y) (by omega);have q3:=flat3_len x3 x4 x5 f3 f4 f5 k2;simp only[zw0,zw3,zw26];omega)
       go_wp2_with (at_builtin;refine wpList_b rfl (.tmp 68) (.tmp 71) 48 rfl vj v8' (zs++vb d++[x1,x2,x6]++([x3,x4,x5].take k2).flatMap vb) (vb y) rfl rfl HO8.out HSZ8.out HSRC.out HLZ.out ?_;intro vC wC hOC hGC;have HOC:=zh hOC;have HGC:=zh hGC;clear hOC hGC)
       go_roundg (gh2-1)
       case measure=>omega
       case rel=>
        refine⟨k2+1,by omega,by go_num,?_,HGC.out.blk HF2.out HB8.out,HGC.out.blk HF3.out HB8'.out,HGC.out.off HF2.out HB8.out.lt,HGC.out.off HF3.out HB8'.out.lt,boxes_grew HBX8.out HGC.out HO8.out HBL.out.2.2.2.1 HBL.out.2.2.2.2.1 HBL.out.2.2.2.2.2.1,zw10 HSZ8.out HGC.out.1.size,HGC.out.ext HE8.out HO8.out HBL.out.2.2.2.2.2.2⟩;rw[HY3.out,←zw7];exact HOC.out
      ·obtain rfl:k2=3:=by omega
       have hz2:=fun i=>HB2.out.cell i;have i2:¬((3:Nat):Int)<3:=by omega
       go_wp2_with fail
       go_roundg (gh-1)
       case measure=>omega
       case rel=>
        have q1:=vb_ten (n:=d) (by omega);have q3:=vb_ten (n:=x3) (by omega);have q4:=vb_ten (n:=x4) (by omega);have q5:=vb_ten (n:=x5) (by omega);have he:zs++vb d++[x1,x2,x6]++List.flatMap vb (List.take 3 [x3,x4,x5])=zs++(vb d++([x1,x2,x6]++(vb x3++(vb x4++vb x5)))):=by simp
        refine⟨k+1,last+d,each2,zs++(vb d++([x1,x2,x6]++(vb x3++(vb x4++vb x5)))),by rw[HLEN.out];omega,by go_num,rfl,hi0,hi1,hp3,by rw[←he];exact HO2.out,?_,?_,HBX2.out,HSZ2.out,HE2.out,HTT2.out⟩
        ·intro c hc
         rcases zw16.1 hc with hc | hc
         ·exact HZS.out c hc
         rcases zw16.1 hc with hc | hc
         ·exact vb_mem _ c hc
         rcases zw16.1 hc with hc | hc
         ·simp only[zw30,List.not_mem_nil,or_false]at hc
          rcases hc with rfl | rfl | rfl<;>assumption
         rcases zw16.1 hc with hc | hc
         ·exact vb_mem _ c hc
         rcases zw16.1 hc with hc | hc
         ·exact vb_mem _ c hc
         ·exact vb_mem _ c hc
        ·simp only[zw0,zw3,zw26]
         omega
    ·rw[zw14 hp]
     have HTF:Hid (putL nn evs=none):=zh (by
      rw[HTK.out,HTT.out,HD.out,pacedB,zw14 hp,zw51,if_neg (by decide)])
     clear hp;go_wp2_with fail
     go_ret2
     exact pt_bad HE7.out HTF.out
   ·obtain rfl:gh=0:=by omega
    obtain rfl:k=m:=by omega
    have HTF:Hid (putL nn evs=some zs):=zh (by
     rw[HTK.out,HTT.out,zw21 (by rw[HLEN.out];omega),pacedB,if_pos rfl,encV,zw18])
    have y2:¬(k:Int)<(k:Int):=by omega
    go_wp2_with fail
    go_ret2
    exact pt_ok HE.out HTF.out HO.out (by have:=HBL.out;omega)
 ·rw[zw14 hn]at HT
  have HTF:Hid (putL n evs=none):=zh (by unfold putL;rw[if_neg (fun h=>hn ⟨h.1,h.2.1⟩)]);clear hn;go_enter Tryz.func26,Tryz.ntmps26;go_wp2_with fail;refine(HT.out).mono ?_;rintro e w1 ⟨rfl,hE1⟩;have HE1:=zh hE1;clear hE1;go_wp2_with fail
  go_ret2
  exact pt_bad HE1.out HTF.out
open Go.ChangeShapes Go.WideShapes Go.ChangeAt Go.RowKit Go.Deep
theorem cellsS:Tryz.prog.cellsOf 99=3:=by kernel_rfl
theorem cellsE:Tryz.prog.cellsOf 127=7:=by kernel_rfl
theorem cellsHd:Tryz.prog.cellsOf 25=6:=by kernel_rfl
theorem list2 {α:Type}:∀{l:List α},l.length=2→∃a b,l=[a,b]
 | [a,b],_=>⟨a,b,rfl⟩
theorem list3 {α:Type}:∀{l:List α},l.length=3→∃a b c,l=[a,b,c]
 | [a,b,c],_=>⟨a,b,c,rfl⟩
theorem list6 {α:Type}:∀{l:List α},l.length=6→∃a b c d e f,l=[a,b,c,d,e,f]
 | [a,b,c,d,e,f],_=>⟨a,b,c,d,e,f,rfl⟩
theorem list7 {α:Type}:∀{l:List α},l.length=7→∃a b c d e f g,l=[a,b,c,d,e,f,g]
 | [a,b,c,d,e,f,g],_=>⟨a,b,c,d,e,f,g,rfl⟩
section
variable {H : Type} {enc : TypeId × Value → H} {w : World} {base : Nat} {spare : Nat → Bool} {held : Bool}
theorem start_of {fuel:Nat} {cs:List Value} {x:DataW H × List MemPlace} (h:DataW.trod enc Tryz.prog w base spare held fuel 99 cs=some x) (hl:cs.length=3):∃y,cs=cS y∧y.fits:=by
 obtain⟨ys,n',hn',hy,hlen,hyl,hf⟩:=zw55 Tryz.underlying99 h;obtain⟨v0,v1,v2,rfl⟩:=list3 hl;obtain⟨y0,y1,y2,rfl⟩:=list3 (show ys.length=3 from hyl);obtain⟨n0,e0,_,w0⟩:=zw54 Tryz.underlying5 (hf 0 _ rfl);obtain⟨n1,e1,_,w1⟩:=zw54 Tryz.underlying5 (hf 1 _ rfl);obtain⟨n2,e2,_,w2⟩:=zw54 Tryz.underlying3 (hf 2 _ rfl);have g0:v0= .int .u8 n0:=(List.cons.inj e0).1;have g1:v1= .int .u8 n1:=(List.cons.inj e1).1;have g2:v2= .int .i64 n2:=(List.cons.inj e2).1;obtain⟨m0,rfl,b0⟩:=nat_u8 (bounds_u8 w0);obtain⟨m1,rfl,b1⟩:=nat_u8 (bounds_u8 w1);have b2:=bounds_i64 w2;subst g0 g1 g2;exact⟨⟨m0,m1,n2⟩,rfl,b0,b1,b2.1,b2.2⟩
theorem entry_of {fuel:Nat} {cs:List Value} {x:DataW H × List MemPlace} (h:DataW.trod enc Tryz.prog w base spare held fuel 127 cs=some x) (hl:cs.length=7):∃y,cs=cV y∧y.fits:=by
 obtain⟨ys,n',hn',hy,hlen,hyl,hf⟩:=zw55 Tryz.underlying127 h;obtain⟨v0,v1,v2,v3,v4,v5,v6,rfl⟩:=list7 hl;obtain⟨y0,y1,rfl⟩:=list2 (show ys.length=2 from hyl);obtain⟨n0,e0,_,w0⟩:=zw54 Tryz.underlying3 (hf 0 _ rfl);obtain⟨zs,n2,hn2,hy2,hlen2,hyl2,hf2⟩:=zw55 Tryz.underlying102 (hf 1 _ rfl);obtain⟨z0,z1,z2,z3,z4,z5,rfl⟩:=list6 (show zs.length=6 from hyl2);obtain⟨n1,e1,_,w1⟩:=zw54 Tryz.underlying5 (hf2 0 _ rfl);obtain⟨n2,e2,_,w2⟩:=zw54 Tryz.underlying5 (hf2 1 _ rfl);obtain⟨n3,e3,_,w3⟩:=zw54 Tryz.underlying60 (hf2 2 _ rfl);obtain⟨n4,e4,_,w4⟩:=zw54 Tryz.underlying60 (hf2 3 _ rfl);obtain⟨n5,e5,_,w5⟩:=zw54 Tryz.underlying60 (hf2 4 _ rfl);obtain⟨n6,e6,_,w6⟩:=zw54 Tryz.underlying5 (hf2 5 _ rfl);have g0:v0= .int .i64 n0:=(List.cons.inj e0).1;have g1:v1= .int .u8 n1:=(List.cons.inj e1).1;have g2:v2= .int .u8 n2:=(List.cons.inj e2).1;have g3:v3= .int .u16 n3:=(List.cons.inj e3).1;have g4:v4= .int .u16 n4:=(List.cons.inj e4).1;have g5:v5= .int .u16 n5:=(List.cons.inj e5).1;have g6:v6= .int .u8 n6:=(List.cons.inj e6).1;obtain⟨m1,rfl,b1⟩:=nat_u8 (bounds_u8 w1);obtain⟨m2,rfl,b2⟩:=nat_u8 (bounds_u8 w2);obtain⟨m3,rfl,b3⟩:=nat_u16 (bounds_u16 w3);obtain⟨m4,rfl,b4⟩:=nat_u16 (bounds_u16 w4);obtain⟨m5,rfl,b5⟩:=nat_u16 (bounds_u16 w5);obtain⟨m6,rfl,b6⟩:=nat_u8 (bounds_u8 w6);subst g0 g1 g2 g3 g4 g5 g6;exact⟨⟨n0,m1,m2,m3,m4,m5,m6⟩,rfl,b1,b2,b3,b4,b5,b6⟩
def HdrIn (w:World) (cs:Array Value) (y:Hv) (a:Option Addr) (len cap:Nat):Prop:=
 cs=cH y (.slice a len cap)∧RowR w a len 3 cS y.starts∧(∀u∈y.starts,u.fits)∧y.seed<4294967296∧y.tiles.size≤9223372036854775807∧len≤9223372036854775807∧
  -9223372036854775808≤y.w∧y.w≤9223372036854775807∧ -9223372036854775808≤y.h∧y.h≤9223372036854775807
theorem hdr_of {fuel:Nat} {cs:Array Value} {x:DataW H × List MemPlace} (h:DataW.trod enc Tryz.prog w base spare held fuel 25 cs.toList=some x) (hs:cs.size=Tryz.prog.cellsOf 25):∃y a len cap,HdrIn w cs y a len cap:=by
 rw[cellsHd]at hs;obtain⟨ys,n',hn',hy,hlen,hyl,hf⟩:=zw55 Tryz.underlying25 h;obtain⟨v0,v1,v2,v3,v4,v5,hv⟩:=list6 (show cs.toList.length=6 by simpa using hs);obtain⟨y0,y1,y2,y3,y4,y5,rfl⟩:=list6 (show ys.length=6 from hyl);rw[hv]at hf;obtain⟨n0,e0,_,w0⟩:=zw54 Tryz.underlying3 (hf 0 _ rfl);obtain⟨n1,e1,_,w1⟩:=zw54 Tryz.underlying3 (hf 1 _ rfl);obtain⟨n2,e2,_,w2⟩:=zw54 Tryz.underlying3 (hf 2 _ rfl);obtain⟨n3,e3,_,w3⟩:=zw54 Tryz.underlying22 (hf 3 _ rfl);obtain⟨n4,e4,_,w4⟩:=DataW.trod_string Tryz.underlying9 (hf 4 _ rfl);have h5:DataW.trod enc Tryz.prog w base spare held n' 23 [v5]=some y5:=hf 5 _ rfl;have hsl:∃a len cap,v5= .slice a len cap:=by
  rcases open_slice Tryz.underlying23 h5 with ⟨hcs,_⟩ | ⟨ad,l,c,m,n,D,Pl,hcs,_⟩
  ·exact⟨_,_,_,(List.cons.inj hcs).1⟩
  ·exact⟨_,_,_,(List.cons.inj hcs).1⟩
 obtain⟨a,len,cap,rfl⟩:=hsl;obtain⟨ls,hr,hg,hm,hl⟩:=recs_of Tryz.underlying23 cellsS (by decide) cS_len (fun _ _ _ h hl=>start_of h hl) h5;have g0:v0= .int .i64 n0:=(List.cons.inj e0).1;have g1:v1= .int .i64 n1:=(List.cons.inj e1).1;have g2:v2= .int .i64 n2:=(List.cons.inj e2).1;have g3:v3= .int .u32 n3:=(List.cons.inj e3).1;have g4:v4= .string n4:=(List.cons.inj e4).1;obtain⟨m3,rfl,b3⟩:=nat_u32 (bounds_u32 w3);have b0:=bounds_i64 w0;have b1:=bounds_i64 w1;subst g0 g1 g2 g3 g4;unfold maxLen at hm w4;refine⟨⟨n0,n1,n2,m3,n4,ls⟩,a,len,cap,?_,hr,hg,b3,by show n4.size≤_;omega,by omega,b0.1,b0.2,b1.1,b1.2⟩;apply Array.ext';rw[hv];rfl
end
end Go.Proofs.YtidnboeihkeljaaGreatDoor.Log
