
import Derived.Test.YtbopblbhjcemaaaGreatDoorF11
import Derived.Test.YtbopblbhjcemaaaGreatDoorF18
set_option maxHeartbeats 16000000
set_option maxRecDepth 100000
set_option linter.all false
open Go.ChangeShapes Go.WideShapes Go.ChangeAt Go.RowKit
namespace Go.Proofs.YtbopblbhjcemaaaGreatDoor.Trk
open Wire
open Rec
theorem mayCam_len {n:Int} {ps:List Pt} (h:mayCam n ps=true):ps.length≤64:=by
 unfold mayCam at h;rw[zw48,zw49]at h;exact h.2
theorem mayCam_c {n:Int} {ps:List Pt} (h:mayCam n ps=true):mayC n (-1) (ps.drop 0)=true:=by
 unfold mayCam at h;rw[zw48]at h
 simpa using h.1
theorem mayT_parts {n:Int} {x:Tk} (h:mayT n x=true):(0≤n∧n≤4096)∧x.marks.length≤32∧(mayCam n x.c0=true∧mayCam n x.c1=true∧mayCam n x.c2=true∧mayCam n x.c3=true)∧mayM n 0 x.marks=true:=by
 unfold mayT Tk.cams at h;simp only[List.all_cons,List.all_nil,Bool.and_true,zw48,zw49]at h;obtain⟨a,b,⟨c,d,e,f⟩,g⟩:=h;exact⟨a,b,⟨c,d,e,f⟩,g⟩
theorem bytes_st (t:Tv) (x:Tk) (n:Int) (w:World) (hB:TkV w t x) (hn1: -9223372036854775808≤n) (hn2:n≤9223372036854775807):
  Calls Tryz.prog 20 #[.agg t.cells,.int .i64 n] w (BtPost w n x):=by
 have hE0:=zxa (zxr w) (.cells t.cells 37);have HH0:=zh (Blk.new w 37 t.cells);have HMY:=zh (may_st t x n _ (hB.ext hE0) hn1 hn2);have HB:=zh (hB.ext hE0);have HLEN:=zh hB.2.2.2.2.1.1;have HE0:=zh hE0;have hcs:Hid (t.cells.size=5):=zh rfl;clear hB hE0
 cases hmay:mayT n x with
 | false=>
  rw[hmay]at HMY;have HMAY:=zh hmay;clear hmay;obtain⟨⟨A0,n0,c0⟩,⟨A1,n1,c1⟩,⟨A2,n2,c2⟩,⟨A3,n3,c3⟩,⟨Am,nm,cm⟩⟩:=t;simp only[Tv.cells]at HMY HE0 ⊢;go_enter Tryz.func20,Tryz.ntmps20;go_wp2_with fail;refine(HMY.out).mono ?_;rintro e w1 ⟨rfl,hE1⟩;have HE1:=zh (zxt HE0.out hE1);clear hE1;go_wp2_with fail
  go_ret2
  exact bt_bad HMAY.out HE1.out
 | true=>
  rw[hmay]at HMY;have HMAY:=zh hmay;obtain⟨hnn,hm32,hcam,hmm⟩:=mayT_parts hmay;have HCAM:=zh hcam;have HMM:=zh hmm;clear hmay hcam hmm;obtain⟨⟨A0,n0,c0⟩,⟨A1,n1,c1⟩,⟨A2,n2,c2⟩,⟨A3,n3,c3⟩,⟨Am,nm,cm⟩⟩:=t;obtain⟨p0,p1,p2,p3,ms⟩:=x;simp only[Tv.cells]at HMY HE0 HH0 hm32 hcs ⊢;go_enter Tryz.func20,Tryz.ntmps20;go_wp2_with fail;refine(HMY.out).mono ?_;rintro e w1 ⟨rfl,hE1⟩;have HE1:=zh (zxt HE0.out hE1);have HB1:=zh (HB.out.ext hE1);have HH1:=zh (HH0.out.ext hE1);have hhl:w.heap.size<w1.heap.size:=HH1.out.lt;clear hE1 HE0 HB HH0 HMY hcs;have hh:=fun i=>HH1.out.cell i;obtain⟨T,hT⟩:∃T,T=encT ⟨p0,p1,p2,p3,ms⟩:=⟨_,rfl⟩;have HTE:=zh hT.symm;have HTS:Hid (T=([]:List Nat)++(([p0,p1,p2,p3].drop 0).flatMap encC++encM ms)):=zh (by rw[hT];rfl);clear hT;go_wp2_with fail
  go_loopg [6,21] 4 (fun gh bv iv wr=>∃(k:Nat) (zs:List Nat),k+gh=4∧iv= .int .i64 (k:Int)∧OwnB w1.heap.size wr bv zs∧zs.length≤2000*k∧Ext w1 wr∧T=zs++(([p0,p1,p2,p3].drop k).flatMap encC++encM ms))
  case atStart=>exact⟨0,[],by omega,rfl,OwnB.nil _ _,by simp,zxr _,HTS.out⟩
  case round=>
   obtain⟨k,zs,hk,rfl,hO,hzl,hE,hTT⟩:=hrel;obtain⟨wi,rfl⟩:∃wi:World,wi=wr:=⟨_,rfl⟩;obtain⟨vi,rfl⟩:∃vi:Value,vi=u6:=⟨_,rfl⟩;obtain⟨gh,rfl⟩:∃gh:Nat,gh=gk:=⟨_,rfl⟩;have HO:=zh hO;have HE:=zh hE;have HTT:=zh hTT;clear hO hE hTT HTS hh;by_cases hlt:k<4
   ·have hk4:k=0∨k=1∨k=2∨k=3:=by omega
    rcases hk4 with rfl | rfl | rfl | rfl
    ·have HMX:=zh HCAM.out.1
     have HNB:=zh (Blk.new wi 3 #[.int .i64 (n0:Int)]);have hea:=zxa (zxr wi) (.cells #[.int .i64 (n0:Int)] 3);have HEA:=zh (zxt HE.out hea);have hoa:=HO.out.ext hea;have HLP:p0.length=n0:=HB1.out.1.1.1;have hn64:n0≤64:=by have:=mayCam_len HMX.out;omega
     have HPT:=zh (show Calls Tryz.prog 48 #[vi,.slice (some ⟨wi.heap.size,0,none⟩) 1 1] (wi.alloc (.cells #[.int .i64 (n0:Int)] 3)) (fun e w'=>∃v',e= .returned v'∧OwnB w1.heap.size w' v' (zs++[n0].flatMap vb)∧Grew (wi.alloc (.cells #[.int .i64 (n0:Int)] 3)) w' vi v')from put_tr [n0] wi.heap.size 1 w1.heap.size vi zs _ (by intro x hx;simp only[zw52]at hx;omega) (by simp) HNB.out hoa HEA.out.size (off_new HO.out (.inl (zw8 _))) (by omega));have hix:=(idx4 (.slice A0 n0 c0) (.slice A1 n1 c1) (.slice A2 n2 c2) (.slice A3 n3 c3) wi).1;have HOA:=zh hoa;clear hea hoa;go_wp2_with fail;refine(HPT.out).mono ?_;rintro e w2 ⟨v2,rfl,hO2,hG2⟩;have HE2:=zh (hG2.ext HEA.out HOA.out (zw8 _));have HQ0:Hid (QRel w1 n p0 T (([p1,p2,p3]:List (List Pt)).flatMap encC++encM ms) (2000*0+20) n0 v2 (.int .i64 0) (.int .i64 ((0:Nat):Int)) w2):=zh<| by
      have hv:=vb_ten (n:=n0) (by omega);refine⟨0,0,-1,zs++vb n0,by rw[HLP];omega,rfl,rfl,by omega,by omega,by omega,mayCam_c HMX.out,by simpa using hO2,by rw[zw0];omega,HE2.out,?_⟩;rw[HTT.out];simp only[zw28,List.drop_succ_cons,List.flatMap_cons,List.flatMap_nil,encC,HLP,zw7,zw18,zw17]
     clear hO2 hG2 HPT HNB HEA HOA HO HTT hix HE2 HMX HLP;go_wp2_with fail
     go_loopg [6,9,31] n0 (fun gh bv lv iv wr=>QRel w1 n p0 T (([p1,p2,p3]:List (List Pt)).flatMap encC++encM ms) (2000*0+20) gh bv lv iv wr)
     case atStart=>exact HQ0.out
     case round=>
      obtain⟨q,last,lm,zz,hq,rfl,rfl,hl0,hl1,hl2,hmc,hOz,hzz,hE,hTz⟩:=hrel;obtain⟨wj,rfl⟩:∃wi:World,wi=wr:=⟨_,rfl⟩;obtain⟨vj,rfl⟩:∃vi:Value,vi=u6:=⟨_,rfl⟩;obtain⟨gj,rfl⟩:∃gh:Nat,gh=gk:=⟨_,rfl⟩;have hlp:p0.length=n0:=HB1.out.1.1.1;have hqn:q+gj=n0:=by rw[hq,hlp]
      have HOZ:=zh hOz;have HEJ:=zh hE;have HTZ:=zh hTz;have HMC:=zh hmc;clear hOz hE hTz hmc HQ0 hq;have y1:(0:Int)≤(q:Int):=by omega
      by_cases hlt:q<n0
      ·have hke:q<p0.length:=by rw[hlp];exact hlt
       obtain⟨b,o,hA,hbw,hc⟩:=HB1.out.1.1.2 (by show 0<n0;omega);simp only at hA;subst hA;have hcell:=fun j hj=>(HEJ.out.cell (p:=⟨b,o+q*3+j,none⟩) hbw).trans (hc q hke j hj);have hd:p0.drop q=p0[q]::p0.drop (q+1):=zw20 hke;generalize p0[q]=u at hcell hd;have hmc:=HMC.out;rw[hd,mayC,zw48,zw49]at hmc;obtain⟨tk,px,py⟩:=u;obtain⟨⟨o1,o2,o3,o4,o5,o6⟩,hmc2⟩:=hmc;simp only at o1 o2 o3 o4 o5 o6 hmc2;have a0:=hcell 0 (by omega);have a1:=hcell 1 (by omega);have a2:=hcell 2 (by omega);simp only[cP,Nat.add_zero,List.getElem?_cons_zero,List.getElem?_cons_succ]at a0 a1 a2;obtain⟨d,rfl⟩:∃d:Nat,tk=last+(d:Int):=⟨(tk-last).toNat,by omega⟩;obtain⟨X,rfl⟩:∃d:Nat,px=(d:Int):=⟨px.toNat,by omega⟩;obtain⟨Y,rfl⟩:∃d:Nat,py=(d:Int):=⟨py.toNat,by omega⟩;have HTZ2:Hid (T=(zz++(vb d++(vb X++vb Y)))++(encP (last+d) (p0.drop (q+1))++(([p1,p2,p3]:List (List Pt)).flatMap encC++encM ms))):=zh (by
        rw[HTZ.out,hd,encP];simp only[zw35,show(last+(d:Int)-last).toNat=d by omega,zw7])
       have HMC2:=zh hmc2;have hd5:d≤5000:=by omega
       have hX:X≤16384:=by omega
       have hY:Y≤16384:=by omega
       have y2:(q:Int)<(n0:Int):=by omega
       have hi1:last+(d:Int)≤4096:=by omega
       have hi0:0≤last+(d:Int):=by omega
       have HPB:=zh (Blk.new wj 84 #[.int .i64 (last+(d:Int)),.int .i32 (X:Int),.int .i32 (Y:Int)]);have hea:=zxa (zxa (zxr wj) (.cells #[.int .i64 (last+(d:Int)),.int .i32 (X:Int),.int .i32 (Y:Int)] 84)) (.cells (ints [d,X,Y]) 3);have hfar:=off_new HOZ.out (b:=wj.heap.size) (.inl (zw8 _));have HPT:=zh (show Calls Tryz.prog 48 #[vj,.slice (some ⟨wj.heap.size+1,0,none⟩) 3 3] ((wj.alloc (.cells #[.int .i64 (last+(d:Int)),.int .i32 (X:Int),.int .i32 (Y:Int)] 84)).alloc (.cells #[.int .i64 (d:Int),.int .i64 (X:Int),.int .i64 (Y:Int)] 3)) (fun e w'=>∃v',e= .returned v'∧OwnB w1.heap.size w' v' (zz++[d,X,Y].flatMap vb)∧Grew ((wj.alloc (.cells #[.int .i64 (last+(d:Int)),.int .i32 (X:Int),.int .i32 (Y:Int)] 84)).alloc (.cells #[.int .i64 (d:Int),.int .i64 (X:Int),.int .i64 (Y:Int)] 3)) w' vj v')from put_tr [d,X,Y] (wj.heap.size+1) 3 w1.heap.size vj zz _ (by intro x hx;simp only[zw30,List.not_mem_nil,or_false]at hx;omega) (by simp) (Blk.new1 wj _ 3 (ints [d,X,Y])) (HOZ.out.ext hea) (zxt HEJ.out hea).size (off_new HOZ.out (.inl (by omega))) (by omega));have HOA:=zh (HOZ.out.ext hea);have HEA:=zh (zxt HEJ.out hea);have HFR:=zh hfar;have HPB2:=zh (HPB.out.alloc (.cells (ints [d,X,Y]) 3));clear hc hcell hd hke hmc2 hea hfar HPB;go_wp2_with fail;rw[show last+(d:Int)-last=(d:Int)by omega];refine(HPT.out).mono ?_;rintro e w3 ⟨v3,rfl,hO3,hG3⟩;have HE3:=zh (hG3.ext HEA.out HOA.out (zw8 _));have HPB3:=zh (hG3.blk HFR.out HPB2.out);have HO3:=zh hO3;clear hO3 hG3 HPT HOA HEA HFR HPB2;have pb:=fun i=>HPB3.out.cell i
       go_wp2_with fail
       go_roundg (gj-1)
       case measure=>omega
       case rel=>
        have q1:=vb_ten (n:=d) (by omega);have q2:=vb_ten (n:=X) (by omega);have q3:=vb_ten (n:=Y) (by omega);refine⟨q+1,last+d,last+d,_,by rw[hlp];omega,by go_num,rfl,hi0,hi1,by omega,HMC2.out,HO3.out,?_,HE3.out,?_⟩
        ·simp only[List.flatMap_cons,List.flatMap_nil,zw0,zw26];omega
        ·rw[HTZ2.out]
         simp only[List.flatMap_cons,List.flatMap_nil,zw7,zw18]
      ·obtain rfl:gj=0:=by omega
       obtain rfl:q=n0:=by omega
       have y2:¬(q:Int)<(q:Int):=by omega
       go_wp2_with fail
       go_roundg (gh-1)
       case measure=>omega
       case rel=>
        refine⟨1,zz,by omega,by go_num,HOZ.out,by omega,HEJ.out,?_⟩;rw[HTZ.out,zw21 (by rw[hlp];omega),encP,zw17];rfl
    ·have HMX:=zh HCAM.out.2.1
     have HNB:=zh (Blk.new wi 3 #[.int .i64 (n1:Int)]);have hea:=zxa (zxr wi) (.cells #[.int .i64 (n1:Int)] 3);have HEA:=zh (zxt HE.out hea);have hoa:=HO.out.ext hea;have HLP:p1.length=n1:=HB1.out.2.1.1.1;have hn64:n1≤64:=by have:=mayCam_len HMX.out;omega
     have HPT:=zh (show Calls Tryz.prog 48 #[vi,.slice (some ⟨wi.heap.size,0,none⟩) 1 1] (wi.alloc (.cells #[.int .i64 (n1:Int)] 3)) (fun e w'=>∃v',e= .returned v'∧OwnB w1.heap.size w' v' (zs++[n1].flatMap vb)∧Grew (wi.alloc (.cells #[.int .i64 (n1:Int)] 3)) w' vi v')from put_tr [n1] wi.heap.size 1 w1.heap.size vi zs _ (by intro x hx;simp only[zw52]at hx;omega) (by simp) HNB.out hoa HEA.out.size (off_new HO.out (.inl (zw8 _))) (by omega));have hix:=(idx4 (.slice A0 n0 c0) (.slice A1 n1 c1) (.slice A2 n2 c2) (.slice A3 n3 c3) wi).2.1;have HOA:=zh hoa;clear hea hoa;go_wp2_with fail;refine(HPT.out).mono ?_;rintro e w2 ⟨v2,rfl,hO2,hG2⟩;have HE2:=zh (hG2.ext HEA.out HOA.out (zw8 _));have HQ0:Hid (QRel w1 n p1 T (([p2,p3]:List (List Pt)).flatMap encC++encM ms) (2000*1+20) n1 v2 (.int .i64 0) (.int .i64 ((0:Nat):Int)) w2):=zh<| by
      have hv:=vb_ten (n:=n1) (by omega);refine⟨0,0,-1,zs++vb n1,by rw[HLP];omega,rfl,rfl,by omega,by omega,by omega,mayCam_c HMX.out,by simpa using hO2,by rw[zw0];omega,HE2.out,?_⟩;rw[HTT.out];simp only[zw28,List.drop_succ_cons,List.flatMap_cons,List.flatMap_nil,encC,HLP,zw7,zw18,zw17]
     clear hO2 hG2 HPT HNB HEA HOA HO HTT hix HE2 HMX HLP;go_wp2_with fail
     go_loopg [6,9,31] n1 (fun gh bv lv iv wr=>QRel w1 n p1 T (([p2,p3]:List (List Pt)).flatMap encC++encM ms) (2000*1+20) gh bv lv iv wr)
     case atStart=>exact HQ0.out
     case round=>
      obtain⟨q,last,lm,zz,hq,rfl,rfl,hl0,hl1,hl2,hmc,hOz,hzz,hE,hTz⟩:=hrel;obtain⟨wj,rfl⟩:∃wi:World,wi=wr:=⟨_,rfl⟩;obtain⟨vj,rfl⟩:∃vi:Value,vi=u6:=⟨_,rfl⟩;obtain⟨gj,rfl⟩:∃gh:Nat,gh=gk:=⟨_,rfl⟩;have hlp:p1.length=n1:=HB1.out.2.1.1.1;have hqn:q+gj=n1:=by rw[hq,hlp]
      have HOZ:=zh hOz;have HEJ:=zh hE;have HTZ:=zh hTz;have HMC:=zh hmc;clear hOz hE hTz hmc HQ0 hq;have y1:(0:Int)≤(q:Int):=by omega
      by_cases hlt:q<n1
      ·have hke:q<p1.length:=by rw[hlp];exact hlt
       obtain⟨b,o,hA,hbw,hc⟩:=HB1.out.2.1.1.2 (by show 0<n1;omega);simp only at hA;subst hA;have hcell:=fun j hj=>(HEJ.out.cell (p:=⟨b,o+q*3+j,none⟩) hbw).trans (hc q hke j hj);have hd:p1.drop q=p1[q]::p1.drop (q+1):=zw20 hke;generalize p1[q]=u at hcell hd;have hmc:=HMC.out;rw[hd,mayC,zw48,zw49]at hmc;obtain⟨tk,px,py⟩:=u;obtain⟨⟨o1,o2,o3,o4,o5,o6⟩,hmc2⟩:=hmc;simp only at o1 o2 o3 o4 o5 o6 hmc2;have a0:=hcell 0 (by omega);have a1:=hcell 1 (by omega);have a2:=hcell 2 (by omega);simp only[cP,Nat.add_zero,List.getElem?_cons_zero,List.getElem?_cons_succ]at a0 a1 a2;obtain⟨d,rfl⟩:∃d:Nat,tk=last+(d:Int):=⟨(tk-last).toNat,by omega⟩;obtain⟨X,rfl⟩:∃d:Nat,px=(d:Int):=⟨px.toNat,by omega⟩;obtain⟨Y,rfl⟩:∃d:Nat,py=(d:Int):=⟨py.toNat,by omega⟩;have HTZ2:Hid (T=(zz++(vb d++(vb X++vb Y)))++(encP (last+d) (p1.drop (q+1))++(([p2,p3]:List (List Pt)).flatMap encC++encM ms))):=zh (by
        rw[HTZ.out,hd,encP];simp only[zw35,show(last+(d:Int)-last).toNat=d by omega,zw7])
       have HMC2:=zh hmc2;have hd5:d≤5000:=by omega
       have hX:X≤16384:=by omega
       have hY:Y≤16384:=by omega
       have y2:(q:Int)<(n1:Int):=by omega
       have hi1:last+(d:Int)≤4096:=by omega
       have hi0:0≤last+(d:Int):=by omega
       have HPB:=zh (Blk.new wj 84 #[.int .i64 (last+(d:Int)),.int .i32 (X:Int),.int .i32 (Y:Int)]);have hea:=zxa (zxa (zxr wj) (.cells #[.int .i64 (last+(d:Int)),.int .i32 (X:Int),.int .i32 (Y:Int)] 84)) (.cells (ints [d,X,Y]) 3);have hfar:=off_new HOZ.out (b:=wj.heap.size) (.inl (zw8 _));have HPT:=zh (show Calls Tryz.prog 48 #[vj,.slice (some ⟨wj.heap.size+1,0,none⟩) 3 3] ((wj.alloc (.cells #[.int .i64 (last+(d:Int)),.int .i32 (X:Int),.int .i32 (Y:Int)] 84)).alloc (.cells #[.int .i64 (d:Int),.int .i64 (X:Int),.int .i64 (Y:Int)] 3)) (fun e w'=>∃v',e= .returned v'∧OwnB w1.heap.size w' v' (zz++[d,X,Y].flatMap vb)∧Grew ((wj.alloc (.cells #[.int .i64 (last+(d:Int)),.int .i32 (X:Int),.int .i32 (Y:Int)] 84)).alloc (.cells #[.int .i64 (d:Int),.int .i64 (X:Int),.int .i64 (Y:Int)] 3)) w' vj v')from put_tr [d,X,Y] (wj.heap.size+1) 3 w1.heap.size vj zz _ (by intro x hx;simp only[zw30,List.not_mem_nil,or_false]at hx;omega) (by simp) (Blk.new1 wj _ 3 (ints [d,X,Y])) (HOZ.out.ext hea) (zxt HEJ.out hea).size (off_new HOZ.out (.inl (by omega))) (by omega));have HOA:=zh (HOZ.out.ext hea);have HEA:=zh (zxt HEJ.out hea);have HFR:=zh hfar;have HPB2:=zh (HPB.out.alloc (.cells (ints [d,X,Y]) 3));clear hc hcell hd hke hmc2 hea hfar HPB;go_wp2_with fail;rw[show last+(d:Int)-last=(d:Int)by omega];refine(HPT.out).mono ?_;rintro e w3 ⟨v3,rfl,hO3,hG3⟩;have HE3:=zh (hG3.ext HEA.out HOA.out (zw8 _));have HPB3:=zh (hG3.blk HFR.out HPB2.out);have HO3:=zh hO3;clear hO3 hG3 HPT HOA HEA HFR HPB2;have pb:=fun i=>HPB3.out.cell i
       go_wp2_with fail
       go_roundg (gj-1)
       case measure=>omega
       case rel=>
        have q1:=vb_ten (n:=d) (by omega);have q2:=vb_ten (n:=X) (by omega);have q3:=vb_ten (n:=Y) (by omega);refine⟨q+1,last+d,last+d,_,by rw[hlp];omega,by go_num,rfl,hi0,hi1,by omega,HMC2.out,HO3.out,?_,HE3.out,?_⟩
        ·simp only[List.flatMap_cons,List.flatMap_nil,zw0,zw26];omega
        ·rw[HTZ2.out]
         simp only[List.flatMap_cons,List.flatMap_nil,zw7,zw18]
      ·obtain rfl:gj=0:=by omega
       obtain rfl:q=n1:=by omega
       have y2:¬(q:Int)<(q:Int):=by omega
       go_wp2_with fail
       go_roundg (gh-1)
       case measure=>omega
       case rel=>
        refine⟨2,zz,by omega,by go_num,HOZ.out,by omega,HEJ.out,?_⟩;rw[HTZ.out,zw21 (by rw[hlp];omega),encP,zw17];rfl
    ·have HMX:=zh HCAM.out.2.2.1
     have HNB:=zh (Blk.new wi 3 #[.int .i64 (n2:Int)]);have hea:=zxa (zxr wi) (.cells #[.int .i64 (n2:Int)] 3);have HEA:=zh (zxt HE.out hea);have hoa:=HO.out.ext hea;have HLP:p2.length=n2:=HB1.out.2.2.1.1.1;have hn64:n2≤64:=by have:=mayCam_len HMX.out;omega
     have HPT:=zh (show Calls Tryz.prog 48 #[vi,.slice (some ⟨wi.heap.size,0,none⟩) 1 1] (wi.alloc (.cells #[.int .i64 (n2:Int)] 3)) (fun e w'=>∃v',e= .returned v'∧OwnB w1.heap.size w' v' (zs++[n2].flatMap vb)∧Grew (wi.alloc (.cells #[.int .i64 (n2:Int)] 3)) w' vi v')from put_tr [n2] wi.heap.size 1 w1.heap.size vi zs _ (by intro x hx;simp only[zw52]at hx;omega) (by simp) HNB.out hoa HEA.out.size (off_new HO.out (.inl (zw8 _))) (by omega));have hix:=(idx4 (.slice A0 n0 c0) (.slice A1 n1 c1) (.slice A2 n2 c2) (.slice A3 n3 c3) wi).2.2.1;have HOA:=zh hoa;clear hea hoa;go_wp2_with fail;refine(HPT.out).mono ?_;rintro e w2 ⟨v2,rfl,hO2,hG2⟩;have HE2:=zh (hG2.ext HEA.out HOA.out (zw8 _));have HQ0:Hid (QRel w1 n p2 T (([p3]:List (List Pt)).flatMap encC++encM ms) (2000*2+20) n2 v2 (.int .i64 0) (.int .i64 ((0:Nat):Int)) w2):=zh<| by
      have hv:=vb_ten (n:=n2) (by omega);refine⟨0,0,-1,zs++vb n2,by rw[HLP];omega,rfl,rfl,by omega,by omega,by omega,mayCam_c HMX.out,by simpa using hO2,by rw[zw0];omega,HE2.out,?_⟩;rw[HTT.out];simp only[zw28,List.drop_succ_cons,List.flatMap_cons,List.flatMap_nil,encC,HLP,zw7,zw18,zw17]
     clear hO2 hG2 HPT HNB HEA HOA HO HTT hix HE2 HMX HLP;go_wp2_with fail
     go_loopg [6,9,31] n2 (fun gh bv lv iv wr=>QRel w1 n p2 T (([p3]:List (List Pt)).flatMap encC++encM ms) (2000*2+20) gh bv lv iv wr)
     case atStart=>exact HQ0.out
     case round=>
      obtain⟨q,last,lm,zz,hq,rfl,rfl,hl0,hl1,hl2,hmc,hOz,hzz,hE,hTz⟩:=hrel;obtain⟨wj,rfl⟩:∃wi:World,wi=wr:=⟨_,rfl⟩;obtain⟨vj,rfl⟩:∃vi:Value,vi=u6:=⟨_,rfl⟩;obtain⟨gj,rfl⟩:∃gh:Nat,gh=gk:=⟨_,rfl⟩;have hlp:p2.length=n2:=HB1.out.2.2.1.1.1;have hqn:q+gj=n2:=by rw[hq,hlp]
      have HOZ:=zh hOz;have HEJ:=zh hE;have HTZ:=zh hTz;have HMC:=zh hmc;clear hOz hE hTz hmc HQ0 hq;have y1:(0:Int)≤(q:Int):=by omega
      by_cases hlt:q<n2
      ·have hke:q<p2.length:=by rw[hlp];exact hlt
       obtain⟨b,o,hA,hbw,hc⟩:=HB1.out.2.2.1.1.2 (by show 0<n2;omega);simp only at hA;subst hA;have hcell:=fun j hj=>(HEJ.out.cell (p:=⟨b,o+q*3+j,none⟩) hbw).trans (hc q hke j hj);have hd:p2.drop q=p2[q]::p2.drop (q+1):=zw20 hke;generalize p2[q]=u at hcell hd;have hmc:=HMC.out;rw[hd,mayC,zw48,zw49]at hmc;obtain⟨tk,px,py⟩:=u;obtain⟨⟨o1,o2,o3,o4,o5,o6⟩,hmc2⟩:=hmc;simp only at o1 o2 o3 o4 o5 o6 hmc2;have a0:=hcell 0 (by omega);have a1:=hcell 1 (by omega);have a2:=hcell 2 (by omega);simp only[cP,Nat.add_zero,List.getElem?_cons_zero,List.getElem?_cons_succ]at a0 a1 a2;obtain⟨d,rfl⟩:∃d:Nat,tk=last+(d:Int):=⟨(tk-last).toNat,by omega⟩;obtain⟨X,rfl⟩:∃d:Nat,px=(d:Int):=⟨px.toNat,by omega⟩;obtain⟨Y,rfl⟩:∃d:Nat,py=(d:Int):=⟨py.toNat,by omega⟩;have HTZ2:Hid (T=(zz++(vb d++(vb X++vb Y)))++(encP (last+d) (p2.drop (q+1))++(([p3]:List (List Pt)).flatMap encC++encM ms))):=zh (by
        rw[HTZ.out,hd,encP];simp only[zw35,show(last+(d:Int)-last).toNat=d by omega,zw7])
       have HMC2:=zh hmc2;have hd5:d≤5000:=by omega
       have hX:X≤16384:=by omega
       have hY:Y≤16384:=by omega
       have y2:(q:Int)<(n2:Int):=by omega
       have hi1:last+(d:Int)≤4096:=by omega
       have hi0:0≤last+(d:Int):=by omega
       have HPB:=zh (Blk.new wj 84 #[.int .i64 (last+(d:Int)),.int .i32 (X:Int),.int .i32 (Y:Int)]);have hea:=zxa (zxa (zxr wj) (.cells #[.int .i64 (last+(d:Int)),.int .i32 (X:Int),.int .i32 (Y:Int)] 84)) (.cells (ints [d,X,Y]) 3);have hfar:=off_new HOZ.out (b:=wj.heap.size) (.inl (zw8 _));have HPT:=zh (show Calls Tryz.prog 48 #[vj,.slice (some ⟨wj.heap.size+1,0,none⟩) 3 3] ((wj.alloc (.cells #[.int .i64 (last+(d:Int)),.int .i32 (X:Int),.int .i32 (Y:Int)] 84)).alloc (.cells #[.int .i64 (d:Int),.int .i64 (X:Int),.int .i64 (Y:Int)] 3)) (fun e w'=>∃v',e= .returned v'∧OwnB w1.heap.size w' v' (zz++[d,X,Y].flatMap vb)∧Grew ((wj.alloc (.cells #[.int .i64 (last+(d:Int)),.int .i32 (X:Int),.int .i32 (Y:Int)] 84)).alloc (.cells #[.int .i64 (d:Int),.int .i64 (X:Int),.int .i64 (Y:Int)] 3)) w' vj v')from put_tr [d,X,Y] (wj.heap.size+1) 3 w1.heap.size vj zz _ (by intro x hx;simp only[zw30,List.not_mem_nil,or_false]at hx;omega) (by simp) (Blk.new1 wj _ 3 (ints [d,X,Y])) (HOZ.out.ext hea) (zxt HEJ.out hea).size (off_new HOZ.out (.inl (by omega))) (by omega));have HOA:=zh (HOZ.out.ext hea);have HEA:=zh (zxt HEJ.out hea);have HFR:=zh hfar;have HPB2:=zh (HPB.out.alloc (.cells (ints [d,X,Y]) 3));clear hc hcell hd hke hmc2 hea hfar HPB;go_wp2_with fail;rw[show last+(d:Int)-last=(d:Int)by omega];refine(HPT.out).mono ?_;rintro e w3 ⟨v3,rfl,hO3,hG3⟩;have HE3:=zh (hG3.ext HEA.out HOA.out (zw8 _));have HPB3:=zh (hG3.blk HFR.out HPB2.out);have HO3:=zh hO3;clear hO3 hG3 HPT HOA HEA HFR HPB2;have pb:=fun i=>HPB3.out.cell i
       go_wp2_with fail
       go_roundg (gj-1)
       case measure=>omega
       case rel=>
        have q1:=vb_ten (n:=d) (by omega);have q2:=vb_ten (n:=X) (by omega);have q3:=vb_ten (n:=Y) (by omega);refine⟨q+1,last+d,last+d,_,by rw[hlp];omega,by go_num,rfl,hi0,hi1,by omega,HMC2.out,HO3.out,?_,HE3.out,?_⟩
        ·simp only[List.flatMap_cons,List.flatMap_nil,zw0,zw26];omega
        ·rw[HTZ2.out]
         simp only[List.flatMap_cons,List.flatMap_nil,zw7,zw18]
      ·obtain rfl:gj=0:=by omega
       obtain rfl:q=n2:=by omega
       have y2:¬(q:Int)<(q:Int):=by omega
       go_wp2_with fail
       go_roundg (gh-1)
       case measure=>omega
       case rel=>
        refine⟨3,zz,by omega,by go_num,HOZ.out,by omega,HEJ.out,?_⟩;rw[HTZ.out,zw21 (by rw[hlp];omega),encP,zw17];rfl
    ·have HMX:=zh HCAM.out.2.2.2
     have HNB:=zh (Blk.new wi 3 #[.int .i64 (n3:Int)]);have hea:=zxa (zxr wi) (.cells #[.int .i64 (n3:Int)] 3);have HEA:=zh (zxt HE.out hea);have hoa:=HO.out.ext hea;have HLP:p3.length=n3:=HB1.out.2.2.2.1.1.1;have hn64:n3≤64:=by have:=mayCam_len HMX.out;omega
     have HPT:=zh (show Calls Tryz.prog 48 #[vi,.slice (some ⟨wi.heap.size,0,none⟩) 1 1] (wi.alloc (.cells #[.int .i64 (n3:Int)] 3)) (fun e w'=>∃v',e= .returned v'∧OwnB w1.heap.size w' v' (zs++[n3].flatMap vb)∧Grew (wi.alloc (.cells #[.int .i64 (n3:Int)] 3)) w' vi v')from put_tr [n3] wi.heap.size 1 w1.heap.size vi zs _ (by intro x hx;simp only[zw52]at hx;omega) (by simp) HNB.out hoa HEA.out.size (off_new HO.out (.inl (zw8 _))) (by omega));have hix:=(idx4 (.slice A0 n0 c0) (.slice A1 n1 c1) (.slice A2 n2 c2) (.slice A3 n3 c3) wi).2.2.2;have HOA:=zh hoa;clear hea hoa;go_wp2_with fail;refine(HPT.out).mono ?_;rintro e w2 ⟨v2,rfl,hO2,hG2⟩;have HE2:=zh (hG2.ext HEA.out HOA.out (zw8 _));have HQ0:Hid (QRel w1 n p3 T (([]:List (List Pt)).flatMap encC++encM ms) (2000*3+20) n3 v2 (.int .i64 0) (.int .i64 ((0:Nat):Int)) w2):=zh<| by
      have hv:=vb_ten (n:=n3) (by omega);refine⟨0,0,-1,zs++vb n3,by rw[HLP];omega,rfl,rfl,by omega,by omega,by omega,mayCam_c HMX.out,by simpa using hO2,by rw[zw0];omega,HE2.out,?_⟩;rw[HTT.out];simp only[zw28,List.drop_succ_cons,List.flatMap_cons,List.flatMap_nil,encC,HLP,zw7,zw18,zw17]
     clear hO2 hG2 HPT HNB HEA HOA HO HTT hix HE2 HMX HLP;go_wp2_with fail
     go_loopg [6,9,31] n3 (fun gh bv lv iv wr=>QRel w1 n p3 T (([]:List (List Pt)).flatMap encC++encM ms) (2000*3+20) gh bv lv iv wr)
     case atStart=>exact HQ0.out
     case round=>
      obtain⟨q,last,lm,zz,hq,rfl,rfl,hl0,hl1,hl2,hmc,hOz,hzz,hE,hTz⟩:=hrel;obtain⟨wj,rfl⟩:∃wi:World,wi=wr:=⟨_,rfl⟩;obtain⟨vj,rfl⟩:∃vi:Value,vi=u6:=⟨_,rfl⟩;obtain⟨gj,rfl⟩:∃gh:Nat,gh=gk:=⟨_,rfl⟩;have hlp:p3.length=n3:=HB1.out.2.2.2.1.1.1;have hqn:q+gj=n3:=by rw[hq,hlp]
      have HOZ:=zh hOz;have HEJ:=zh hE;have HTZ:=zh hTz;have HMC:=zh hmc;clear hOz hE hTz hmc HQ0 hq;have y1:(0:Int)≤(q:Int):=by omega
      by_cases hlt:q<n3
      ·have hke:q<p3.length:=by rw[hlp];exact hlt
       obtain⟨b,o,hA,hbw,hc⟩:=HB1.out.2.2.2.1.1.2 (by show 0<n3;omega);simp only at hA;subst hA;have hcell:=fun j hj=>(HEJ.out.cell (p:=⟨b,o+q*3+j,none⟩) hbw).trans (hc q hke j hj);have hd:p3.drop q=p3[q]::p3.drop (q+1):=zw20 hke;generalize p3[q]=u at hcell hd;have hmc:=HMC.out;rw[hd,mayC,zw48,zw49]at hmc;obtain⟨tk,px,py⟩:=u;obtain⟨⟨o1,o2,o3,o4,o5,o6⟩,hmc2⟩:=hmc;simp only at o1 o2 o3 o4 o5 o6 hmc2;have a0:=hcell 0 (by omega);have a1:=hcell 1 (by omega);have a2:=hcell 2 (by omega);simp only[cP,Nat.add_zero,List.getElem?_cons_zero,List.getElem?_cons_succ]at a0 a1 a2;obtain⟨d,rfl⟩:∃d:Nat,tk=last+(d:Int):=⟨(tk-last).toNat,by omega⟩;obtain⟨X,rfl⟩:∃d:Nat,px=(d:Int):=⟨px.toNat,by omega⟩;obtain⟨Y,rfl⟩:∃d:Nat,py=(d:Int):=⟨py.toNat,by omega⟩;have HTZ2:Hid (T=(zz++(vb d++(vb X++vb Y)))++(encP (last+d) (p3.drop (q+1))++(([]:List (List Pt)).flatMap encC++encM ms))):=zh (by
        rw[HTZ.out,hd,encP];simp only[zw35,show(last+(d:Int)-last).toNat=d by omega,zw7])
       have HMC2:=zh hmc2;have hd5:d≤5000:=by omega
       have hX:X≤16384:=by omega
       have hY:Y≤16384:=by omega
       have y2:(q:Int)<(n3:Int):=by omega
       have hi1:last+(d:Int)≤4096:=by omega
       have hi0:0≤last+(d:Int):=by omega
       have HPB:=zh (Blk.new wj 84 #[.int .i64 (last+(d:Int)),.int .i32 (X:Int),.int .i32 (Y:Int)]);have hea:=zxa (zxa (zxr wj) (.cells #[.int .i64 (last+(d:Int)),.int .i32 (X:Int),.int .i32 (Y:Int)] 84)) (.cells (ints [d,X,Y]) 3);have hfar:=off_new HOZ.out (b:=wj.heap.size) (.inl (zw8 _));have HPT:=zh (show Calls Tryz.prog 48 #[vj,.slice (some ⟨wj.heap.size+1,0,none⟩) 3 3] ((wj.alloc (.cells #[.int .i64 (last+(d:Int)),.int .i32 (X:Int),.int .i32 (Y:Int)] 84)).alloc (.cells #[.int .i64 (d:Int),.int .i64 (X:Int),.int .i64 (Y:Int)] 3)) (fun e w'=>∃v',e= .returned v'∧OwnB w1.heap.size w' v' (zz++[d,X,Y].flatMap vb)∧Grew ((wj.alloc (.cells #[.int .i64 (last+(d:Int)),.int .i32 (X:Int),.int .i32 (Y:Int)] 84)).alloc (.cells #[.int .i64 (d:Int),.int .i64 (X:Int),.int .i64 (Y:Int)] 3)) w' vj v')from put_tr [d,X,Y] (wj.heap.size+1) 3 w1.heap.size vj zz _ (by intro x hx;simp only[zw30,List.not_mem_nil,or_false]at hx;omega) (by simp) (Blk.new1 wj _ 3 (ints [d,X,Y])) (HOZ.out.ext hea) (zxt HEJ.out hea).size (off_new HOZ.out (.inl (by omega))) (by omega));have HOA:=zh (HOZ.out.ext hea);have HEA:=zh (zxt HEJ.out hea);have HFR:=zh hfar;have HPB2:=zh (HPB.out.alloc (.cells (ints [d,X,Y]) 3));clear hc hcell hd hke hmc2 hea hfar HPB;go_wp2_with fail;rw[show last+(d:Int)-last=(d:Int)by omega];refine(HPT.out).mono ?_;rintro e w3 ⟨v3,rfl,hO3,hG3⟩;have HE3:=zh (hG3.ext HEA.out HOA.out (zw8 _));have HPB3:=zh (hG3.blk HFR.out HPB2.out);have HO3:=zh hO3;clear hO3 hG3 HPT HOA HEA HFR HPB2;have pb:=fun i=>HPB3.out.cell i
       go_wp2_with fail
       go_roundg (gj-1)
       case measure=>omega
       case rel=>
        have q1:=vb_ten (n:=d) (by omega);have q2:=vb_ten (n:=X) (by omega);have q3:=vb_ten (n:=Y) (by omega);refine⟨q+1,last+d,last+d,_,by rw[hlp];omega,by go_num,rfl,hi0,hi1,by omega,HMC2.out,HO3.out,?_,HE3.out,?_⟩
        ·simp only[List.flatMap_cons,List.flatMap_nil,zw0,zw26];omega
        ·rw[HTZ2.out]
         simp only[List.flatMap_cons,List.flatMap_nil,zw7,zw18]
      ·obtain rfl:gj=0:=by omega
       obtain rfl:q=n3:=by omega
       have y2:¬(q:Int)<(q:Int):=by omega
       go_wp2_with fail
       go_roundg (gh-1)
       case measure=>omega
       case rel=>
        refine⟨4,zz,by omega,by go_num,HOZ.out,by omega,HEJ.out,?_⟩;rw[HTZ.out,zw21 (by rw[hlp];omega),encP,zw17];rfl
   ·obtain rfl:gh=0:=by omega
    obtain rfl:k=4:=by omega
    have HTM:Hid (T=zs++encM ms):=zh (by rw[HTT.out];simp);have hlp:ms.length=nm:=HLEN.out;have HH2:=zh (HH1.out.ext HE.out);have hh:=fun i=>HH2.out.cell i;have hhw:w.heap.size<wi.heap.size:=HH2.out.lt;have hea:=zxa (zxr wi) (.cells #[.int .i64 (nm:Int)] 3);have HEA:=zh (zxt HE.out hea);have HOA:=zh (HO.out.ext hea);have HPT:=zh (show Calls Tryz.prog 48 #[vi,.slice (some ⟨wi.heap.size,0,none⟩) 1 1] (wi.alloc (.cells #[.int .i64 (nm:Int)] 3)) (fun e w'=>∃v',e= .returned v'∧OwnB w1.heap.size w' v' (zs++[nm].flatMap vb)∧Grew (wi.alloc (.cells #[.int .i64 (nm:Int)] 3)) w' vi v')from put_tr [nm] wi.heap.size 1 w1.heap.size vi zs _ (by intro x hx;simp only[zw52]at hx;omega) (by simp) (Blk.new wi 3 (ints [nm])) HOA.out HEA.out.size (off_new HO.out (.inl (zw8 _))) (by omega));clear hea HTT;go_wp2_with fail;refine(HPT.out).mono ?_;rintro e w2 ⟨v2,rfl,hO2,hG2⟩;have HE2:=zh (hG2.ext HEA.out HOA.out (zw8 _));have HQ0:Hid (NRelM w1 n ms T nm v2 (.int .i64 0) (.int .i64 ((0:Nat):Int)) w2):=zh<| by
     have hv:=vb_ten (n:=nm) (by omega);refine⟨0,0,zs++vb nm,by rw[hlp];omega,rfl,rfl,by omega,by omega,by rw[zw28];exact HMM.out,by simpa using hO2,by rw[zw0];omega,HE2.out,?_⟩;rw[HTM.out,encM,hlp,zw28,zw7]
    have HH3:=zh (HH1.out.ext HE2.out);clear hO2 hG2 HPT HEA HOA HO HTM HE2 hh hhw HH2;have hh:=fun i=>HH3.out.cell i;go_wp2_with fail
    go_loopg [6,12,63] nm (fun gh bv lv iv wr=>NRelM w1 n ms T gh bv lv iv wr)
    case atStart=>exact HQ0.out
    case round=>
     obtain⟨q,last,zz,hq,rfl,rfl,hl0,hl1,hmc,hOz,hzz,hE,hTz⟩:=hrel;obtain⟨wj,rfl⟩:∃wi:World,wi=wr:=⟨_,rfl⟩;obtain⟨vj,rfl⟩:∃vi:Value,vi=u6:=⟨_,rfl⟩;obtain⟨gj,rfl⟩:∃gh:Nat,gh=gk:=⟨_,rfl⟩;have hqn:q+gj=nm:=by rw[hq,hlp]
     have HOZ:=zh hOz;have HEJ:=zh hE;have HTZ:=zh hTz;have HMC:=zh hmc;clear hOz hE hTz hmc HQ0 hq hh HE;have y1:(0:Int)≤(q:Int):=by omega
     by_cases hlt:q<nm
     ·have hke:q<ms.length:=by rw[hlp];exact hlt
      obtain⟨b,o,hA,hbw,hc⟩:=HB1.out.2.2.2.2.1.2 (by show 0<nm;omega);simp only at hA;subst hA;have hcell:=fun j hj=>(HEJ.out.cell (p:=⟨b,o+q*2+j,none⟩) hbw).trans (hc q hke j hj);have hd:ms.drop q=ms[q]::ms.drop (q+1):=zw20 hke;generalize ms[q]=u at hcell hd;have hmc:=HMC.out;rw[hd,mayM,zw48,zw49,zw48,zw49]at hmc;obtain⟨tk,s⟩:=u;obtain⟨o1,⟨o2,o3,o4⟩,hmc2⟩:=hmc;simp only at o1 o2 o3 o4 hmc2;have a0:=hcell 0 (by omega);have a1:=hcell 1 (by omega);simp only[cM,Nat.add_zero,List.getElem?_cons_zero,List.getElem?_cons_succ]at a0 a1;obtain⟨d,rfl⟩:∃d:Nat,tk=last+(d:Int):=⟨(tk-last).toNat,by omega⟩;have HTZ2:Hid (T=(zz++vb d++(vb s.size++natsOf s))++encMs (last+d) (ms.drop (q+1))):=zh (by
       rw[HTZ.out,hd,encMs];simp only[show(last+(d:Int)-last).toNat=d by omega,zw7])
      have HMC2:=zh hmc2;have hd5:d≤5000:=by omega
      have y2:(q:Int)<(nm:Int):=by omega
      have hi1:last+(d:Int)≤4096:=by omega
      have hi0:0≤last+(d:Int):=by omega
      have HPB:=zh (Blk.new wj 52 #[.int .i64 (last+(d:Int)),.string s]);have hea:=zxa (zxa (zxr wj) (.cells #[.int .i64 (last+(d:Int)),.string s] 52)) (.cells (ints [d]) 3);have hfar:=off_new HOZ.out (b:=wj.heap.size) (.inl (zw8 _));have HPT:=zh (show Calls Tryz.prog 48 #[vj,.slice (some ⟨wj.heap.size+1,0,none⟩) 1 1] ((wj.alloc (.cells #[.int .i64 (last+(d:Int)),.string s] 52)).alloc (.cells #[.int .i64 (d:Int)] 3)) (fun e w'=>∃v',e= .returned v'∧OwnB w1.heap.size w' v' (zz++[d].flatMap vb)∧Grew ((wj.alloc (.cells #[.int .i64 (last+(d:Int)),.string s] 52)).alloc (.cells #[.int .i64 (d:Int)] 3)) w' vj v')from put_tr [d] (wj.heap.size+1) 1 w1.heap.size vj zz _ (by intro x hx;simp only[zw52]at hx;omega) (by simp) (Blk.new1 wj _ 3 (ints [d])) (HOZ.out.ext hea) (zxt HEJ.out hea).size (off_new HOZ.out (.inl (by omega))) (by omega));have HOA:=zh (HOZ.out.ext hea);have HEA:=zh (zxt HEJ.out hea);have HFR:=zh hfar;have HPB2:=zh (HPB.out.alloc (.cells (ints [d]) 3));clear hc hcell hd hke hmc2 hea hfar HPB;go_wp2_with fail;rw[show last+(d:Int)-last=(d:Int)by omega];refine(HPT.out).mono ?_;rintro e w3 ⟨v3,rfl,hO3,hG3⟩;have HE3:=zh (hG3.ext HEA.out HOA.out (zw8 _));have HPB3:=zh (hG3.blk HFR.out HPB2.out);have HF3:=zh (hG3.off HFR.out HPB2.out.lt);have hO3':OwnB w1.heap.size w3 v3 (zz++vb d):=by simpa using hO3
      have HO3:=zh hO3';clear hO3 hO3' hG3 HPT HOA HEA HFR HPB2;have pb:=fun i=>HPB3.out.cell i;have HPX:=zh (fun w'=>Log.put_text_nil s (by omega) w');go_wp2_with fail;refine(HPX.out w3).mono ?_;rintro e w4 ⟨v4,rfl,hsrc,hE4⟩;have HSRC:=zh hsrc;have HO4:=zh (HO3.out.ext hE4);have HE4:=zh (zxt HE3.out hE4);have HPB4:=zh (HPB3.out.ext hE4);have hls:=natsOf_len s;have HLZ:Hid ((zz++vb d).length+(vb s.size++natsOf s).length≤140737488355328):=zh (by
       have q1:=vb_ten (n:=d) (by omega);have q2:=vb_ten (n:=s.size) (by omega);simp only[zw0];omega)
      clear hsrc hE4 pb HO3 HE3 HPB3 hls;go_upto_region 23 with (at_builtin;refine wpList_b rfl (.tmp 74) (.tmp 77) 22 rfl v3 v4 (zz++vb d) (vb s.size++natsOf s) rfl rfl HO4.out HE4.out.size HSRC.out HLZ.out ?_;intro v5 w5 hO5 hG5;have HO5:=zh hO5;have HG5:=zh hG5;clear hO5 hG5)
      have HPB5:=zh (HG5.out.blk HF3.out HPB4.out);have HE5:=zh (HG5.out.ext HE4.out HO4.out (zw8 _));have pb:=fun i=>HPB5.out.cell i;go_wp2_with fail
      go_roundg (gj-1)
      case measure=>omega
      case rel=>
       have q1:=vb_ten (n:=d) (by omega);have q2:=vb_ten (n:=s.size) (by omega);have hls:=natsOf_len s;refine⟨q+1,last+d,_,by rw[hlp];omega,by go_num,rfl,hi0,hi1,HMC2.out,HO5.out,?_,HE5.out,HTZ2.out⟩;simp only[zw0];omega
     ·obtain rfl:gj=0:=by omega
      obtain rfl:q=nm:=by omega
      have HTF:Hid (encT ⟨p0,p1,p2,p3,ms⟩=zz):=zh (by
       rw[HTE.out,HTZ.out,zw21 (by rw[hlp];omega),encMs,zw18])
      have y2:¬(q:Int)<(q:Int):=by omega
      go_wp2_with fail
      go_ret2
      exact bt_ok HMAY.out (zxt HE1.out HEJ.out) HOZ.out HTF.out (by omega)
open Log (pN pI pF pB pT nx va RSt num_st int_st text_st err_st end_st of_st pN_put pI_put pT_put pN_ok pI_ok pT_ok gb_far gb_alloc gb_drew RIn)
def pPs:Nat→Nat→List Nat→Option (List Pt × List Nat)
 | 0,_,L=>some ([],L)
 | k+1,last,L=>match pI L with
  | none=>none
  | some (d,L1)=>match pI L1 with
   | none=>none
   | some (x,L2)=>match pI L2 with
    | none=>none
    | some (y,L3)=>match pPs k (last+d) L3 with
     | none=>none
     | some (ps,R)=>some (⟨((last+d:Nat):Int),(x:Int),(y:Int)⟩::ps,R)
def pCm (L:List Nat):Option (List Pt × List Nat):=match pN L with
 | none=>none
 | some (k,L1)=>pPs k 0 L1
def restP (ds:List Pt) (k last:Nat) (L:List Nat):Option (List Pt × List Nat):=(pPs k last L).map (fun q=>(ds++q.1,q.2))
theorem restP_zero (ds:List Pt) (last:Nat) (L:List Nat):restP ds 0 last L=some (ds,L):=by simp[restP,pPs]
theorem restP_step (ds:List Pt) (k last:Nat) (L:List Nat):(nx pI (nx pI (nx pI (some L)))=none→restP ds (k+1) last L=none)∧
  ∀L3,nx pI (nx pI (nx pI (some L)))=some L3→restP ds (k+1) last L=restP (ds++[⟨((last+va pI 0 (some L):Nat):Int),((va pI 0 (nx pI (some L)):Nat):Int),((va pI 0 (nx pI (nx pI (some L))):Nat):Int)⟩]) k (last+va pI 0 (some L)) L3:=by
 cases h1:pI L with
 | none=>simp[nx,h1,restP,pPs]
 | some p1=>
  obtain⟨d,L1⟩:=p1
  cases h2:pI L1 with
  | none=>simp[nx,h1,h2,restP,pPs]
  | some p2=>
   obtain⟨x,L2⟩:=p2
   cases h3:pI L2 with
   | none=>simp[nx,h1,h2,h3,restP,pPs]
   | some p3=>
    obtain⟨y,L3⟩:=p3;refine⟨fun h=>by simp[nx,h1,h2,h3]at h,fun L3' h=>?_⟩;have e:L3=L3':=by simpa [nx,h1,h2,h3]using h
    subst e;have e1:va pI 0 (some L)=d:=by simp[va,h1]
    have e2:va pI 0 (nx pI (some L))=x:=by simp[va,nx,h1,h2]
    have e3:va pI 0 (nx pI (nx pI (some L)))=y:=by simp[va,nx,h1,h2,h3]
    rw[e1,e2,e3];unfold restP;rw[pPs,h1];simp only[h2,h3]
    cases pPs k (last+d) L3 with
    | none=>rfl
    | some q=>obtain⟨ps,R⟩:=q;simp
theorem infoP:(Tryz.prog.info? 84).map (fun i=>(i.zero,i.size,i.bytes))=some (some (.agg #[.int .i64 0,.int .i32 0,.int .i32 0]),3,16):=by kernel_rfl
theorem infoM:(Tryz.prog.info? 52).map (fun i=>(i.zero,i.size,i.bytes))=some (some (.agg #[.int .i64 0,.string ⟨#[]⟩]),2,24):=by kernel_rfl
def CRel (w:World) (g:Nat) (A:Option Addr) (m c:Nat) (xs:List Nat) (O:Option (List Pt × List Nat)) (gh:Nat) (ov lv kv:Value) (wr:World):Prop:=
 ∃(ds:List Pt) (last:Nat) (st:Option (List Nat)),OwnR w.heap.size wr 84 3 cP ov ds∧lv= .int .i64 (last:Int)∧kv= .int .u64 (gh:Int)∧gh<18446744073709551616∧RSt wr g A m c xs st∧w.grownBy wr (some g)∧
  (st=none→O=none)∧(∀L,st=some L→O=restP ds gh last L∧ds.length+L.length≤m)∧ds.length≤m+1∧last≤ds.length*2147483647
theorem nxI_len {L L3:List Nat} (h:nx pI (nx pI (nx pI (some L)))=some L3):L3.length+3≤L.length:=by
 have hs:∀(M R:List Nat) v,pI M=some (v,R)→R.length+1≤M.length:=fun M R v hq=>by
  unfold pI at hq
  split at hq
  ·rename_i v' k hv
   cases hq
   cases hr:vr 0 0 M with
   | short=>rw[hr]at hv;cases hv
   | form=>rw[hr]at hv;cases hv
   | ok x y=>
    rw[hr]at hv;simp only[lim]at hv
    split at hv<;>cases hv
    have h2:∀(N:List Nat) (size acc v k:Nat),vr size acc N= .ok v k→size<k∧k≤size+N.length:=by
     intro N
     induction N with
     | nil=>intro size acc v k h;simp[vr]at h
     | cons c cs ih=>
      intro size acc v k h;rw[vr]at h
      split at h
      ·cases h
      ·split at h
       ·cases h;rw[zw3];omega
       ·have:=ih _ _ _ _ h
        rw[zw3];omega
    have:=h2 M 0 0 v k hr;rw[zw1];omega
  ·cases hq
 cases h1:pI L with
 | none=>simp[nx,h1]at h
 | some p1=>
  obtain⟨d,L1⟩:=p1
  cases h2:pI L1 with
  | none=>simp[nx,h1,h2]at h
  | some p2=>
   obtain⟨x,L2⟩:=p2
   cases h3:pI L2 with
   | none=>simp[nx,h1,h2,h3]at h
   | some p3=>
    obtain⟨y,L3'⟩:=p3;have e:L3'=L3:=by simpa [nx,h1,h2,h3]using h
    subst e;have:=hs _ _ _ h1;have:=hs _ _ _ h2;have:=hs _ _ _ h3;omega
theorem takeCam_st (g m c:Nat) (A:Option Addr) (xs:List Nat) (st:Option (List Nat)) (w:World) (h:RSt w g A m c xs st) (hm:m≤1000000) (hst:∀L,st=some L→L.length≤m):
  Calls Tryz.prog 105 #[.pointer (some ⟨g,0,none⟩)] w fun e w'=>∃(A':Option Addr) (n' c':Nat) (ds:List Pt),e= .returned (.slice A' n' c')∧OwnR w.heap.size w' 84 3 cP (.slice A' n' c') ds∧RSt w' g A m c xs (nx pCm st)∧w.grownBy w' (some g)∧∀ps R,st.bind pCm=some (ps,R)→ds=ps:=by
 obtain⟨O,hO⟩:∃O,O=st.bind pCm:=⟨_,rfl⟩;have hnx:nx pCm st=O.map (·.2):=by rw[hO];rfl
 rw[hnx,←hO];have hgw:g<w.heap.size:=h.lt;have HR0:=zh h.rin;have HN:=zh (num_st g m c A xs st w h);have HO0:Hid ((nx pN st=none→O=none)∧∀L,nx pN st=some L→O=restP [] (va pN 0 st) 0 L∧([]:List Pt).length+L.length≤m):=zh<| by
  rw[hO]
  cases st with
  | none=>simp[nx]
  | some M=>
   cases hq:pN M with
   | none=>simp[nx,hq,pCm]
   | some q=>
    obtain⟨k,L1⟩:=q;refine⟨fun h=>by simp[nx,hq]at h,fun L hL=>?_⟩;have e:L1=L:=by simpa [nx,hq]using hL
    subst e;have e2:va pN 0 (some M)=k:=by simp[va,hq]
    rw[e2];refine⟨?_,?_⟩
    ·simp only[Option.bind_some,pCm,hq,restP,zw17]
     cases pPs k 0 L1 with
     | none=>rfl
     | some q=>rfl
    ·have:=(pN_ok h.small hq).1
     have:=congrArg List.length this;rw[zw0]at this;have:=hst M rfl;simp only[zw26];omega
 have HGW:=zh hgw;clear h hst hnx hO hgw;go_enter Tryz.func105,Tryz.ntmps105;go_wp2_with fail;refine(HN.out).mono ?_;rintro e w1 ⟨rfl,hz,hS,hG⟩;have HREL:Hid (CRel w g A m c xs O (va pN 0 st) (.slice none 0 0) (.int .i64 0) (.int .u64 ((va pN 0 st:Nat):Int)) w1):=
  zh ⟨[],0,nx pN st,OwnR.nil _ _ _ _ _,rfl,rfl,hz,hS,hG,HO0.out.1,HO0.out.2,by simp,by simp⟩
 generalize va pN 0 st=left at*;clear hS hG hz HN HO0;go_wp2_with fail
 go_loopg [3,4,5] left (fun gh ov lv kv wr=>CRel w g A m c xs O gh ov lv kv wr)
 case atStart=>exact HREL.out
 case round=>
  obtain⟨ds,last,st1,hO,rfl,rfl,hgh,hS,hG,hn0,hs0,hdl,hll⟩:=hrel;obtain⟨wi,rfl⟩:∃wi:World,wi=wr:=⟨_,rfl⟩;obtain⟨vi,rfl⟩:∃vi:Value,vi=u3:=⟨_,rfl⟩;obtain⟨gh,rfl⟩:∃gh:Nat,gh=gk:=⟨_,rfl⟩;have HO:=zh hO;have HS:=zh hS;have HG:=zh hG;have HN0:=zh hn0;have HS0:=zh hs0;have HLL:=zh hll;clear hO hS hG hn0 hs0 HREL hll
  cases gh with
  | zero=>
   go_wp2_with fail;go_ret;obtain⟨A',c',hv,_⟩:=HO.out.shape;refine⟨A',ds.length,c',ds,congrArg Ending.returned hv,by rw[←hv];exact HO.out,?_,HG.out,?_⟩
   ·cases hst:st1 with
    | none=>rw[HN0.out hst];have:=HS.out;rwa [hst]at this
    | some L=>rw[(HS0.out L hst).1,restP_zero];have:=HS.out;rwa [hst]at this
   ·intro ps R hq
    cases hst:st1 with
    | none=>rw[HN0.out hst]at hq;cases hq
    | some L=>rw[(HS0.out L hst).1,restP_zero]at hq;cases hq;rfl
  | succ gh=>
   have HER:=zh (err_st g m c A xs st1 wi HS.out);have hghi:(0:Int)<((gh+1:Nat):Int):=by omega
   go_wp2_with fail;refine(HER.out).mono ?_;rintro e w2 ⟨x,rfl,hx,rfl⟩
   cases hst:st1 with
   | none=>
    have hx1:(x==0)=false:=zw12.2 (hx.2 hst);have HON:=zh (HN0.out hst);have HSN:=zh (hst▸HS.out);clear hx hst;go_wp2_with fail;go_ret;obtain⟨A',c',hv,_⟩:=HO.out.shape;refine⟨A',ds.length,c',ds,congrArg Ending.returned hv,by rw[←hv];exact HO.out,?_,HG.out,?_⟩
    ·rw[HON.out];exact HSN.out
    ·intro ps R hq;rw[HON.out]at hq;cases hq
   | some L=>
    have hx1:x=0:=by
     by_cases h0:x=0
     ·exact h0
     ·have:=hx.1 h0;rw[hst]at this;cases this
    subst hx1;obtain⟨hOL,hlm⟩:=HS0.out L hst;have HSL:=zh (hst▸HS.out);have HOL:=zh hOL;have HST:=zh (restP_step ds gh last L);have HLN:=zh (fun L3 h=>nxI_len (L:=L) (L3:=L3) h);clear hx hst hOL HS HS0 HN0 HER;have HA1:=zh (int_st g m c A xs (some L) wi HSL.out);have hl8:last≤2147483647000000:=by
     have:=HLL.out;have h2:ds.length*2147483647≤1000001*2147483647:=zw34 _ (by omega);omega
    go_wp2_with fail;refine(HA1.out).mono ?_;rintro e w3 ⟨rfl,hz1,hS1,hG1⟩;have HS1:=zh hS1;have HG1:=zh hG1;have HA2:=zh (int_st g m c A xs _ w3 hS1);obtain⟨z1,hv1⟩:∃z,z=va pI 0 (some L):=⟨_,rfl⟩;rw[←hv1]at hz1 HST ⊢;replace hv1:=zh hv1;clear hS1 hG1 HA1 HSL;go_wp2_with fail;refine(HA2.out).mono ?_;rintro e w4 ⟨rfl,hz2,hS2,hG2⟩;have HS2:=zh hS2;have HG2:=zh hG2;have HA3:=zh (int_st g m c A xs _ w4 hS2);obtain⟨z2,hv2⟩:∃z,z=va pI 0 (nx pI (some L)):=⟨_,rfl⟩;rw[←hv2]at hz2 HST ⊢;replace hv2:=zh hv2;clear hS2 hG2 HA2 HS1;go_wp2_with fail;refine(HA3.out).mono ?_;rintro e w5 ⟨rfl,hz3,hS3,hG3⟩;have HS3:=zh hS3;have HG3:=zh hG3;obtain⟨z3,hv3⟩:∃z,z=va pI 0 (nx pI (nx pI (some L))):=⟨_,rfl⟩;rw[←hv3]at hz3 HST ⊢;replace hv3:=zh hv3;have hgg:wi.grownBy w5 (some g):=gb_trans (gb_trans HG1.out HG2.out) HG3.out;have HO5:=zh (HO.out.grown hgg HGW.out);have HG5:=zh (gb_trans HG.out hgg);clear hS3 hG3 HA3 HS2 HG1 HG2 HG3 hgg HO HG hv1 hv2 hv3;have HEA:=zh (zxa (zxr w5) (.cells (cP ⟨((last+z1:Nat):Int),(z2:Int),(z3:Int)⟩).toArray 84));have HSRC:=zh (src_rec (P:=Tryz.prog) (e':=84) Tryz.underlying33 w5 (cP ⟨((last+z1:Nat):Int),(z2:Int),(z3:Int)⟩) rfl (by intro u hu;simp[cP]at hu;rcases hu with rfl | rfl | rfl<;>rfl) 1)
    have HO8:=zh (HO5.out.ext HEA.out);have HSZ8:Hid (w.heap.size≤(w5.alloc (.cells (cP ⟨((last+z1:Nat):Int),(z2:Int),(z3:Int)⟩).toArray 84)).heap.size):=zh (by rw[zw22];have:=HG5.out.size;omega);have HDL:Hid (ds.length≤100000000):=zh (by omega);have hcast:(last:Int)+(z1:Int)=((last+z1:Nat):Int):=by omega
    replace hcast:=zh hcast;rw[hcast.out];obtain⟨tk,htk⟩:∃q,q=last+z1:=⟨_,rfl⟩;rw[←htk]at HEA HSRC HO8 HSZ8 HST ⊢;replace htk:=zh htk;go_wp2_with (at_builtin;refine wpList_rec rfl (.tmp 27) (.tmp 35) 33 84 3 16 _ cP rfl Tryz.underlying33 infoP rfl (by decide) vi _ ds ⟨(tk:Int),(z2:Int),(z3:Int)⟩ rfl rfl HO8.out HSZ8.out HSRC.out HDL.out ?_;intro v9 w9 hown9 hgr9;have HO9:=zh hown9;have HG9:=zh hgr9;clear hown9 hgr9)
    go_roundg gh
    case measure=>omega
    case rel=>
     have hob:∀k,vi.ownBlock=some k→w.heap.size≤k:=fun k e=>(zw23 HO8.out k e).1;have hkeep:∀k,k<w.heap.size→w9.heap[k]? =(w5.alloc (.cells (cP ⟨(tk:Int),(z2:Int),(z3:Int)⟩).toArray 84)).heap[k]? :=fun k hk=>
      HG9.out.block k (zw9 hk HSZ8.out) (fun e=>by have:=hob k e.symm;omega)
     have hG8:=gb_trans HG5.out (gb_ext HEA.out (some g));have hS9:RSt w9 g A m c xs (nx pI (nx pI (nx pI (some L)))):=(HS3.out.ext HEA.out).keep HR0.out hkeep HG9.out.size;refine⟨ds++[⟨(tk:Int),(z2:Int),(z3:Int)⟩],tk,_,HO9.out,rfl,rfl,by omega,hS9,?_,?_,?_,?_,?_⟩
     ·exact⟨HG9.out.os.trans hG8.os,HG9.out.tape.trans hG8.tape,HG9.out.output.trans hG8.output,zw10 hG8.size HG9.out.size,fun k hk hne=>(hkeep k hk).trans (hG8.block k hk hne)⟩
     ·intro hn;rw[HOL.out,HST.out.1 hn]
     ·intro L3 hL3
      refine⟨by rw[HOL.out,HST.out.2 L3 hL3],?_⟩;have:=HLN.out L3 hL3;rw[zw0,zw27];omega
     ·rw[zw0,zw27];omega
     ·have:=htk.out
      have:=HLL.out;rw[zw0,zw27,Nat.add_mul];omega
end Go.Proofs.YtbopblbhjcemaaaGreatDoor.Trk
