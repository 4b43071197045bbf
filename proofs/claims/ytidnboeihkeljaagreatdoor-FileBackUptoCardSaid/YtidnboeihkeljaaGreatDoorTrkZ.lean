/- Tracks: the document's May, walked. -/
import Derived.Test.YtidnboeihkeljaaGreatDoorTrkS
import Derived.Deep.DeepCutAuto
set_option maxHeartbeats 16000000
set_option maxRecDepth 100000
set_option linter.all false
open Go.ChangeShapes Go.WideShapes Go.ChangeAt Go.RowKit
namespace Go.Proofs.YtidnboeihkeljaaGreatDoor.Trk
open Rec
open Log (hmxL)
theorem cams_drop (x:Tk) (p:Nat) (hp:p<4):x.cams.drop p=x.cam p::x.cams.drop (p+1):=by
 rcases lt5 (show p<5 by omega)with rfl | rfl | rfl | rfl | rfl<;>first | (exfalso;omega) | rfl
theorem rmay_tr (t:Tv) (x:Tk) (n:Int) (w:World) (hB:RfV w t x) (hn1: -9223372036854775808≤n) (hn2:n≤9223372036854775807):
  Calls Tryz.prog 22 #[.agg t.cells,.int .i64 n] w fun e w'=>e= .returned (.bool (mayT n x))∧Ext w w':=by
 generalize hR:mayT n x=R;replace hR:=zh hR;have HE0:=zh (zxa (zxr w) (.cells t.cells 31));have HH0:=zh (Blk.new w 31 t.cells);have HB:=zh (hB.ext HE0.out);have HSL:=zh (sl_get t);have HLM:=zh hB.2.2.2.2.1.1;have hcm:=hB.2.2.2.2.2.2.1;have hnc:=hB.2.2.2.2.2.1;clear hB;obtain⟨tc,htc⟩:∃q,q=t.cells:=⟨_,rfl⟩;rw[←htc]at HE0 HH0 HSL HB ⊢;clear htc;obtain⟨nm,hnm⟩:∃q,q=t.sm.n:=⟨_,rfl⟩;rw[←hnm]at HLM hnc;have HNM:=zh hnm;have hm9:nm≤9223372036854775807:=by omega
 clear hnm hnc hcm;go_enter Tryz.func22,Tryz.ntmps22;go_upto_region 1 with fail;obtain⟨w0,hw0⟩:∃q,q=w.alloc (.cells tc 31):=⟨_,rfl⟩;obtain⟨hb,hhb⟩:∃q,q=w.heap.size:=⟨_,rfl⟩;rw[←hw0]at HE0 HH0 HB ⊢;rw[←hhb]at HH0 ⊢;clear hw0 hhb;have HM4:Hid (∀W,Ext w0 W→W.cell? ⟨hb,4,none⟩=some (.slice t.sm.A nm t.sm.c)):=zh (fun W e=>kc e ((HH0.out.cell 4).trans (by rw[HSL.out 4 (by omega),HNM.out];rfl)));have h4:=HM4.out w0 (zxr _);by_cases hn:0≤n∧n≤4096
 rotate_left
 ·have HRF:Hid (R=false):=zh (by rw[←hR.out,mayT,zw14 hn,zw51])
  by_cases h0:n<0
  ·go_wp2_with fail
   go_ret;exact⟨by rw[HRF.out];rfl,HE0.out⟩
  ·have h0':(4096:Int)<n:=by omega
   go_wp2_with fail;go_ret;exact⟨by rw[HRF.out];rfl,HE0.out⟩
 by_cases hm:nm≤32
 rotate_left
 ·have HRF:Hid (R=false):=zh (by rw[←hR.out,mayT,HLM.out,zw14 hm,zw51,Bool.and_false])
  have hm':(32:Int)<(nm:Int):=by omega
  obtain⟨q1,q2⟩:=hn;go_wp2_with fail;go_ret;exact⟨by rw[HRF.out];rfl,HE0.out⟩
 have hm':(nm:Int)≤32:=by omega
 have HRR:Hid (R=((x.cams.drop 0).all (mayCam n) && mayM n 0 x.marks)):=zh (by
  rw[←hR.out,mayT,zw15 hn,HLM.out,zw15 hm];rfl)
 obtain⟨q1,q2⟩:=hn;go_wp2_with fail;clear h4
 go_loopg [5] 4 (fun gh iv wr=>∃(p:Nat),p+gh=4∧iv= .int .i64 (p:Int)∧Ext w0 wr∧R=((x.cams.drop p).all (mayCam n) && mayM n 0 x.marks))
 case atStart=>exact⟨0,rfl,rfl,zxr _,HRR.out⟩
 case round=>
  obtain⟨p,hp,rfl,hE,hRp⟩:=hrel;obtain⟨wi,rfl⟩:∃wi:World,wi=wr:=⟨_,rfl⟩;obtain⟨gh,rfl⟩:∃gh:Nat,gh=gk:=⟨_,rfl⟩;have HE:=zh hE;have HRP:=zh hRp;clear hE hRp HRR hR;have y1:(0:Int)≤(p:Int):=by omega
  by_cases hlt:p<4
  ·have y2:(p:Int)<4:=by omega
   have HPT:=zh (HB.out.cam p hlt);have hsp:=((HH0.out.ext HE.out).cell p).trans (HSL.out p (by omega));obtain⟨⟨Ad,nl,cd⟩,hsl⟩:∃q,q=t.sl p:=⟨_,rfl⟩;rw[←hsl]at HPT hsp;simp only at HPT hsp;clear hsl;have HLEN:=zh HPT.out.1.1;have hl9:nl≤9223372036854775807:=zw10 HPT.out.2.1 HPT.out.2.2.1;by_cases h64:nl≤64
   rotate_left
   ·have h64':(64:Int)<(nl:Int):=by omega
    have HRF:Hid (R=false):=zh (by
     rw[HRP.out,cams_drop x p hlt,List.all_cons,mayCam,HLEN.out,zw14 h64,Bool.and_false,zw51,zw51])
    go_wp2_with fail;go_ret;exact⟨by rw[HRF.out];rfl,zxt HE0.out HE.out⟩
   have h64':(nl:Int)≤64:=by omega
   have HRQ:Hid (R=(mayC n (-1) ((x.cam p).drop 0) && ((x.cams.drop (p+1)).all (mayCam n) && mayM n 0 x.marks))):=zh (by
    rw[HRP.out,cams_drop x p hlt,List.all_cons,mayCam,HLEN.out,zw15 h64,Bool.and_true,Bool.and_assoc,zw28])
   go_wp2_with fail;clear hsp
   go_loopg [7] nl (fun gi iv wr=>∃(k:Nat) (last:Int),k+gi=nl∧iv= .int .i64 (k:Int)∧Ext w0 wr∧ -1≤last∧(k=0→last= -1)∧(∀j,k=j+1→∀hj:j<(x.cam p).length,(x.cam p)[j].tick=last)∧R=(mayC n last ((x.cam p).drop k) && ((x.cams.drop (p+1)).all (mayCam n) && mayM n 0 x.marks)))
   case atStart=>exact⟨0,-1,by omega,rfl,HE.out,by omega,fun _=>rfl,fun j h=>by omega,HRQ.out⟩
   case round=>
    clear HE HRQ HRP;obtain⟨k,last,hk,rfl,hE,hlg,hl0,hlp,hRk⟩:=hrel;obtain⟨wk,rfl⟩:∃wi:World,wi=wr:=⟨_,rfl⟩;obtain⟨gi,rfl⟩:∃gh:Nat,gh=gk:=⟨_,rfl⟩;have HE:=zh hE;have HRK:=zh hRk;have HLG:=zh hlg;have HL0:=zh hl0;have HLP:=zh hlp;clear hE hRk hlg hl0 hlp;have y3:(0:Int)≤(k:Int):=by omega
    by_cases hki:k<nl
    ·have y4:(k:Int)<(nl:Int):=by omega
     have hke:k<(x.cam p).length:=by rw[HLEN.out];exact hki
     obtain⟨b,o,rfl,hbw,hc⟩:=HPT.out.1.2 (by omega);have HCE:Hid (∀j (hj:j<(x.cam p).length) i,i<3→wk.cell? ⟨b,o+j*3+i,none⟩=(cR (x.cam p)[j])[i]?):=zh (fun j hj i hi=>(HE.out.cell (p:=⟨b,o+j*3+i,none⟩) hbw).trans (hc j hj i hi));have q:=HCE.out k hke;have HDR:Hid ((x.cam p).drop k=(x.cam p)[k]::(x.cam p).drop (k+1)):=zh (zw20 hke);have HNX:Hid (∀j,k+1=j+1→∀hj:j<(x.cam p).length,(x.cam p)[j].tick=(x.cam p)[k].tick):=zh (fun j h hj=>by simp only[show j=k by omega]);obtain⟨u,hu⟩:∃q,q=(x.cam p)[k]:=⟨_,rfl⟩;rw[←hu]at q HDR HNX;clear hu;obtain⟨tk,px,py⟩:=u;have a0:=q 0 (by omega);have a1:=q 1 (by omega);have a2:=q 2 (by omega);simp only[cR,Nat.add_zero,List.getElem?_cons_zero,List.getElem?_cons_succ]at a0 a1 a2;simp only at HNX;obtain⟨bb,hbb⟩:∃b,b=decide (okP n last ⟨tk,px,py⟩):=⟨_,rfl⟩;have HT:Hid (okP n last ⟨tk,px,py⟩→bb=true):=zh (fun h=>by rw[hbb];exact zw15 h);have HF:Hid (¬okP n last ⟨tk,px,py⟩→bb=false):=zh (fun h=>by rw[hbb];exact zw14 h);have HRN:Hid (R=(bb && (mayC n tk ((x.cam p).drop (k+1)) && ((x.cams.drop (p+1)).all (mayCam n) && mayM n 0 x.marks)))):=zh (by
      rw[HRK.out,HDR.out,mayC,←hbb,Bool.and_assoc])
     have HTL:Hid (bb=true→ -1≤tk):=zh (fun h=>by rw[hbb]at h;have:=of_decide_eq_true h;unfold okP at this;simp only at this;have:=HLG.out;omega);have hl0':=HL0.out;have hlg':=HLG.out;obtain⟨b1,hb1⟩:∃c,decide (tk<0)=c:=⟨_,rfl⟩;obtain⟨b2,hb2⟩:∃c,decide (n<tk)=c:=⟨_,rfl⟩;obtain⟨c2,hc2⟩:∃c,(b1 || b2)=c:=⟨_,rfl⟩;obtain⟨b3,hb3⟩:∃c,decide (px<0)=c:=⟨_,rfl⟩;obtain⟨c3,hc3⟩:∃c,(c2 || b3)=c:=⟨_,rfl⟩;obtain⟨b4,hb4⟩:∃c,decide ((16384:Int)<px)=c:=⟨_,rfl⟩;obtain⟨c4,hc4⟩:∃c,(c3 || b4)=c:=⟨_,rfl⟩;obtain⟨b5,hb5⟩:∃c,decide (py<0)=c:=⟨_,rfl⟩;obtain⟨c5,hc5⟩:∃c,(c4 || b5)=c:=⟨_,rfl⟩;obtain⟨b6,hb6⟩:∃c,decide ((16384:Int)<py)=c:=⟨_,rfl⟩;obtain⟨c6,hc6⟩:∃c,(c5 || b6)=c:=⟨_,rfl⟩;obtain⟨bk,hbk⟩:∃c,decide ((0:Int)<(k:Int))=c:=⟨_,rfl⟩;obtain⟨b7,hb7⟩:∃c,decide (tk≤last)=c:=⟨_,rfl⟩;obtain⟨d7,hd7⟩:∃c,(bk && b7)=c:=⟨_,rfl⟩;have hbad:(c6 || d7)= !bb:=by
      rw[hbb,←hd7,←hc6,←hc5,←hc4,←hc3,←hc2,←hb1,←hb2,←hb3,←hb4,←hb5,←hb6,←hbk,←hb7,Bool.eq_iff_iff];simp only[Bool.or_eq_true,zw48,zw49,Bool.not_eq_true',decide_eq_false_iff_not];unfold okP;simp only;clear hb1 hb2 hb3 hb4 hb5 hb6 hb7 hbk hc2 hc3 hc4 hc5 hc6 hd7 hbb;omega
     clear hl0' hlg';have HCW:Hid (∀W,Ext w0 W→W.cell? ⟨b,o+k*3,none⟩=some (.int .i64 tk)∧W.cell? ⟨b,o+k*3+1,none⟩=some (.int .i64 px)∧W.cell? ⟨b,o+k*3+2,none⟩=some (.int .i64 py)):=zh (fun W e=>by
      have r:=fun i hi=>(e.cell (p:=⟨b,o+k*3+i,none⟩) hbw).trans ((HE.out.cell (p:=⟨b,o+k*3+i,none⟩) hbw).symm.trans (q i hi));have r0:=r 0 (by omega);have r1:=r 1 (by omega);have r2:=r 2 (by omega);simp only[cR,Nat.add_zero,List.getElem?_cons_zero,List.getElem?_cons_succ]at r0 r1 r2;exact⟨r0,r1,r2⟩)
     have HZW:Hid (∀W,Ext w0 W→0<k→W.cell? ⟨b,o+(k-1)*3,none⟩=some (.int .i64 last)):=zh (fun W e h=>by
      have hk1:k-1<(x.cam p).length:=by omega
      have r0:=(e.cell (p:=⟨b,o+(k-1)*3+0,none⟩) hbw).trans (hc (k-1) hk1 0 (by omega));simp only[cR,Nat.add_zero,List.getElem?_cons_zero,HLP.out (k-1) (by omega) hk1]at r0;exact r0)
     clear hc q hbb HRK HDR a0 a1 a2 HT HF HCE;go_upto_region 12 with fail
     go_cut [103] (fun c wx=>c= .bool (!bb)∧Ext w0 wx)
     case first=>
      have HX:=zh (zxd HE.out);refine zw38 (S:=fun W=>Ext w0 W) hmxL HX.out (fun _=>?_);generalize wk.drew=WA at*
      (refine zqK (i:=0) (v:=(Go.Value.slice (some ⟨b,o,none⟩) nl cd)) rfl ?_ HX.out ?_)
      ·refine Or.inl ⟨by rfl,?_⟩
       intro w' hSw;obtain⟨a0,a1,a2⟩:=HCW.out w' hSw;go_simp
       try rfl
      (try simp only[Act.put,zzA,zzB,zzC])
      (refine zqK (i:=1) (v:=(Go.Value.int .i64 (k:Int))) rfl ?_ HX.out ?_)
      ·refine Or.inl ⟨by rfl,?_⟩
       intro w' hSw;obtain⟨a0,a1,a2⟩:=HCW.out w' hSw;go_simp
       try rfl
      (try simp only[Act.put,zzA,zzB,zzC])
      (refine zqK (i:=2) (v:=(Go.Value.pointer (some ⟨b,o+k*3,none⟩))) rfl ?_ HX.out ?_)
      ·refine Or.inl ⟨by rfl,?_⟩
       intro w' hSw;obtain⟨a0,a1,a2⟩:=HCW.out w' hSw;go_simp
       try rfl
      (try simp only[Act.put,zzA,zzB,zzC])
      (refine zqK (i:=3) (v:=(Go.Value.pointer (some ⟨b,o+k*3,none⟩))) rfl ?_ HX.out ?_)
      ·refine Or.inl ⟨by rfl,?_⟩
       intro w' hSw;obtain⟨a0,a1,a2⟩:=HCW.out w' hSw;go_simp
       try rfl
      (try simp only[Act.put,zzA,zzB,zzC])
      (refine zqK (i:=4) (v:=(Go.Value.int .i64 tk)) rfl ?_ HX.out ?_)
      ·refine Or.inl ⟨by rfl,?_⟩
       intro w' hSw;obtain⟨a0,a1,a2⟩:=HCW.out w' hSw;go_simp
       try rfl
      (try simp only[Act.put,zzA,zzB,zzC])
      (refine zqK (i:=5) (v:=(Go.Value.bool b1)) rfl ?_ HX.out ?_)
      ·refine Or.inl ⟨by rfl,?_⟩
       subst hb1;intro w' hSw;obtain⟨a0,a1,a2⟩:=HCW.out w' hSw;go_simp
       try rfl
      (try simp only[Act.put,zzA,zzB,zzC])
      (refine zqK (i:=6) (v:=(Go.Value.bool b1)) rfl ?_ HX.out ?_)
      ·refine Or.inl ⟨by rfl,?_⟩
       intro w' hSw;obtain⟨a0,a1,a2⟩:=HCW.out w' hSw;go_simp
       try rfl
      (try simp only[Act.put,zzA,zzB,zzC])
      (refine zqK (i:=7) (v:=(bif b1 then Go.undef else(Go.Value.slice (some ⟨b,o,none⟩) nl cd))) rfl ?_ HX.out ?_)
      ·cases b1
       rotate_left
       ·exact Or.inr ⟨by rfl,by rfl⟩
       ·refine Or.inl ⟨by rfl,?_⟩
        intro w' hSw;obtain⟨a0,a1,a2⟩:=HCW.out w' hSw;go_simp
        try rfl
      (try simp only[Act.put,zzA,zzB,zzC])
      (refine zqK (i:=8) (v:=(bif b1 then Go.undef else(Go.Value.int .i64 (k:Int)))) rfl ?_ HX.out ?_)
      ·cases b1
       rotate_left
       ·exact Or.inr ⟨by rfl,by rfl⟩
       ·refine Or.inl ⟨by rfl,?_⟩
        intro w' hSw;obtain⟨a0,a1,a2⟩:=HCW.out w' hSw;go_simp
        try rfl
      (try simp only[Act.put,zzA,zzB,zzC])
      (refine zqK (i:=9) (v:=(bif b1 then Go.undef else(Go.Value.pointer (some ⟨b,o+k*3,none⟩)))) rfl ?_ HX.out ?_)
      ·cases b1
       rotate_left
       ·exact Or.inr ⟨by rfl,by rfl⟩
       ·refine Or.inl ⟨by rfl,?_⟩
        intro w' hSw;obtain⟨a0,a1,a2⟩:=HCW.out w' hSw;go_simp
        try rfl
      (try simp only[Act.put,zzA,zzB,zzC])
      (refine zqK (i:=10) (v:=(bif b1 then Go.undef else(Go.Value.pointer (some ⟨b,o+k*3,none⟩)))) rfl ?_ HX.out ?_)
      ·cases b1
       rotate_left
       ·exact Or.inr ⟨by rfl,by rfl⟩
       ·refine Or.inl ⟨by rfl,?_⟩
        intro w' hSw;obtain⟨a0,a1,a2⟩:=HCW.out w' hSw;go_simp
        try rfl
      (try simp only[Act.put,zzA,zzB,zzC])
      (refine zqK (i:=11) (v:=(bif b1 then Go.undef else(Go.Value.int .i64 tk))) rfl ?_ HX.out ?_)
      ·cases b1
       rotate_left
       ·exact Or.inr ⟨by rfl,by rfl⟩
       ·refine Or.inl ⟨by rfl,?_⟩
        intro w' hSw;obtain⟨a0,a1,a2⟩:=HCW.out w' hSw;go_simp
        try rfl
      (try simp only[Act.put,zzA,zzB,zzC])
      (refine zqK (i:=12) (v:=(bif b1 then Go.undef else(Go.Value.int .i64 n))) rfl ?_ HX.out ?_)
      ·cases b1
       rotate_left
       ·exact Or.inr ⟨by rfl,by rfl⟩
       ·refine Or.inl ⟨by rfl,?_⟩
        intro w' hSw;obtain⟨a0,a1,a2⟩:=HCW.out w' hSw;go_simp
        try rfl
      (try simp only[Act.put,zzA,zzB,zzC])
      (refine zqK (i:=13) (v:=(bif b1 then Go.undef else(Go.Value.bool b2))) rfl ?_ HX.out ?_)
      ·cases b1
       rotate_left
       ·exact Or.inr ⟨by rfl,by rfl⟩
       ·refine Or.inl ⟨by rfl,?_⟩
        subst hb2;intro w' hSw;obtain⟨a0,a1,a2⟩:=HCW.out w' hSw;go_simp
        try rfl
      (try simp only[Act.put,zzA,zzB,zzC])
      (refine zqK (i:=14) (v:=(Go.Value.bool c2)) rfl ?_ HX.out ?_)
      ·subst hc2
       cases b1<;>
        (refine Or.inl ⟨by rfl,?_⟩;intro w' hSw;go_simp;try rfl)
      (try simp only[Act.put,zzA,zzB,zzC])
      (refine zqK (i:=15) (v:=(Go.Value.bool c2)) rfl ?_ HX.out ?_)
      ·refine Or.inl ⟨by rfl,?_⟩
       intro w' hSw;obtain⟨a0,a1,a2⟩:=HCW.out w' hSw;go_simp
       try rfl
      (try simp only[Act.put,zzA,zzB,zzC])
      (refine zqK (i:=16) (v:=(bif c2 then Go.undef else(Go.Value.slice (some ⟨b,o,none⟩) nl cd))) rfl ?_ HX.out ?_)
      ·cases c2
       rotate_left
       ·exact Or.inr ⟨by rfl,by rfl⟩
       ·refine Or.inl ⟨by rfl,?_⟩
        intro w' hSw;obtain⟨a0,a1,a2⟩:=HCW.out w' hSw;go_simp
        try rfl
      (try simp only[Act.put,zzA,zzB,zzC])
      (refine zqK (i:=17) (v:=(bif c2 then Go.undef else(Go.Value.int .i64 (k:Int)))) rfl ?_ HX.out ?_)
      ·cases c2
       rotate_left
       ·exact Or.inr ⟨by rfl,by rfl⟩
       ·refine Or.inl ⟨by rfl,?_⟩
        intro w' hSw;obtain⟨a0,a1,a2⟩:=HCW.out w' hSw;go_simp
        try rfl
      (try simp only[Act.put,zzA,zzB,zzC])
      (refine zqK (i:=18) (v:=(bif c2 then Go.undef else(Go.Value.pointer (some ⟨b,o+k*3,none⟩)))) rfl ?_ HX.out ?_)
      ·cases c2
       rotate_left
       ·exact Or.inr ⟨by rfl,by rfl⟩
       ·refine Or.inl ⟨by rfl,?_⟩
        intro w' hSw;obtain⟨a0,a1,a2⟩:=HCW.out w' hSw;go_simp
        try rfl
      (try simp only[Act.put,zzA,zzB,zzC])
      (refine zqK (i:=19) (v:=(bif c2 then Go.undef else(Go.Value.pointer (some ⟨b,o+k*3+1,none⟩)))) rfl ?_ HX.out ?_)
      ·cases c2
       rotate_left
       ·exact Or.inr ⟨by rfl,by rfl⟩
       ·refine Or.inl ⟨by rfl,?_⟩
        intro w' hSw;obtain⟨a0,a1,a2⟩:=HCW.out w' hSw;go_simp
        try rfl
      (try simp only[Act.put,zzA,zzB,zzC])
      (refine zqK (i:=20) (v:=(bif c2 then Go.undef else(Go.Value.int .i64 px))) rfl ?_ HX.out ?_)
      ·cases c2
       rotate_left
       ·exact Or.inr ⟨by rfl,by rfl⟩
       ·refine Or.inl ⟨by rfl,?_⟩
        intro w' hSw;obtain⟨a0,a1,a2⟩:=HCW.out w' hSw;go_simp
        try rfl
      (try simp only[Act.put,zzA,zzB,zzC])
      (refine zqK (i:=21) (v:=(bif c2 then Go.undef else(Go.Value.bool b3))) rfl ?_ HX.out ?_)
      ·cases c2
       rotate_left
       ·exact Or.inr ⟨by rfl,by rfl⟩
       ·refine Or.inl ⟨by rfl,?_⟩
        subst hb3;intro w' hSw;obtain⟨a0,a1,a2⟩:=HCW.out w' hSw;go_simp
        try rfl
      (try simp only[Act.put,zzA,zzB,zzC])
      (refine zqK (i:=22) (v:=(Go.Value.bool c3)) rfl ?_ HX.out ?_)
      ·subst hc3
       cases c2<;>
        (refine Or.inl ⟨by rfl,?_⟩;intro w' hSw;go_simp;try rfl)
      (try simp only[Act.put,zzA,zzB,zzC])
      (refine zqK (i:=23) (v:=(Go.Value.bool c3)) rfl ?_ HX.out ?_)
      ·refine Or.inl ⟨by rfl,?_⟩
       intro w' hSw;obtain⟨a0,a1,a2⟩:=HCW.out w' hSw;go_simp
       try rfl
      (try simp only[Act.put,zzA,zzB,zzC])
      (refine zqK (i:=24) (v:=(bif c3 then Go.undef else(Go.Value.slice (some ⟨b,o,none⟩) nl cd))) rfl ?_ HX.out ?_)
      ·cases c3
       rotate_left
       ·exact Or.inr ⟨by rfl,by rfl⟩
       ·refine Or.inl ⟨by rfl,?_⟩
        intro w' hSw;obtain⟨a0,a1,a2⟩:=HCW.out w' hSw;go_simp
        try rfl
      (try simp only[Act.put,zzA,zzB,zzC])
      (refine zqK (i:=25) (v:=(bif c3 then Go.undef else(Go.Value.int .i64 (k:Int)))) rfl ?_ HX.out ?_)
      ·cases c3
       rotate_left
       ·exact Or.inr ⟨by rfl,by rfl⟩
       ·refine Or.inl ⟨by rfl,?_⟩
        intro w' hSw;obtain⟨a0,a1,a2⟩:=HCW.out w' hSw;go_simp
        try rfl
      (try simp only[Act.put,zzA,zzB,zzC])
      (refine zqK (i:=26) (v:=(bif c3 then Go.undef else(Go.Value.pointer (some ⟨b,o+k*3,none⟩)))) rfl ?_ HX.out ?_)
      ·cases c3
       rotate_left
       ·exact Or.inr ⟨by rfl,by rfl⟩
       ·refine Or.inl ⟨by rfl,?_⟩
        intro w' hSw;obtain⟨a0,a1,a2⟩:=HCW.out w' hSw;go_simp
        try rfl
      (try simp only[Act.put,zzA,zzB,zzC])
      (refine zqK (i:=27) (v:=(bif c3 then Go.undef else(Go.Value.pointer (some ⟨b,o+k*3+1,none⟩)))) rfl ?_ HX.out ?_)
      ·cases c3
       rotate_left
       ·exact Or.inr ⟨by rfl,by rfl⟩
       ·refine Or.inl ⟨by rfl,?_⟩
        intro w' hSw;obtain⟨a0,a1,a2⟩:=HCW.out w' hSw;go_simp
        try rfl
      (try simp only[Act.put,zzA,zzB,zzC])
      (refine zqK (i:=28) (v:=(bif c3 then Go.undef else(Go.Value.int .i64 px))) rfl ?_ HX.out ?_)
      ·cases c3
       rotate_left
       ·exact Or.inr ⟨by rfl,by rfl⟩
       ·refine Or.inl ⟨by rfl,?_⟩
        intro w' hSw;obtain⟨a0,a1,a2⟩:=HCW.out w' hSw;go_simp
        try rfl
      (try simp only[Act.put,zzA,zzB,zzC])
      (refine zqK (i:=29) (v:=(bif c3 then Go.undef else(Go.Value.bool b4))) rfl ?_ HX.out ?_)
      ·cases c3
       rotate_left
       ·exact Or.inr ⟨by rfl,by rfl⟩
       ·refine Or.inl ⟨by rfl,?_⟩
        subst hb4;intro w' hSw;obtain⟨a0,a1,a2⟩:=HCW.out w' hSw;go_simp
        try rfl
      (try simp only[Act.put,zzA,zzB,zzC])
      (refine zqK (i:=30) (v:=(Go.Value.bool c4)) rfl ?_ HX.out ?_)
      ·subst hc4
       cases c3<;>
        (refine Or.inl ⟨by rfl,?_⟩;intro w' hSw;go_simp;try rfl)
      (try simp only[Act.put,zzA,zzB,zzC])
      (refine zqK (i:=31) (v:=(Go.Value.bool c4)) rfl ?_ HX.out ?_)
      ·refine Or.inl ⟨by rfl,?_⟩
       intro w' hSw;obtain⟨a0,a1,a2⟩:=HCW.out w' hSw;go_simp
       try rfl
      (try simp only[Act.put,zzA,zzB,zzC])
      (refine zqK (i:=32) (v:=(bif c4 then Go.undef else(Go.Value.slice (some ⟨b,o,none⟩) nl cd))) rfl ?_ HX.out ?_)
      ·cases c4
       rotate_left
       ·exact Or.inr ⟨by rfl,by rfl⟩
       ·refine Or.inl ⟨by rfl,?_⟩
        intro w' hSw;obtain⟨a0,a1,a2⟩:=HCW.out w' hSw;go_simp
        try rfl
      (try simp only[Act.put,zzA,zzB,zzC])
      (refine zqK (i:=33) (v:=(bif c4 then Go.undef else(Go.Value.int .i64 (k:Int)))) rfl ?_ HX.out ?_)
      ·cases c4
       rotate_left
       ·exact Or.inr ⟨by rfl,by rfl⟩
       ·refine Or.inl ⟨by rfl,?_⟩
        intro w' hSw;obtain⟨a0,a1,a2⟩:=HCW.out w' hSw;go_simp
        try rfl
      (try simp only[Act.put,zzA,zzB,zzC])
      (refine zqK (i:=34) (v:=(bif c4 then Go.undef else(Go.Value.pointer (some ⟨b,o+k*3,none⟩)))) rfl ?_ HX.out ?_)
      ·cases c4
       rotate_left
       ·exact Or.inr ⟨by rfl,by rfl⟩
       ·refine Or.inl ⟨by rfl,?_⟩
        intro w' hSw;obtain⟨a0,a1,a2⟩:=HCW.out w' hSw;go_simp
        try rfl
      (try simp only[Act.put,zzA,zzB,zzC])
      (refine zqK (i:=35) (v:=(bif c4 then Go.undef else(Go.Value.pointer (some ⟨b,o+k*3+2,none⟩)))) rfl ?_ HX.out ?_)
      ·cases c4
       rotate_left
       ·exact Or.inr ⟨by rfl,by rfl⟩
       ·refine Or.inl ⟨by rfl,?_⟩
        intro w' hSw;obtain⟨a0,a1,a2⟩:=HCW.out w' hSw;go_simp
        try rfl
      (try simp only[Act.put,zzA,zzB,zzC])
      (refine zqK (i:=36) (v:=(bif c4 then Go.undef else(Go.Value.int .i64 py))) rfl ?_ HX.out ?_)
      ·cases c4
       rotate_left
       ·exact Or.inr ⟨by rfl,by rfl⟩
       ·refine Or.inl ⟨by rfl,?_⟩
        intro w' hSw;obtain⟨a0,a1,a2⟩:=HCW.out w' hSw;go_simp
        try rfl
      (try simp only[Act.put,zzA,zzB,zzC])
      (refine zqK (i:=37) (v:=(bif c4 then Go.undef else(Go.Value.bool b5))) rfl ?_ HX.out ?_)
      ·cases c4
       rotate_left
       ·exact Or.inr ⟨by rfl,by rfl⟩
       ·refine Or.inl ⟨by rfl,?_⟩
        subst hb5;intro w' hSw;obtain⟨a0,a1,a2⟩:=HCW.out w' hSw;go_simp
        try rfl
      (try simp only[Act.put,zzA,zzB,zzC])
      (refine zqK (i:=38) (v:=(Go.Value.bool c5)) rfl ?_ HX.out ?_)
      ·subst hc5
       cases c4<;>
        (refine Or.inl ⟨by rfl,?_⟩;intro w' hSw;go_simp;try rfl)
      (try simp only[Act.put,zzA,zzB,zzC])
      (refine zqK (i:=39) (v:=(Go.Value.bool c5)) rfl ?_ HX.out ?_)
      ·refine Or.inl ⟨by rfl,?_⟩
       intro w' hSw;obtain⟨a0,a1,a2⟩:=HCW.out w' hSw;go_simp
       try rfl
      (try simp only[Act.put,zzA,zzB,zzC])
      (refine zqK (i:=40) (v:=(bif c5 then Go.undef else(Go.Value.slice (some ⟨b,o,none⟩) nl cd))) rfl ?_ HX.out ?_)
      ·cases c5
       rotate_left
       ·exact Or.inr ⟨by rfl,by rfl⟩
       ·refine Or.inl ⟨by rfl,?_⟩
        intro w' hSw;obtain⟨a0,a1,a2⟩:=HCW.out w' hSw;go_simp
        try rfl
      (try simp only[Act.put,zzA,zzB,zzC])
      (refine zqK (i:=41) (v:=(bif c5 then Go.undef else(Go.Value.int .i64 (k:Int)))) rfl ?_ HX.out ?_)
      ·cases c5
       rotate_left
       ·exact Or.inr ⟨by rfl,by rfl⟩
       ·refine Or.inl ⟨by rfl,?_⟩
        intro w' hSw;obtain⟨a0,a1,a2⟩:=HCW.out w' hSw;go_simp
        try rfl
      (try simp only[Act.put,zzA,zzB,zzC])
      (refine zqK (i:=42) (v:=(bif c5 then Go.undef else(Go.Value.pointer (some ⟨b,o+k*3,none⟩)))) rfl ?_ HX.out ?_)
      ·cases c5
       rotate_left
       ·exact Or.inr ⟨by rfl,by rfl⟩
       ·refine Or.inl ⟨by rfl,?_⟩
        intro w' hSw;obtain⟨a0,a1,a2⟩:=HCW.out w' hSw;go_simp
        try rfl
      (try simp only[Act.put,zzA,zzB,zzC])
      (refine zqK (i:=43) (v:=(bif c5 then Go.undef else(Go.Value.pointer (some ⟨b,o+k*3+2,none⟩)))) rfl ?_ HX.out ?_)
      ·cases c5
       rotate_left
       ·exact Or.inr ⟨by rfl,by rfl⟩
       ·refine Or.inl ⟨by rfl,?_⟩
        intro w' hSw;obtain⟨a0,a1,a2⟩:=HCW.out w' hSw;go_simp
        try rfl
      (try simp only[Act.put,zzA,zzB,zzC])
      (refine zqK (i:=44) (v:=(bif c5 then Go.undef else(Go.Value.int .i64 py))) rfl ?_ HX.out ?_)
      ·cases c5
       rotate_left
       ·exact Or.inr ⟨by rfl,by rfl⟩
       ·refine Or.inl ⟨by rfl,?_⟩
        intro w' hSw;obtain⟨a0,a1,a2⟩:=HCW.out w' hSw;go_simp
        try rfl
      (try simp only[Act.put,zzA,zzB,zzC])
      (refine zqK (i:=45) (v:=(bif c5 then Go.undef else(Go.Value.bool b6))) rfl ?_ HX.out ?_)
      ·cases c5
       rotate_left
       ·exact Or.inr ⟨by rfl,by rfl⟩
       ·refine Or.inl ⟨by rfl,?_⟩
        subst hb6;intro w' hSw;obtain⟨a0,a1,a2⟩:=HCW.out w' hSw;go_simp
        try rfl
      (try simp only[Act.put,zzA,zzB,zzC])
      (refine zqK (i:=46) (v:=(Go.Value.bool c6)) rfl ?_ HX.out ?_)
      ·subst hc6
       cases c5<;>
        (refine Or.inl ⟨by rfl,?_⟩;intro w' hSw;go_simp;try rfl)
      (try simp only[Act.put,zzA,zzB,zzC])
      (refine zqK (i:=47) (v:=(Go.Value.bool c6)) rfl ?_ HX.out ?_)
      ·refine Or.inl ⟨by rfl,?_⟩
       intro w' hSw;obtain⟨a0,a1,a2⟩:=HCW.out w' hSw;go_simp
       try rfl
      (try simp only[Act.put,zzA,zzB,zzC])
      (refine zqK (i:=48) (v:=(bif c6 then Go.undef else(Go.Value.int .i64 (k:Int)))) rfl ?_ HX.out ?_)
      ·cases c6
       rotate_left
       ·exact Or.inr ⟨by rfl,by rfl⟩
       ·refine Or.inl ⟨by rfl,?_⟩
        intro w' hSw;obtain⟨a0,a1,a2⟩:=HCW.out w' hSw;go_simp
        try rfl
      (try simp only[Act.put,zzA,zzB,zzC])
      (refine zqK (i:=49) (v:=(bif c6 then Go.undef else(Go.Value.bool bk))) rfl ?_ HX.out ?_)
      ·cases c6
       rotate_left
       ·exact Or.inr ⟨by rfl,by rfl⟩
       ·refine Or.inl ⟨by rfl,?_⟩
        subst hbk;intro w' hSw;obtain⟨a0,a1,a2⟩:=HCW.out w' hSw;go_simp
        try rfl
      (try simp only[Act.put,zzA,zzB,zzC])
      (refine zqK (i:=50) (v:=(bif c6 then Go.undef else(Go.Value.bool bk))) rfl ?_ HX.out ?_)
      ·cases c6
       rotate_left
       ·exact Or.inr ⟨by rfl,by rfl⟩
       ·refine Or.inl ⟨by rfl,?_⟩
        intro w' hSw;obtain⟨a0,a1,a2⟩:=HCW.out w' hSw;go_simp
        try rfl
      (try simp only[Act.put,zzA,zzB,zzC])
      (refine zqK (i:=51) (v:=(bif c6 then Go.undef else(bif bk then(Go.Value.slice (some ⟨b,o,none⟩) nl cd)else Go.undef))) rfl ?_ HX.out ?_)
      ·cases c6
       rotate_left
       ·exact Or.inr ⟨by rfl,by rfl⟩
       ·cases bk
        ·exact Or.inr ⟨by rfl,by rfl⟩
        ·refine Or.inl ⟨by rfl,?_⟩
         intro w' hSw;obtain⟨a0,a1,a2⟩:=HCW.out w' hSw;go_simp
         try rfl
      (try simp only[Act.put,zzA,zzB,zzC])
      (refine zqK (i:=52) (v:=(bif c6 then Go.undef else(bif bk then(Go.Value.int .i64 (k:Int))else Go.undef))) rfl ?_ HX.out ?_)
      ·cases c6
       rotate_left
       ·exact Or.inr ⟨by rfl,by rfl⟩
       ·cases bk
        ·exact Or.inr ⟨by rfl,by rfl⟩
        ·refine Or.inl ⟨by rfl,?_⟩
         intro w' hSw;obtain⟨a0,a1,a2⟩:=HCW.out w' hSw;go_simp
         try rfl
      (try simp only[Act.put,zzA,zzB,zzC])
      (refine zqK (i:=53) (v:=(bif c6 then Go.undef else(bif bk then(Go.Value.int .i64 ((k:Int)-1))else Go.undef))) rfl ?_ HX.out ?_)
      ·cases c6
       rotate_left
       ·exact Or.inr ⟨by rfl,by rfl⟩
       ·cases bk
        ·exact Or.inr ⟨by rfl,by rfl⟩
        ·refine Or.inl ⟨by rfl,?_⟩
         have gk:(0:Int)<(k:Int):=of_decide_eq_true hbk;have v1:(1:Int)≤(k:Int):=by omega
         have v2:(0:Int)≤(k:Int)-1:=by omega
         have v3:(k:Int)-1<(nl:Int):=by omega
         have v5:((k:Int)-1).toNat=k-1:=by omega
         have v4:IntKind.i64.wrap ((k:Int)-1)=(k:Int)-1:=IntWalk.i64_in _ (by omega);intro w' hSw;obtain⟨a0,a1,a2⟩:=HCW.out w' hSw;go_simp
         try rfl
      (try simp only[Act.put,zzA,zzB,zzC])
      (refine zqK (i:=54) (v:=(bif c6 then Go.undef else(bif bk then(Go.Value.pointer (some ⟨b,o+(k-1)*3,none⟩))else Go.undef))) rfl ?_ HX.out ?_)
      ·cases c6
       rotate_left
       ·exact Or.inr ⟨by rfl,by rfl⟩
       ·cases bk
        ·exact Or.inr ⟨by rfl,by rfl⟩
        ·refine Or.inl ⟨by rfl,?_⟩
         have gk:(0:Int)<(k:Int):=of_decide_eq_true hbk;have v1:(1:Int)≤(k:Int):=by omega
         have v2:(0:Int)≤(k:Int)-1:=by omega
         have v3:(k:Int)-1<(nl:Int):=by omega
         have v5:((k:Int)-1).toNat=k-1:=by omega
         have v4:IntKind.i64.wrap ((k:Int)-1)=(k:Int)-1:=IntWalk.i64_in _ (by omega);intro w' hSw;obtain⟨a0,a1,a2⟩:=HCW.out w' hSw;go_simp
         try rfl
      (try simp only[Act.put,zzA,zzB,zzC])
      (refine zqK (i:=55) (v:=(bif c6 then Go.undef else(bif bk then(Go.Value.pointer (some ⟨b,o+(k-1)*3,none⟩))else Go.undef))) rfl ?_ HX.out ?_)
      ·cases c6
       rotate_left
       ·exact Or.inr ⟨by rfl,by rfl⟩
       ·cases bk
        ·exact Or.inr ⟨by rfl,by rfl⟩
        ·refine Or.inl ⟨by rfl,?_⟩
         have gk:(0:Int)<(k:Int):=of_decide_eq_true hbk;have v1:(1:Int)≤(k:Int):=by omega
         have v2:(0:Int)≤(k:Int)-1:=by omega
         have v3:(k:Int)-1<(nl:Int):=by omega
         have v5:((k:Int)-1).toNat=k-1:=by omega
         have v4:IntKind.i64.wrap ((k:Int)-1)=(k:Int)-1:=IntWalk.i64_in _ (by omega);intro w' hSw;obtain⟨a0,a1,a2⟩:=HCW.out w' hSw;go_simp
         try rfl
      (try simp only[Act.put,zzA,zzB,zzC])
      (refine zqK (i:=56) (v:=(bif c6 then Go.undef else(bif bk then(Go.Value.int .i64 last)else Go.undef))) rfl ?_ HX.out ?_)
      ·cases c6
       rotate_left
       ·exact Or.inr ⟨by rfl,by rfl⟩
       ·cases bk
        ·exact Or.inr ⟨by rfl,by rfl⟩
        ·refine Or.inl ⟨by rfl,?_⟩
         have gk:(0:Int)<(k:Int):=of_decide_eq_true hbk;have v1:(1:Int)≤(k:Int):=by omega
         have v2:(0:Int)≤(k:Int)-1:=by omega
         have v3:(k:Int)-1<(nl:Int):=by omega
         have v5:((k:Int)-1).toNat=k-1:=by omega
         have v4:IntKind.i64.wrap ((k:Int)-1)=(k:Int)-1:=IntWalk.i64_in _ (by omega);have HZ:=fun W (e:Ext w0 W)=>HZW.out W e (by omega);intro w' hSw;obtain⟨a0,a1,a2⟩:=HCW.out w' hSw;have z0:=HZ w' hSw;go_simp
         try rfl
      (try simp only[Act.put,zzA,zzB,zzC])
      (refine zqK (i:=57) (v:=(bif c6 then Go.undef else(bif bk then(Go.Value.slice (some ⟨b,o,none⟩) nl cd)else Go.undef))) rfl ?_ HX.out ?_)
      ·cases c6
       rotate_left
       ·exact Or.inr ⟨by rfl,by rfl⟩
       ·cases bk
        ·exact Or.inr ⟨by rfl,by rfl⟩
        ·refine Or.inl ⟨by rfl,?_⟩
         intro w' hSw;obtain⟨a0,a1,a2⟩:=HCW.out w' hSw;go_simp
         try rfl
      (try simp only[Act.put,zzA,zzB,zzC])
      (refine zqK (i:=58) (v:=(bif c6 then Go.undef else(bif bk then(Go.Value.int .i64 (k:Int))else Go.undef))) rfl ?_ HX.out ?_)
      ·cases c6
       rotate_left
       ·exact Or.inr ⟨by rfl,by rfl⟩
       ·cases bk
        ·exact Or.inr ⟨by rfl,by rfl⟩
        ·refine Or.inl ⟨by rfl,?_⟩
         intro w' hSw;obtain⟨a0,a1,a2⟩:=HCW.out w' hSw;go_simp
         try rfl
      (try simp only[Act.put,zzA,zzB,zzC])
      (refine zqK (i:=59) (v:=(bif c6 then Go.undef else(bif bk then(Go.Value.pointer (some ⟨b,o+k*3,none⟩))else Go.undef))) rfl ?_ HX.out ?_)
      ·cases c6
       rotate_left
       ·exact Or.inr ⟨by rfl,by rfl⟩
       ·cases bk
        ·exact Or.inr ⟨by rfl,by rfl⟩
        ·refine Or.inl ⟨by rfl,?_⟩
         intro w' hSw;obtain⟨a0,a1,a2⟩:=HCW.out w' hSw;go_simp
         try rfl
      (try simp only[Act.put,zzA,zzB,zzC])
      (refine zqK (i:=60) (v:=(bif c6 then Go.undef else(bif bk then(Go.Value.pointer (some ⟨b,o+k*3,none⟩))else Go.undef))) rfl ?_ HX.out ?_)
      ·cases c6
       rotate_left
       ·exact Or.inr ⟨by rfl,by rfl⟩
       ·cases bk
        ·exact Or.inr ⟨by rfl,by rfl⟩
        ·refine Or.inl ⟨by rfl,?_⟩
         intro w' hSw;obtain⟨a0,a1,a2⟩:=HCW.out w' hSw;go_simp
         try rfl
      (try simp only[Act.put,zzA,zzB,zzC])
      (refine zqK (i:=61) (v:=(bif c6 then Go.undef else(bif bk then(Go.Value.int .i64 tk)else Go.undef))) rfl ?_ HX.out ?_)
      ·cases c6
       rotate_left
       ·exact Or.inr ⟨by rfl,by rfl⟩
       ·cases bk
        ·exact Or.inr ⟨by rfl,by rfl⟩
        ·refine Or.inl ⟨by rfl,?_⟩
         intro w' hSw;obtain⟨a0,a1,a2⟩:=HCW.out w' hSw;go_simp
         try rfl
      (try simp only[Act.put,zzA,zzB,zzC])
      (refine zqK (i:=62) (v:=(bif c6 then Go.undef else(bif bk then(Go.Value.bool b7)else Go.undef))) rfl ?_ HX.out ?_)
      ·cases c6
       rotate_left
       ·exact Or.inr ⟨by rfl,by rfl⟩
       ·cases bk
        ·exact Or.inr ⟨by rfl,by rfl⟩
        ·refine Or.inl ⟨by rfl,?_⟩
         subst hb7;intro w' hSw;obtain⟨a0,a1,a2⟩:=HCW.out w' hSw;go_simp
         try rfl
      (try simp only[Act.put,zzA,zzB,zzC])
      (refine zqK (i:=63) (v:=(bif c6 then Go.undef else(Go.Value.bool d7))) rfl ?_ HX.out ?_)
      ·cases c6
       rotate_left
       ·exact Or.inr ⟨by rfl,by rfl⟩
       ·subst hd7
        cases bk<;>
         (refine Or.inl ⟨by rfl,?_⟩;intro w' hSw;go_simp;try rfl)
      (try simp only[Act.put,zzA,zzB,zzC])
      (refine zqK (i:=64) (v:=(Go.Value.bool (!bb))) rfl ?_ HX.out ?_)
      ·cases c6<;>cases d7<;>cases bb<;>first | (exfalso;revert hbad;decide) | (refine Or.inl ⟨by rfl,?_⟩;intro w' hSw;go_simp;try rfl)
      (try simp only[Act.put,zzA,zzB,zzC])
      refine zw39 (by kernel_rfl) ?_ _;go_wp2_with fail;go_meet;exact⟨rfl,HX.out⟩
     case rest=>
      obtain⟨rfl,hE2⟩:=hcut;obtain⟨wf,rfl⟩:∃wf:World,wf=wc:=⟨_,rfl⟩;have HE2:=zh hE2;clear hE2 hbad hd7 hb7 hbk hc6 hb6 hc5 hb5 hc4 hb4 hc3 hb3 hc2 hb2 hb1
      cases bb with
      | true=>
       have HRT:=zh (HRN.out.trans (zw50 _));go_wp2_with fail
       go_roundg (gi-1)
       case measure=>omega
       case rel=>exact⟨k+1,tk,by omega,by go_num,HE2.out,HTL.out trivial,fun h=>by omega,HNX.out,HRT.out⟩
      | false=>
       have HRF:=zh (HRN.out.trans (zw51 _));go_wp2_with fail;go_ret;exact⟨by rw[HRF.out];rfl,zxt HE0.out HE2.out⟩
    ·obtain rfl:gi=0:=by omega
     obtain rfl:k=nl:=by omega
     have y4:¬(k:Int)<(k:Int):=by omega
     have HRN:Hid (R=((x.cams.drop (p+1)).all (mayCam n) && mayM n 0 x.marks)):=zh (by
      rw[HRK.out,zw21 (by rw[HLEN.out];omega),mayC,zw50])
     go_wp2_with fail
     go_roundg (gh-1)
     case measure=>omega
     case rel=>exact⟨p+1,by omega,by go_num,HE.out,HRN.out⟩
  ·obtain rfl:gh=0:=by omega
   obtain rfl:p=4:=by omega
   have HRM:Hid (R=mayM n 0 (x.marks.drop 0)):=zh (by rw[HRP.out];simp[Tk.cams]);have h4:=HM4.out wi HE.out;go_wp2_with fail;clear h4
   go_loopg [8] nm (fun gi iv wr=>∃(k:Nat) (last:Int),k+gi=nm∧iv= .int .i64 (k:Int)∧Ext w0 wr∧0≤last∧(k=0→last=0)∧(∀j,k=j+1→∀hj:j<x.marks.length,x.marks[j].tick=last)∧R=mayM n last (x.marks.drop k))
   case atStart=>exact⟨0,0,by omega,rfl,HE.out,by omega,fun _=>rfl,fun j h=>by omega,HRM.out⟩
   case round=>
    clear HE HRM HRP;obtain⟨k,last,hk,rfl,hE,hlg,hl0,hlp,hRk⟩:=hrel;obtain⟨wk,rfl⟩:∃wi:World,wi=wr:=⟨_,rfl⟩;obtain⟨gi,rfl⟩:∃gh:Nat,gh=gk:=⟨_,rfl⟩;have HE1:=zh hE;have HRK:=zh hRk;have HLG:=zh hlg;have HL0:=zh hl0;have HLP:=zh hlp;clear hE hRk hlg hl0 hlp;have y3:(0:Int)≤(k:Int):=by omega
    have h4:=HM4.out wk HE1.out;by_cases hki:k<nm
    ·have y4:(k:Int)<(nm:Int):=by omega
     have hke:k<x.marks.length:=by rw[HLM.out];exact hki
     have hmk:=HB.out.2.2.2.2.1;rw[←HNM.out]at hmk;obtain⟨b,o,hA,hbw,hc⟩:=hmk.2 (by omega);rw[hA]at h4;have q:=fun i hi=>(HE1.out.cell (p:=⟨b,o+k*2+i,none⟩) hbw).trans (hc k hke i hi);have HDR:Hid (x.marks.drop k=x.marks[k]::x.marks.drop (k+1)):=zh (zw20 hke);have HNX:Hid (∀j,k+1=j+1→∀hj:j<x.marks.length,x.marks[j].tick=x.marks[k].tick):=zh (fun j h hj=>by simp only[show j=k by omega]);have hsz:=HB.out.2.2.2.2.2.2.2.2 _ (zw25 hke);obtain⟨u,hu⟩:∃q,q=x.marks[k]:=⟨_,rfl⟩;rw[←hu]at q HDR HNX hsz;clear hu;obtain⟨tk,s⟩:=u;have a0:=q 0 (by omega);have a1:=q 1 (by omega);simp only[cM,Nat.add_zero,List.getElem?_cons_zero,List.getElem?_cons_succ]at a0 a1 hsz;simp only at HNX;obtain⟨bb,hbb⟩:∃b,b=(decide (last≤tk) && decide (okM n ⟨tk,s⟩)):=⟨_,rfl⟩;have HT:Hid (last≤tk∧okM n ⟨tk,s⟩→bb=true):=zh (fun h=>by rw[hbb,zw15 h.1,zw15 h.2];rfl);have HF:Hid (¬(last≤tk∧okM n ⟨tk,s⟩)→bb=false):=zh (fun h=>by
      rw[hbb];by_cases h1:last≤tk
      ·rw[zw14 (fun h2=>h ⟨h1,h2⟩),Bool.and_false]
      ·rw[zw14 h1,zw51])
     have HRN:Hid (R=(bb && mayM n tk (x.marks.drop (k+1)))):=zh (by
      rw[HRK.out,HDR.out,mayM,hbb,Bool.and_assoc])
     have HTL:Hid (bb=true→0≤tk):=zh (fun h=>by rw[hbb,zw48]at h;have:=of_decide_eq_true h.2;exact this.1);have hl0':=HL0.out;have hlg':=HLG.out;obtain⟨b1,hb1⟩:∃c,decide (tk<0)=c:=⟨_,rfl⟩;obtain⟨b2,hb2⟩:∃c,decide (n<tk)=c:=⟨_,rfl⟩;obtain⟨c2,hc2⟩:∃c,(b1 || b2)=c:=⟨_,rfl⟩;obtain⟨b3,hb3⟩:∃c,decide ((40:Int)<(s.size:Int))=c:=⟨_,rfl⟩;obtain⟨c3,hc3⟩:∃c,(c2 || b3)=c:=⟨_,rfl⟩;obtain⟨bk,hbk⟩:∃c,decide ((0:Int)<(k:Int))=c:=⟨_,rfl⟩;obtain⟨b7,hb7⟩:∃c,decide (tk<last)=c:=⟨_,rfl⟩;obtain⟨d7,hd7⟩:∃c,(bk && b7)=c:=⟨_,rfl⟩;have hbad:(c3 || d7)= !bb:=by
      rw[hbb,←hd7,←hc3,←hc2,←hb1,←hb2,←hb3,←hbk,←hb7,Bool.eq_iff_iff];simp only[Bool.or_eq_true,zw48,zw49,Bool.not_eq_true',Bool.and_eq_false_iff,decide_eq_false_iff_not];unfold okM;simp only;clear hb1 hb2 hb3 hb7 hbk hc2 hc3 hd7 hbb;omega
     clear hl0' hlg';have HXE:=zh (zxa (zxr wk) (.cells #[.int .i64 tk,.string s] 116));have HXB:=zh (Blk.new wk 116 #[.int .i64 tk,.string s]);replace hb1:=zh hb1;replace hb2:=zh hb2;replace hb3:=zh hb3;replace hb7:=zh hb7;replace hbk:=zh hbk;replace hc2:=zh hc2;replace hc3:=zh hc3;replace hd7:=zh hd7;replace hbad:=zh hbad;clear q;go_upto_region 18 with fail;clear h4 a0 a1;obtain⟨wx,hwx⟩:∃q,q=wk.alloc (.cells #[.int .i64 tk,.string s] 116):=⟨_,rfl⟩;rw[←hwx]at HXE HXB ⊢;clear hwx;obtain⟨xb,hxb⟩:∃q,q=wk.heap.size:=⟨_,rfl⟩;rw[←hxb]at HXB ⊢;clear hxb;have HE:=zh (zxt HE1.out HXE.out);have HCW:Hid (∀W,(Ext w0 W∧Blk W xb 116 #[.int .i64 tk,.string s])→W.cell? ⟨xb,0,none⟩=some (.int .i64 tk)∧W.cell? ⟨xb,1,none⟩=some (.string s)∧W.cell? ⟨hb,4,none⟩=some (.slice (some ⟨b,o,none⟩) nm t.sm.c)):=zh (fun W e=>by
      have x0:=e.2.cell 0;have x1:=e.2.cell 1;simp only[zzD,zzE,zzF]at x0 x1;exact⟨x0,x1,(HM4.out W e.1).trans (by rw[hA])⟩)
     have HZW:Hid (∀W,Ext w0 W→0<k→W.cell? ⟨b,o+(k-1)*2,none⟩=some (.int .i64 last)):=zh (fun W e h=>by
      have hk1:k-1<x.marks.length:=by omega
      have r0:=(e.cell (p:=⟨b,o+(k-1)*2+0,none⟩) hbw).trans (hc (k-1) hk1 0 (by omega));simp only[cM,Nat.add_zero,List.getElem?_cons_zero,HLP.out (k-1) (by omega) hk1]at r0;exact r0)
     clear hc hbb HRK HDR hmk hA HXE HT HF
     go_cut [146] (fun c wx=>c= .bool (!bb)∧Ext w0 wx)
     case first=>
      replace hb1:=hb1.out;replace hb2:=hb2.out;replace hb3:=hb3.out;replace hb7:=hb7.out;replace hbk:=hbk.out;replace hc2:=hc2.out;replace hc3:=hc3.out;replace hd7:=hd7.out;replace hbad:=hbad.out;have HX:Hid (Ext w0 wx.drew∧Blk wx.drew xb 116 #[.int .i64 tk,.string s]):=zh ⟨zxd HE.out,Blk.drew HXB.out⟩;refine zw38 (S:=fun W=>Ext w0 W∧Blk W xb 116 #[.int .i64 tk,.string s]) hmxL HX.out (fun _=>?_);generalize wx.drew=WA at*
      (refine zqK (i:=0) (v:=(Go.Value.pointer (some ⟨xb,0,none⟩))) rfl ?_ HX.out ?_)
      ·refine Or.inl ⟨by rfl,?_⟩
       intro w' hSw;obtain⟨x0,x1,h4⟩:=HCW.out w' hSw;go_simp
       try rfl
      (try simp only[Act.put,zzA,zzB,zzC])
      (refine zqK (i:=1) (v:=(Go.Value.int .i64 tk)) rfl ?_ HX.out ?_)
      ·refine Or.inl ⟨by rfl,?_⟩
       intro w' hSw;obtain⟨x0,x1,h4⟩:=HCW.out w' hSw;go_simp
       try rfl
      (try simp only[Act.put,zzA,zzB,zzC])
      (refine zqK (i:=2) (v:=(Go.Value.bool b1)) rfl ?_ HX.out ?_)
      ·refine Or.inl ⟨by rfl,?_⟩
       subst hb1;intro w' hSw;obtain⟨x0,x1,h4⟩:=HCW.out w' hSw;go_simp
       try rfl
      (try simp only[Act.put,zzA,zzB,zzC])
      (refine zqK (i:=3) (v:=(Go.Value.bool b1)) rfl ?_ HX.out ?_)
      ·refine Or.inl ⟨by rfl,?_⟩
       intro w' hSw;obtain⟨x0,x1,h4⟩:=HCW.out w' hSw;go_simp
       try rfl
      (try simp only[Act.put,zzA,zzB,zzC])
      (refine zqK (i:=4) (v:=(bif b1 then Go.undef else(Go.Value.pointer (some ⟨xb,0,none⟩)))) rfl ?_ HX.out ?_)
      ·cases b1
       rotate_left
       ·exact Or.inr ⟨by rfl,by rfl⟩
       ·refine Or.inl ⟨by rfl,?_⟩
        intro w' hSw;obtain⟨x0,x1,h4⟩:=HCW.out w' hSw;go_simp
        try rfl
      (try simp only[Act.put,zzA,zzB,zzC])
      (refine zqK (i:=5) (v:=(bif b1 then Go.undef else(Go.Value.int .i64 tk))) rfl ?_ HX.out ?_)
      ·cases b1
       rotate_left
       ·exact Or.inr ⟨by rfl,by rfl⟩
       ·refine Or.inl ⟨by rfl,?_⟩
        intro w' hSw;obtain⟨x0,x1,h4⟩:=HCW.out w' hSw;go_simp
        try rfl
      (try simp only[Act.put,zzA,zzB,zzC])
      (refine zqK (i:=6) (v:=(bif b1 then Go.undef else(Go.Value.int .i64 n))) rfl ?_ HX.out ?_)
      ·cases b1
       rotate_left
       ·exact Or.inr ⟨by rfl,by rfl⟩
       ·refine Or.inl ⟨by rfl,?_⟩
        intro w' hSw;obtain⟨x0,x1,h4⟩:=HCW.out w' hSw;go_simp
        try rfl
      (try simp only[Act.put,zzA,zzB,zzC])
      (refine zqK (i:=7) (v:=(bif b1 then Go.undef else(Go.Value.bool b2))) rfl ?_ HX.out ?_)
      ·cases b1
       rotate_left
       ·exact Or.inr ⟨by rfl,by rfl⟩
       ·refine Or.inl ⟨by rfl,?_⟩
        subst hb2;intro w' hSw;obtain⟨x0,x1,h4⟩:=HCW.out w' hSw;go_simp
        try rfl
      (try simp only[Act.put,zzA,zzB,zzC])
      (refine zqK (i:=8) (v:=(Go.Value.bool c2)) rfl ?_ HX.out ?_)
      ·subst hc2
       cases b1<;>
        (refine Or.inl ⟨by rfl,?_⟩;intro w' hSw;go_simp;try rfl)
      (try simp only[Act.put,zzA,zzB,zzC])
      (refine zqK (i:=9) (v:=(Go.Value.bool c2)) rfl ?_ HX.out ?_)
      ·refine Or.inl ⟨by rfl,?_⟩
       intro w' hSw;obtain⟨x0,x1,h4⟩:=HCW.out w' hSw;go_simp
       try rfl
      (try simp only[Act.put,zzA,zzB,zzC])
      (refine zqK (i:=10) (v:=(bif c2 then Go.undef else(Go.Value.pointer (some ⟨xb,1,none⟩)))) rfl ?_ HX.out ?_)
      ·cases c2
       rotate_left
       ·exact Or.inr ⟨by rfl,by rfl⟩
       ·refine Or.inl ⟨by rfl,?_⟩
        intro w' hSw;obtain⟨x0,x1,h4⟩:=HCW.out w' hSw;go_simp
        try rfl
      (try simp only[Act.put,zzA,zzB,zzC])
      (refine zqK (i:=11) (v:=(bif c2 then Go.undef else(Go.Value.string s))) rfl ?_ HX.out ?_)
      ·cases c2
       rotate_left
       ·exact Or.inr ⟨by rfl,by rfl⟩
       ·refine Or.inl ⟨by rfl,?_⟩
        intro w' hSw;obtain⟨x0,x1,h4⟩:=HCW.out w' hSw;go_simp
        try rfl
      (try simp only[Act.put,zzA,zzB,zzC])
      (refine zqK (i:=12) (v:=(bif c2 then Go.undef else(Go.Value.int .i64 (s.size:Int)))) rfl ?_ HX.out ?_)
      ·cases c2
       rotate_left
       ·exact Or.inr ⟨by rfl,by rfl⟩
       ·refine Or.inl ⟨by rfl,?_⟩
        intro w' hSw;obtain⟨x0,x1,h4⟩:=HCW.out w' hSw;go_simp
        try rfl
      (try simp only[Act.put,zzA,zzB,zzC])
      (refine zqK (i:=13) (v:=(bif c2 then Go.undef else(Go.Value.bool b3))) rfl ?_ HX.out ?_)
      ·cases c2
       rotate_left
       ·exact Or.inr ⟨by rfl,by rfl⟩
       ·refine Or.inl ⟨by rfl,?_⟩
        subst hb3;intro w' hSw;obtain⟨x0,x1,h4⟩:=HCW.out w' hSw;go_simp
        try rfl
      (try simp only[Act.put,zzA,zzB,zzC])
      (refine zqK (i:=14) (v:=(Go.Value.bool c3)) rfl ?_ HX.out ?_)
      ·subst hc3
       cases c2<;>
        (refine Or.inl ⟨by rfl,?_⟩;intro w' hSw;go_simp;try rfl)
      (try simp only[Act.put,zzA,zzB,zzC])
      (refine zqK (i:=15) (v:=(Go.Value.bool c3)) rfl ?_ HX.out ?_)
      ·refine Or.inl ⟨by rfl,?_⟩
       intro w' hSw;obtain⟨x0,x1,h4⟩:=HCW.out w' hSw;go_simp
       try rfl
      (try simp only[Act.put,zzA,zzB,zzC])
      (refine zqK (i:=16) (v:=(bif c3 then Go.undef else(Go.Value.int .i64 (k:Int)))) rfl ?_ HX.out ?_)
      ·cases c3
       rotate_left
       ·exact Or.inr ⟨by rfl,by rfl⟩
       ·refine Or.inl ⟨by rfl,?_⟩
        intro w' hSw;obtain⟨x0,x1,h4⟩:=HCW.out w' hSw;go_simp
        try rfl
      (try simp only[Act.put,zzA,zzB,zzC])
      (refine zqK (i:=17) (v:=(bif c3 then Go.undef else(Go.Value.bool bk))) rfl ?_ HX.out ?_)
      ·cases c3
       rotate_left
       ·exact Or.inr ⟨by rfl,by rfl⟩
       ·refine Or.inl ⟨by rfl,?_⟩
        subst hbk;intro w' hSw;obtain⟨x0,x1,h4⟩:=HCW.out w' hSw;go_simp
        try rfl
      (try simp only[Act.put,zzA,zzB,zzC])
      (refine zqK (i:=18) (v:=(bif c3 then Go.undef else(Go.Value.bool bk))) rfl ?_ HX.out ?_)
      ·cases c3
       rotate_left
       ·exact Or.inr ⟨by rfl,by rfl⟩
       ·refine Or.inl ⟨by rfl,?_⟩
        intro w' hSw;obtain⟨x0,x1,h4⟩:=HCW.out w' hSw;go_simp
        try rfl
      (try simp only[Act.put,zzA,zzB,zzC])
      (refine zqK (i:=19) (v:=(bif c3 then Go.undef else(bif bk then(Go.Value.pointer (some ⟨hb,4,none⟩))else Go.undef))) rfl ?_ HX.out ?_)
      ·cases c3
       rotate_left
       ·exact Or.inr ⟨by rfl,by rfl⟩
       ·cases bk
        ·exact Or.inr ⟨by rfl,by rfl⟩
        ·refine Or.inl ⟨by rfl,?_⟩
         intro w' hSw;obtain⟨x0,x1,h4⟩:=HCW.out w' hSw;go_simp
         try rfl
      (try simp only[Act.put,zzA,zzB,zzC])
      (refine zqK (i:=20) (v:=(bif c3 then Go.undef else(bif bk then(Go.Value.slice (some ⟨b,o,none⟩) nm t.sm.c)else Go.undef))) rfl ?_ HX.out ?_)
      ·cases c3
       rotate_left
       ·exact Or.inr ⟨by rfl,by rfl⟩
       ·cases bk
        ·exact Or.inr ⟨by rfl,by rfl⟩
        ·refine Or.inl ⟨by rfl,?_⟩
         intro w' hSw;obtain⟨x0,x1,h4⟩:=HCW.out w' hSw;go_simp
         try rfl
      (try simp only[Act.put,zzA,zzB,zzC])
      (refine zqK (i:=21) (v:=(bif c3 then Go.undef else(bif bk then(Go.Value.int .i64 (k:Int))else Go.undef))) rfl ?_ HX.out ?_)
      ·cases c3
       rotate_left
       ·exact Or.inr ⟨by rfl,by rfl⟩
       ·cases bk
        ·exact Or.inr ⟨by rfl,by rfl⟩
        ·refine Or.inl ⟨by rfl,?_⟩
         intro w' hSw;obtain⟨x0,x1,h4⟩:=HCW.out w' hSw;go_simp
         try rfl
      (try simp only[Act.put,zzA,zzB,zzC])
      (refine zqK (i:=22) (v:=(bif c3 then Go.undef else(bif bk then(Go.Value.int .i64 ((k:Int)-1))else Go.undef))) rfl ?_ HX.out ?_)
      ·cases c3
       rotate_left
       ·exact Or.inr ⟨by rfl,by rfl⟩
       ·cases bk
        ·exact Or.inr ⟨by rfl,by rfl⟩
        ·refine Or.inl ⟨by rfl,?_⟩
         have gk:(0:Int)<(k:Int):=of_decide_eq_true hbk;have v1:(1:Int)≤(k:Int):=by omega
         have v2:(0:Int)≤(k:Int)-1:=by omega
         have v3:(k:Int)-1<(nm:Int):=by omega
         have v5:((k:Int)-1).toNat=k-1:=by omega
         have v4:IntKind.i64.wrap ((k:Int)-1)=(k:Int)-1:=IntWalk.i64_in _ (by omega);intro w' hSw;obtain⟨x0,x1,h4⟩:=HCW.out w' hSw;go_simp
         try rfl
      (try simp only[Act.put,zzA,zzB,zzC])
      (refine zqK (i:=23) (v:=(bif c3 then Go.undef else(bif bk then(Go.Value.pointer (some ⟨b,o+(k-1)*2,none⟩))else Go.undef))) rfl ?_ HX.out ?_)
      ·cases c3
       rotate_left
       ·exact Or.inr ⟨by rfl,by rfl⟩
       ·cases bk
        ·exact Or.inr ⟨by rfl,by rfl⟩
        ·refine Or.inl ⟨by rfl,?_⟩
         have gk:(0:Int)<(k:Int):=of_decide_eq_true hbk;have v1:(1:Int)≤(k:Int):=by omega
         have v2:(0:Int)≤(k:Int)-1:=by omega
         have v3:(k:Int)-1<(nm:Int):=by omega
         have v5:((k:Int)-1).toNat=k-1:=by omega
         have v4:IntKind.i64.wrap ((k:Int)-1)=(k:Int)-1:=IntWalk.i64_in _ (by omega);intro w' hSw;obtain⟨x0,x1,h4⟩:=HCW.out w' hSw;go_simp
         try rfl
      (try simp only[Act.put,zzA,zzB,zzC])
      (refine zqK (i:=24) (v:=(bif c3 then Go.undef else(bif bk then(Go.Value.pointer (some ⟨b,o+(k-1)*2,none⟩))else Go.undef))) rfl ?_ HX.out ?_)
      ·cases c3
       rotate_left
       ·exact Or.inr ⟨by rfl,by rfl⟩
       ·cases bk
        ·exact Or.inr ⟨by rfl,by rfl⟩
        ·refine Or.inl ⟨by rfl,?_⟩
         have gk:(0:Int)<(k:Int):=of_decide_eq_true hbk;have v1:(1:Int)≤(k:Int):=by omega
         have v2:(0:Int)≤(k:Int)-1:=by omega
         have v3:(k:Int)-1<(nm:Int):=by omega
         have v5:((k:Int)-1).toNat=k-1:=by omega
         have v4:IntKind.i64.wrap ((k:Int)-1)=(k:Int)-1:=IntWalk.i64_in _ (by omega);intro w' hSw;obtain⟨x0,x1,h4⟩:=HCW.out w' hSw;go_simp
         try rfl
      (try simp only[Act.put,zzA,zzB,zzC])
      (refine zqK (i:=25) (v:=(bif c3 then Go.undef else(bif bk then(Go.Value.int .i64 last)else Go.undef))) rfl ?_ HX.out ?_)
      ·cases c3
       rotate_left
       ·exact Or.inr ⟨by rfl,by rfl⟩
       ·cases bk
        ·exact Or.inr ⟨by rfl,by rfl⟩
        ·refine Or.inl ⟨by rfl,?_⟩
         have gk:(0:Int)<(k:Int):=of_decide_eq_true hbk;have v1:(1:Int)≤(k:Int):=by omega
         have v2:(0:Int)≤(k:Int)-1:=by omega
         have v3:(k:Int)-1<(nm:Int):=by omega
         have v5:((k:Int)-1).toNat=k-1:=by omega
         have v4:IntKind.i64.wrap ((k:Int)-1)=(k:Int)-1:=IntWalk.i64_in _ (by omega);have HZ:=fun W (e:Ext w0 W)=>HZW.out W e (by omega);intro w' hSw;obtain⟨x0,x1,h4⟩:=HCW.out w' hSw;have z0:=HZ w' hSw.1;go_simp
         try rfl
      (try simp only[Act.put,zzA,zzB,zzC])
      (refine zqK (i:=26) (v:=(bif c3 then Go.undef else(bif bk then(Go.Value.pointer (some ⟨xb,0,none⟩))else Go.undef))) rfl ?_ HX.out ?_)
      ·cases c3
       rotate_left
       ·exact Or.inr ⟨by rfl,by rfl⟩
       ·cases bk
        ·exact Or.inr ⟨by rfl,by rfl⟩
        ·refine Or.inl ⟨by rfl,?_⟩
         intro w' hSw;obtain⟨x0,x1,h4⟩:=HCW.out w' hSw;go_simp
         try rfl
      (try simp only[Act.put,zzA,zzB,zzC])
      (refine zqK (i:=27) (v:=(bif c3 then Go.undef else(bif bk then(Go.Value.int .i64 tk)else Go.undef))) rfl ?_ HX.out ?_)
      ·cases c3
       rotate_left
       ·exact Or.inr ⟨by rfl,by rfl⟩
       ·cases bk
        ·exact Or.inr ⟨by rfl,by rfl⟩
        ·refine Or.inl ⟨by rfl,?_⟩
         intro w' hSw;obtain⟨x0,x1,h4⟩:=HCW.out w' hSw;go_simp
         try rfl
      (try simp only[Act.put,zzA,zzB,zzC])
      (refine zqK (i:=28) (v:=(bif c3 then Go.undef else(bif bk then(Go.Value.bool b7)else Go.undef))) rfl ?_ HX.out ?_)
      ·cases c3
       rotate_left
       ·exact Or.inr ⟨by rfl,by rfl⟩
       ·cases bk
        ·exact Or.inr ⟨by rfl,by rfl⟩
        ·refine Or.inl ⟨by rfl,?_⟩
         subst hb7;intro w' hSw;obtain⟨x0,x1,h4⟩:=HCW.out w' hSw;go_simp
         try rfl
      (try simp only[Act.put,zzA,zzB,zzC])
      (refine zqK (i:=29) (v:=(bif c3 then Go.undef else(Go.Value.bool d7))) rfl ?_ HX.out ?_)
      ·cases c3
       rotate_left
       ·exact Or.inr ⟨by rfl,by rfl⟩
       ·subst hd7
        cases bk<;>
         (refine Or.inl ⟨by rfl,?_⟩;intro w' hSw;go_simp;try rfl)
      (try simp only[Act.put,zzA,zzB,zzC])
      (refine zqK (i:=30) (v:=(Go.Value.bool (!bb))) rfl ?_ HX.out ?_)
      ·cases c3<;>cases d7<;>cases bb<;>first | (exfalso;revert hbad;decide) | (refine Or.inl ⟨by rfl,?_⟩;intro w' hSw;go_simp;try rfl)
      (try simp only[Act.put,zzA,zzB,zzC])
      refine zw39 (by kernel_rfl) ?_ _;go_wp2_with fail;go_meet;exact⟨rfl,HX.out.1⟩
     case rest=>
      obtain⟨rfl,hE2⟩:=hcut;obtain⟨wf,rfl⟩:∃wf:World,wf=wc:=⟨_,rfl⟩;have HE2:=zh hE2;clear hE2
      cases bb with
      | true=>
       have HRT:=zh (HRN.out.trans (zw50 _));go_wp2_with fail
       go_roundg (gi-1)
       case measure=>omega
       case rel=>exact⟨k+1,tk,by omega,by go_num,HE2.out,HTL.out trivial,fun h=>by omega,HNX.out,HRT.out⟩
      | false=>
       have HRF:=zh (HRN.out.trans (zw51 _));go_wp2_with fail;go_ret;exact⟨by rw[HRF.out];rfl,zxt HE0.out HE2.out⟩
    ·obtain rfl:gi=0:=by omega
     obtain rfl:k=nm:=by omega
     have y4:¬(k:Int)<(k:Int):=by omega
     have HRN:Hid (R=true):=zh (by
      rw[HRK.out,zw21 (by rw[HLM.out];omega),mayM])
     go_wp2_with fail;go_ret;exact⟨by rw[HRN.out];rfl,zxt HE0.out HE1.out⟩
end Go.Proofs.YtidnboeihkeljaaGreatDoor.Trk
