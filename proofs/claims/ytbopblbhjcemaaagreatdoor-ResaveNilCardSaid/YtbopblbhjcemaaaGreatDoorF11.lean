
import Derived.Test.YtbopblbhjcemaaaGreatDoorF12
set_option maxHeartbeats 16000000
set_option maxRecDepth 100000
set_option linter.all false
open Go.ChangeShapes Go.WideShapes Go.ChangeAt Go.RowKit
namespace Go.Proofs.YtbopblbhjcemaaaGreatDoor.Trk
open Rec
structure Pt where
 tick:Int
 x:Int
 y:Int
structure Mk where
 tick:Int
 name:ByteArray
def cP (p:Pt):List Value:=[.int .i64 p.tick,.int .i32 p.x,.int .i32 p.y]
theorem cP_len (p:Pt):(cP p).length=3:=rfl
def cM (m:Mk):List Value:=[.int .i64 m.tick,.string m.name]
theorem cM_len (m:Mk):(cM m).length=2:=rfl
def okP (n last:Int) (p:Pt):Prop:=last<p.tick∧p.tick≤n∧0≤p.x∧p.x≤16384∧0≤p.y∧p.y≤16384
instance (n last:Int) (p:Pt):Decidable (okP n last p):=by unfold okP;infer_instance
def mayC (n:Int):Int→List Pt→Bool
 | _,[]=>true
 | last,p::ps=>decide (okP n last p) && mayC n p.tick ps
def mayCam (n:Int) (ps:List Pt):Bool:=mayC n (-1) ps && decide (ps.length≤64)
def okM (n:Int) (m:Mk):Prop:=0≤m.tick∧m.tick≤n∧m.name.size≤40
instance (n:Int) (m:Mk):Decidable (okM n m):=by unfold okM;infer_instance
def mayM (n:Int):Int→List Mk→Bool
 | _,[]=>true
 | last,m::ms=>decide (last≤m.tick) && (decide (okM n m) && mayM n m.tick ms)
theorem ticks_st (n:Int) (w:World):Calls Tryz.prog 86 #[.int .i64 n] w fun e w'=>e= .returned (.bool (decide (0≤n∧n≤4096)))∧Ext w w':=by
 generalize hb:decide (0≤n∧n≤4096)=b;by_cases h1:0≤n
 ·by_cases h2:n≤4096
  ·have hb':Hid (b=true):=zh (by rw[←hb];exact zw15 ⟨h1,h2⟩)
   clear hb;go_enter Tryz.func86,Tryz.ntmps86;go_wp2_with fail;go_ret;exact⟨by rw[hb'.out];rfl,zxr _⟩
  ·have hb':Hid (b=false):=zh (by rw[←hb];exact zw14 (by omega))
   clear hb;go_enter Tryz.func86,Tryz.ntmps86;go_wp2_with fail;go_ret;exact⟨by rw[hb'.out];rfl,zxr _⟩
 ·have hb':Hid (b=false):=zh (by rw[←hb];exact zw14 (by omega))
  clear hb;go_enter Tryz.func86,Tryz.ntmps86;go_wp2_with fail;go_ret;exact⟨by rw[hb'.out];rfl,zxr _⟩
theorem markMay_st (m:Mk) (n:Int) (w:World) (hs:m.name.size≤9223372036854775807):Calls Tryz.prog 82 #[.agg #[.int .i64 m.tick,.string m.name],.int .i64 n] w fun e w'=>e= .returned (.bool (decide (okM n m)))∧Ext w w':=by
 generalize hb:decide (okM n m)=b;have HE:=zh (zxa (zxr w) (.cells #[.int .i64 m.tick,.string m.name] 52));obtain⟨t,s⟩:=m;simp only[okM]at*;by_cases h1:0≤t
 ·by_cases h2:t≤n
  ·by_cases h3:s.size≤40
   ·have hb':Hid (b=true):=zh (by rw[←hb];exact zw15 ⟨h1,h2,h3⟩)
    have h3':(s.size:Int)≤40:=by omega
    clear hb;go_enter Tryz.func82,Tryz.ntmps82;go_wp2_with fail;go_ret;exact⟨by rw[hb'.out];rfl,HE.out⟩
   ·have hb':Hid (b=false):=zh (by rw[←hb];exact zw14 (by omega))
    have h3':¬(s.size:Int)≤40:=by omega
    clear hb;go_enter Tryz.func82,Tryz.ntmps82;go_wp2_with fail;go_ret;exact⟨by rw[hb'.out];rfl,HE.out⟩
  ·have hb':Hid (b=false):=zh (by rw[←hb];exact zw14 (by omega))
   clear hb;go_enter Tryz.func82,Tryz.ntmps82;go_wp2_with fail;go_ret;exact⟨by rw[hb'.out];rfl,HE.out⟩
 ·have hb':Hid (b=false):=zh (by rw[←hb];exact zw14 (by omega))
  clear hb;go_enter Tryz.func82,Tryz.ntmps82;go_wp2_with fail;go_ret;exact⟨by rw[hb'.out];rfl,HE.out⟩
theorem mayCam_st (ps:List Pt) (A:Option Addr) (m c:Nat) (n:Int) (w:World) (hB:RowR w A m 3 cP ps) (hm:m≤9223372036854775807) (hn1: -9223372036854775808≤n) (hn2:n≤9223372036854775807):
  Calls Tryz.prog 87 #[.slice A m c,.int .i64 n] w fun e w'=>e= .returned (.bool (mayCam n ps))∧Ext w w':=by
 generalize hR:mayCam n ps=R;have HB:=zh hB;have HLEN:=zh hB.1;replace hR:=zh (show R=(mayC n (-1) ps && decide (m≤64))by rw[←hR,mayCam,hB.1]);clear hB;go_enter Tryz.func87,Tryz.ntmps87;go_wp2_with fail
 go_loopg [5,10] m (fun gh lv iv wr=>∃(k:Nat) (last:Int),k+gh=m∧iv= .int .i64 (k:Int)∧lv= .int .i64 last∧Ext w wr∧R=(mayC n last (ps.drop k) && decide (m≤64)))
 case atStart=>exact⟨0,-1,by omega,rfl,rfl,zxr _,hR.out⟩
 case round=>
  obtain⟨k,last,hk,rfl,rfl,hE,hRk⟩:=hrel;obtain⟨wi,rfl⟩:∃wi:World,wi=wr:=⟨_,rfl⟩;obtain⟨gh,rfl⟩:∃gh:Nat,gh=gk:=⟨_,rfl⟩;have HE:=zh hE;have HRK:=zh hRk;clear hE hRk hR;have y1:(0:Int)≤(k:Int):=by omega
  by_cases hlt:k<m
  ·have hke:k<ps.length:=by rw[HLEN.out];exact hlt
   obtain⟨b,o,rfl,hbw,hc⟩:=HB.out.2 (by omega);have q:=fun i hi=>(HE.out.cell (p:=⟨b,o+k*3+i,none⟩) hbw).trans (hc k hke i hi);have hd:ps.drop k=ps[k]::ps.drop (k+1):=zw20 hke;generalize ps[k]=u at q hd;obtain⟨t,x,y⟩:=u;have HD:=zh hd;have a0:=q 0 (by omega);have a1:=q 1 (by omega);have a2:=q 2 (by omega);simp only[cP,Nat.add_zero,List.getElem?_cons_zero,List.getElem?_cons_succ]at a0 a1 a2;have y2:(k:Int)<(m:Int):=by omega
   have HEA:=zh (zxa HE.out (.cells #[.int .i64 t,.int .i32 x,.int .i32 y] 84));clear hc q hke hd;by_cases hok:okP n last ⟨t,x,y⟩
   ·have HRT:Hid (R=(mayC n t (ps.drop (k+1)) && decide (m≤64))):=zh (by rw[HRK.out,HD.out,mayC,zw15 hok,zw50])
    obtain⟨h1,h2,h3,h4,h5,h6⟩:=hok;simp only at h1 h2 h3 h4 h5 h6;go_wp2_with fail
    go_roundg (gh-1)
    case measure=>omega
    case rel=>exact⟨k+1,t,by omega,by go_num,rfl,HEA.out,HRT.out⟩
   ·have HRF:Hid (R=false):=zh (by rw[HRK.out,HD.out,mayC,zw14 hok,zw51,zw51])
    unfold okP at hok;simp only at hok;by_cases h1:last<t
    ·by_cases h2:t≤n
     ·by_cases h3:0≤x
      ·by_cases h4:x≤16384
       ·by_cases h5:0≤y
        ·have h6:¬y≤16384:=fun h=>hok ⟨h1,h2,h3,h4,h5,h⟩
         clear hok;go_wp2_with fail;go_ret;exact⟨by rw[HRF.out];rfl,HEA.out⟩
        ·clear hok
         go_wp2_with fail;go_ret;exact⟨by rw[HRF.out];rfl,HEA.out⟩
       ·clear hok
        go_wp2_with fail;go_ret;exact⟨by rw[HRF.out];rfl,HEA.out⟩
      ·clear hok
       go_wp2_with fail;go_ret;exact⟨by rw[HRF.out];rfl,HEA.out⟩
     ·clear hok
      go_wp2_with fail;go_ret;exact⟨by rw[HRF.out];rfl,HEA.out⟩
    ·clear hok
     go_wp2_with fail;go_ret;exact⟨by rw[HRF.out];rfl,HEA.out⟩
  ·obtain rfl:gh=0:=by omega
   obtain rfl:k=m:=by omega
   have HRF:Hid (R=decide (k≤64)):=zh (by
    rw[HRK.out,zw21 (by rw[HLEN.out];omega),mayC,zw50])
   have y2:¬(k:Int)<(k:Int):=by omega
   by_cases h64:k≤64
   ·have h64':(k:Int)≤64:=by omega
    have HRG:Hid (R=true):=zh (by rw[HRF.out,zw15 h64]);go_wp2_with fail;go_ret;exact⟨by rw[HRG.out];rfl,HE.out⟩
   ·have h64':¬(k:Int)≤64:=by omega
    have HRG:Hid (R=false):=zh (by rw[HRF.out,zw14 h64]);go_wp2_with fail;go_ret;exact⟨by rw[HRG.out];rfl,HE.out⟩
structure Tk where
 c0:List Pt
 c1:List Pt
 c2:List Pt
 c3:List Pt
 marks:List Mk
def Tk.cams (x:Tk):List (List Pt):=[x.c0,x.c1,x.c2,x.c3]
def PtsV (w:World) (A:Option Addr) (n c:Nat) (ps:List Pt):Prop:=RowR w A n 3 cP ps∧n≤c∧c≤9223372036854775807∧(A=none→n=0∧c=0)
def MksV (w:World) (A:Option Addr) (n c:Nat) (ms:List Mk):Prop:=RowR w A n 2 cM ms∧n≤c∧c≤9223372036854775807∧(A=none→n=0∧c=0)∧∀m∈ms,m.name.size≤9223372036854775807
structure Sl where
 A:Option Addr
 n:Nat
 c:Nat
def Sl.v (s:Sl):Value:= .slice s.A s.n s.c
structure Tv where
 s0:Sl
 s1:Sl
 s2:Sl
 s3:Sl
 sm:Sl
def Tv.cells (t:Tv):Array Value:= #[.slice t.s0.A t.s0.n t.s0.c,.slice t.s1.A t.s1.n t.s1.c,.slice t.s2.A t.s2.n t.s2.c,.slice t.s3.A t.s3.n t.s3.c,.slice t.sm.A t.sm.n t.sm.c]
def TkV (w:World) (t:Tv) (x:Tk):Prop:=PtsV w t.s0.A t.s0.n t.s0.c x.c0∧PtsV w t.s1.A t.s1.n t.s1.c x.c1∧PtsV w t.s2.A t.s2.n t.s2.c x.c2∧PtsV w t.s3.A t.s3.n t.s3.c x.c3∧MksV w t.sm.A t.sm.n t.sm.c x.marks
theorem PtsV.ext {w w':World} {A:Option Addr} {n c:Nat} {ps:List Pt} (h:PtsV w A n c ps) (e:Ext w w'):PtsV w' A n c ps:=⟨h.1.ext e,h.2⟩
theorem MksV.ext {w w':World} {A:Option Addr} {n c:Nat} {ps:List Mk} (h:MksV w A n c ps) (e:Ext w w'):MksV w' A n c ps:=⟨h.1.ext e,h.2⟩
theorem TkV.ext {w w':World} {t:Tv} {x:Tk} (h:TkV w t x) (e:Ext w w'):TkV w' t x:=⟨h.1.ext e,h.2.1.ext e,h.2.2.1.ext e,h.2.2.2.1.ext e,h.2.2.2.2.ext e⟩
theorem idx4 (a b c d:Value) (w:World):(Instr.index 34 (.agg #[a,b,c,d]) (.int .i64 0)).run Tryz.prog w= .ok a w∧(Instr.index 34 (.agg #[a,b,c,d]) (.int .i64 1)).run Tryz.prog w= .ok b w∧(Instr.index 34 (.agg #[a,b,c,d]) (.int .i64 2)).run Tryz.prog w= .ok c w∧(Instr.index 34 (.agg #[a,b,c,d]) (.int .i64 3)).run Tryz.prog w= .ok d w:=
 ⟨by kernel_rfl,by kernel_rfl,by kernel_rfl,by kernel_rfl⟩
def mayT (n:Int) (x:Tk):Bool:=decide (0≤n∧n≤4096) && (decide (x.marks.length≤32) && (x.cams.all (mayCam n) && mayM n 0 x.marks))
theorem may_st (t:Tv) (x:Tk) (n:Int) (w:World) (hB:TkV w t x) (hn1: -9223372036854775808≤n) (hn2:n≤9223372036854775807):
  Calls Tryz.prog 47 #[.agg t.cells,.int .i64 n] w fun e w'=>e= .returned (.bool (mayT n x))∧Ext w w':=by
 generalize hR:mayT n x=R;replace hR:=zh hR;have HT:=zh (fun(w':World)=>ticks_st n w');have hE0:=zxa (zxr w) (.cells t.cells 37);have HH0:=zh (Blk.new w 37 t.cells);have HB:=zh (hB.ext hE0);have HLEN:=zh hB.2.2.2.2.1.1;have HE0:=zh hE0;clear hB hE0;obtain⟨⟨A0,n0,c0⟩,⟨A1,n1,c1⟩,⟨A2,n2,c2⟩,⟨A3,n3,c3⟩,⟨Am,nm,cm⟩⟩:=t;obtain⟨p0,p1,p2,p3,ms⟩:=x;simp only[Tv.cells]at*;go_enter Tryz.func47,Tryz.ntmps47;go_upto_region 1 with fail;obtain⟨w0,hw0⟩:∃q,q=w.alloc (.cells #[.slice A0 n0 c0,.slice A1 n1 c1,.slice A2 n2 c2,.slice A3 n3 c3,.slice Am nm cm] 37):=⟨_,rfl⟩;rw[←hw0]at HH0 HB HE0 ⊢;clear hw0;have HW0:Hid (w.heap.size<w0.heap.size):=zh HH0.out.lt;generalize w.heap.size=hb at*;go_wp2_with fail;refine(HT.out w0).mono ?_;rintro e w1 ⟨rfl,hE1⟩;have HE1:=zh (zxt HE0.out hE1);have HB1:=zh (HB.out.ext hE1);have HH1:=zh (HH0.out.ext hE1);clear hE1 HE0 HB HH0 HT;have hh:=fun i=>HH1.out.cell i;by_cases hn:0≤n∧n≤4096
 ·rw[zw15 hn]
  by_cases hm:nm≤32
  ·have hm':(nm:Int)≤32:=by omega
   have HRR:Hid (R=(([p0,p1,p2,p3].drop 0).all (mayCam n) && mayM n 0 ms)):=zh (by
    rw[←hR.out,mayT,zw15 hn,HLEN.out,zw15 hm];rfl)
   have HN:=zh hn;clear hn hm;have HMK:=zh (fun(m:Mk) (h:m∈ms) (w':World)=>markMay_st m n w' (HB1.out.2.2.2.2.2.2.2.2 m h));have HMC0:=zh (fun(w':World) (e:Ext w1 w')=>mayCam_st p0 A0 n0 c0 n w' (HB1.out.1.1.ext e) (by have:=HB1.out.1;have:=this.2.1;have:=HB1.out.1.2.2.1;simp only at*;omega) hn1 hn2);have HMC1:=zh (fun(w':World) (e:Ext w1 w')=>mayCam_st p1 A1 n1 c1 n w' (HB1.out.2.1.1.ext e) (by have:=HB1.out.2.1;have:=this.2.1;have:=HB1.out.2.1.2.2.1;simp only at*;omega) hn1 hn2);have HMC2:=zh (fun(w':World) (e:Ext w1 w')=>mayCam_st p2 A2 n2 c2 n w' (HB1.out.2.2.1.1.ext e) (by have:=HB1.out.2.2.1;have:=this.2.1;have:=HB1.out.2.2.1.2.2.1;simp only at*;omega) hn1 hn2);have HMC3:=zh (fun(w':World) (e:Ext w1 w')=>mayCam_st p3 A3 n3 c3 n w' (HB1.out.2.2.2.1.1.ext e) (by have:=HB1.out.2.2.2.1;have:=this.2.1;have:=HB1.out.2.2.2.1.2.2.1;simp only at*;omega) hn1 hn2);go_wp2_with fail
   go_loopg [21] 4 (fun gh iv wr=>∃(k:Nat),k+gh=4∧iv= .int .i64 (k:Int)∧Ext w1 wr∧R=(([p0,p1,p2,p3].drop k).all (mayCam n) && mayM n 0 ms))
   case atStart=>exact⟨0,by omega,rfl,zxr _,HRR.out⟩
   case round=>
    obtain⟨k,hk,rfl,hE,hRk⟩:=hrel;obtain⟨wi,rfl⟩:∃wi:World,wi=wr:=⟨_,rfl⟩;obtain⟨gh,rfl⟩:∃gh:Nat,gh=gk:=⟨_,rfl⟩;have HE:=zh hE;have HRK:=zh hRk;clear hE hRk HRR hh;have y1:(0:Int)≤(k:Int):=by omega
    by_cases hlt:k<4
    ·have hk4:k=0∨k=1∨k=2∨k=3:=by omega
     have y2:(k:Int)<4:=by omega
     clear y1 y2;rcases hk4 with rfl | rfl | rfl | rfl
     ·have HMX:=zh (HMC0.out wi HE.out)
      obtain⟨bb,hbb⟩:∃bb,bb=mayCam n p0:=⟨_,rfl⟩;rw[←hbb]at HMX;replace hbb:=zh hbb;clear HMC0 HMC1 HMC2 HMC3;have hix:=(idx4 (.slice A0 n0 c0) (.slice A1 n1 c1) (.slice A2 n2 c2) (.slice A3 n3 c3) wi).1;go_wp2_with fail;refine(HMX.out).mono ?_;rintro e w2 ⟨rfl,hE2⟩;have HE2:=zh (zxt HE.out hE2);clear hE2 HMX
      cases bb with
      | true=>
       have HRT:Hid (R=(([p0,p1,p2,p3].drop 1).all (mayCam n) && mayM n 0 ms)):=zh (by rw[HRK.out];simp[←hbb.out]);go_wp2_with fail
       go_roundg (gh-1)
       case measure=>omega
       case rel=>exact⟨1,by omega,by go_num,HE2.out,HRT.out⟩
      | false=>
       have HRF:Hid (R=false):=zh (by rw[HRK.out];simp[←hbb.out]);go_wp2_with fail;go_ret;exact⟨by rw[HRF.out];rfl,zxt HE1.out HE2.out⟩
     ·have HMX:=zh (HMC1.out wi HE.out)
      obtain⟨bb,hbb⟩:∃bb,bb=mayCam n p1:=⟨_,rfl⟩;rw[←hbb]at HMX;replace hbb:=zh hbb;clear HMC0 HMC1 HMC2 HMC3;have hix:=(idx4 (.slice A0 n0 c0) (.slice A1 n1 c1) (.slice A2 n2 c2) (.slice A3 n3 c3) wi).2.1;go_wp2_with fail;refine(HMX.out).mono ?_;rintro e w2 ⟨rfl,hE2⟩;have HE2:=zh (zxt HE.out hE2);clear hE2 HMX
      cases bb with
      | true=>
       have HRT:Hid (R=(([p0,p1,p2,p3].drop 2).all (mayCam n) && mayM n 0 ms)):=zh (by rw[HRK.out];simp[←hbb.out]);go_wp2_with fail
       go_roundg (gh-1)
       case measure=>omega
       case rel=>exact⟨2,by omega,by go_num,HE2.out,HRT.out⟩
      | false=>
       have HRF:Hid (R=false):=zh (by rw[HRK.out];simp[←hbb.out]);go_wp2_with fail;go_ret;exact⟨by rw[HRF.out];rfl,zxt HE1.out HE2.out⟩
     ·have HMX:=zh (HMC2.out wi HE.out)
      obtain⟨bb,hbb⟩:∃bb,bb=mayCam n p2:=⟨_,rfl⟩;rw[←hbb]at HMX;replace hbb:=zh hbb;clear HMC0 HMC1 HMC2 HMC3;have hix:=(idx4 (.slice A0 n0 c0) (.slice A1 n1 c1) (.slice A2 n2 c2) (.slice A3 n3 c3) wi).2.2.1;go_wp2_with fail;refine(HMX.out).mono ?_;rintro e w2 ⟨rfl,hE2⟩;have HE2:=zh (zxt HE.out hE2);clear hE2 HMX
      cases bb with
      | true=>
       have HRT:Hid (R=(([p0,p1,p2,p3].drop 3).all (mayCam n) && mayM n 0 ms)):=zh (by rw[HRK.out];simp[←hbb.out]);go_wp2_with fail
       go_roundg (gh-1)
       case measure=>omega
       case rel=>exact⟨3,by omega,by go_num,HE2.out,HRT.out⟩
      | false=>
       have HRF:Hid (R=false):=zh (by rw[HRK.out];simp[←hbb.out]);go_wp2_with fail;go_ret;exact⟨by rw[HRF.out];rfl,zxt HE1.out HE2.out⟩
     ·have HMX:=zh (HMC3.out wi HE.out)
      obtain⟨bb,hbb⟩:∃bb,bb=mayCam n p3:=⟨_,rfl⟩;rw[←hbb]at HMX;replace hbb:=zh hbb;clear HMC0 HMC1 HMC2 HMC3;have hix:=(idx4 (.slice A0 n0 c0) (.slice A1 n1 c1) (.slice A2 n2 c2) (.slice A3 n3 c3) wi).2.2.2;go_wp2_with fail;refine(HMX.out).mono ?_;rintro e w2 ⟨rfl,hE2⟩;have HE2:=zh (zxt HE.out hE2);clear hE2 HMX
      cases bb with
      | true=>
       have HRT:Hid (R=(([p0,p1,p2,p3].drop 4).all (mayCam n) && mayM n 0 ms)):=zh (by rw[HRK.out];simp[←hbb.out]);go_wp2_with fail
       go_roundg (gh-1)
       case measure=>omega
       case rel=>exact⟨4,by omega,by go_num,HE2.out,HRT.out⟩
      | false=>
       have HRF:Hid (R=false):=zh (by rw[HRK.out];simp[←hbb.out]);go_wp2_with fail;go_ret;exact⟨by rw[HRF.out];rfl,zxt HE1.out HE2.out⟩
    ·obtain rfl:gh=0:=by omega
     obtain rfl:k=4:=by omega
     have HRM:Hid (R=mayM n 0 ms):=zh (by rw[HRK.out];simp);have HH2:=zh (HH1.out.ext HE.out);have hh:=fun i=>HH2.out.cell i;clear HRK y1 hlt hk;go_wp2_with fail
     go_loopg [7,32] nm (fun gh lv iv wr=>∃(k:Nat) (last:Int),k+gh=nm∧iv= .int .i64 (k:Int)∧lv= .int .i64 last∧Ext w1 wr∧R=mayM n last (ms.drop k))
     case atStart=>exact⟨0,0,by omega,rfl,rfl,HE.out,HRM.out⟩
     case round=>
      obtain⟨k,last,hk,rfl,rfl,hE,hRk⟩:=hrel;obtain⟨wj,rfl⟩:∃wi:World,wi=wr:=⟨_,rfl⟩;obtain⟨gh,rfl⟩:∃gh:Nat,gh=gk:=⟨_,rfl⟩;have HEJ:=zh hE;have HRK:=zh hRk;clear hE hRk HRM hh HE HH2;have y1:(0:Int)≤(k:Int):=by omega
      by_cases hlt:k<nm
      ·have hke:k<ms.length:=by rw[HLEN.out];exact hlt
       obtain⟨b,o,hA,hbw,hc⟩:=HB1.out.2.2.2.2.1.2 (by show 0<nm;omega);simp only at hA;subst hA;have q:=fun i hi=>(HEJ.out.cell (p:=⟨b,o+k*2+i,none⟩) hbw).trans (hc k hke i hi);have hd:ms.drop k=ms[k]::ms.drop (k+1):=zw20 hke;have HMJ:=HMK.out ms[k] (zw25 hke);generalize ms[k]=u at q hd HMJ;obtain⟨tk,s⟩:=u;have HD:=zh hd;have a0:=q 0 (by omega);have a1:=q 1 (by omega);simp only[cM,Nat.add_zero,List.getElem?_cons_zero,List.getElem?_cons_succ]at a0 a1;have y2:(k:Int)<(nm:Int):=by omega
       have hea:=zxa (zxr wj) (.cells #[.int .i64 tk,.string s] 52);have HEA:=zh (zxt HEJ.out hea);have HUB:=zh (Blk.new wj 52 #[.int .i64 tk,.string s]);have HMJ2:=zh HMJ;clear hc q hke hd hea HMJ;by_cases h1:last≤tk
       ·go_wp2_with fail
        refine(HMJ2.out _).mono ?_;rintro e w5 ⟨rfl,hE5⟩;have HE5:=zh (zxt HEA.out hE5);have HUB5:=zh (HUB.out.ext hE5);clear hE5 HMJ2 HUB HEA;have ub:=fun i=>HUB5.out.cell i;by_cases h2:okM n ⟨tk,s⟩
        ·have HRT:Hid (R=mayM n tk (ms.drop (k+1))):=zh (by rw[HRK.out,HD.out,mayM,zw15 h1,zw15 h2,zw50,zw50])
         rw[zw15 h2];clear h2;go_wp2_with fail
         go_roundg (gh-1)
         case measure=>omega
         case rel=>exact⟨k+1,tk,by omega,by go_num,rfl,HE5.out,HRT.out⟩
        ·have HRF:Hid (R=false):=zh (by rw[HRK.out,HD.out,mayM,zw14 h2,zw51,Bool.and_false])
         rw[zw14 h2];clear h2;go_wp2_with fail;go_ret;exact⟨by rw[HRF.out];rfl,zxt HE1.out HE5.out⟩
       ·have HRF:Hid (R=false):=zh (by rw[HRK.out,HD.out,mayM,zw14 h1,zw51])
        clear HMJ2;go_wp2_with fail;go_ret;exact⟨by rw[HRF.out];rfl,zxt HE1.out HEA.out⟩
      ·obtain rfl:gh=0:=by omega
       obtain rfl:k=nm:=by omega
       have HRF:Hid (R=true):=zh (by rw[HRK.out,zw21 (by rw[HLEN.out];omega),mayM]);have y2:¬(k:Int)<(k:Int):=by omega
       go_wp2_with fail;go_ret;exact⟨by rw[HRF.out];rfl,zxt HE1.out HEJ.out⟩
  ·have hm':¬(nm:Int)≤32:=by omega
   have HRF:Hid (R=false):=zh (by rw[←hR.out,mayT,HLEN.out,zw14 hm,zw51,Bool.and_false]);go_wp2_with fail;go_ret;exact⟨by rw[HRF.out];rfl,HE1.out⟩
 ·rw[zw14 hn]
  have HRF:Hid (R=false):=zh (by rw[←hR.out,mayT,zw14 hn,zw51]);clear hn;go_wp2_with fail;go_ret;exact⟨by rw[HRF.out];rfl,HE1.out⟩
open Wire
theorem grew_refl (w:World) (v:Value):Grew w w v v:=⟨⟨rfl,rfl,rfl,zw8 _,fun _ _ _=>rfl⟩,.inl rfl⟩
theorem grew_trans {a b c:World} {u v x:Value} (h:Grew a b u v) (k:Grew b c v x):Grew a c u x:=by
 have hs:=h.1.size;refine⟨⟨k.1.os.trans h.1.os,k.1.tape.trans h.1.tape,k.1.output.trans h.1.output,zw10 hs k.1.size,fun q hq hne=>?_⟩,?_⟩
 ·refine(k.1.block q (zw9 hq hs) ?_).trans (h.1.block q hq hne)
  rcases h.2 with h2 | h2
  ·rw[h2];exact hne
  ·intro e;have:=h2 q e.symm;omega
 ·rcases k.2 with k2 | k2
  ·rcases h.2 with h2 | h2
   ·exact .inl (k2.trans h2)
   ·exact .inr (fun q e=>h2 q (k2▸e))
  ·exact .inr (fun q e=>zw10 hs (k2 q e))
theorem grew_ext {a b c:World} {u v:Value} (h:Grew a b u v) (e:Ext b c):Grew a c u v:=
 ⟨⟨e.os.trans h.1.os,e.tape.trans h.1.tape,e.output.trans h.1.output,zw10 h.1.size e.size,fun q hq hne=>(e.block q (zw9 hq h.1.size)).trans (h.1.block q hq hne)⟩,h.2⟩
def ints (ns:List Nat):Array Value:=(ns.map fun(x:Nat)=>Value.int .i64 (x:Int)).toArray
theorem ints_get {ns:List Nat} {k:Nat} (hk:k<ns.length):(ints ns)[k]? =some (.int .i64 (ns[k]:Int)):=by
 unfold ints;rw[List.getElem?_toArray,List.getElem?_map,zw6 hk];rfl
theorem put_tr (ns:List Nat) (nb c base:Nat) (v:Value) (zs:List Nat) (w:World) (hn:∀x∈ns,x<4611686018427387904) (hl:ns.length≤100) (hN:Blk w nb 3 (ints ns)) (hO:OwnB base w v zs) (hb:base≤w.heap.size) (hf:Off v nb) (hz:zs.length≤1000000):
  Calls Tryz.prog 48 #[v,.slice (some ⟨nb,0,none⟩) ns.length c] w fun e w'=>∃v',e= .returned v'∧OwnB base w' v' (zs++ns.flatMap vb)∧Grew w w' v v':=by
 have HN:=zh hn;have HNB:=zh hN;have HO:=zh hO;have HF:=zh hf;have HBS:=zh hb;clear hn hN hO hf hb;have HVL:Hid (∀k,((ns.take k).flatMap vb).length≤10*k):=zh (by
  intro k
  induction k with
  | zero=>simp
  | succ k ih=>
   by_cases hk:k<ns.length
   ·rw[←zw36 hk,List.flatMap_append,zw0]
    have:=vb_ten (n:=ns[k]) (by have:=HN.out ns[k] (zw25 hk);omega);simp only[List.flatMap_cons,List.flatMap_nil,zw18];omega
   ·rw[List.take_of_length_le (by omega)]
    rw[List.take_of_length_le (by omega)]at ih;omega)
 obtain⟨nl,hnl⟩:∃q,q=ns.length:=⟨_,rfl⟩;rw[←hnl]at hl ⊢;replace hnl:=zh hnl;go_enter Tryz.func48,Tryz.ntmps48;go_wp2_with fail
 go_loopg [0,9] nl (fun gh bv iv wr=>∃(k:Nat),k+gh=nl∧iv= .int .i64 (k:Int)∧OwnB base wr bv (zs++(ns.take k).flatMap vb)∧Grew w wr v bv)
 case atStart=>exact⟨0,by omega,rfl,by simpa using HO.out,grew_refl _ _⟩
 case round=>
  obtain⟨k,hk,rfl,hO,hG⟩:=hrel;obtain⟨wi,rfl⟩:∃wi:World,wi=wr:=⟨_,rfl⟩;obtain⟨vi,rfl⟩:∃vi:Value,vi=u0:=⟨_,rfl⟩;obtain⟨gh,rfl⟩:∃gh:Nat,gh=gk:=⟨_,rfl⟩;have HOI:=zh hO;have HG:=zh hG;clear hO hG;have y1:(0:Int)≤(k:Int):=by omega
  by_cases hlt:k<nl
  ·have hke:k<ns.length:=by rw[←hnl.out];exact hlt
   have HNI:=zh (HG.out.blk HF.out HNB.out);have cy:=HNI.out.cell k;rw[ints_get hke]at cy;have hy:=HN.out ns[k] (zw25 hke);have htk:=zh (show(ns.take (k+1)).flatMap vb=(ns.take k).flatMap vb++vb ns[k]by rw[←zw36 hke,List.flatMap_append];simp);have hvl:=HVL.out k;generalize ns[k]=y at cy hy htk;have y2:(k:Int)<(nl:Int):=by omega
   have HPY:=zh (fun w'=>put_nil y (by omega) w');have hwn:nb<wi.heap.size:=HNI.out.lt;clear hke;go_wp2_with fail;refine(HPY.out wi).mono ?_;rintro e w8 ⟨v8,rfl,hsrc8,hO8',hE8⟩;have HSRC:=zh hsrc8;have HO8:=zh (HOI.out.ext hE8);have HG8:=zh (grew_ext HG.out hE8);have hbs8:=zw10 HBS.out HG8.out.1.size;have HBS8:=zh hbs8;clear hsrc8 hO8' hE8 cy hbs8;have HLZ:Hid ((zs++(ns.take k).flatMap vb).length+(vb y).length≤140737488355328):=zh (by
    have q2:=vb_ten (n:=y) (by omega);rw[zw0];omega)
   go_wp2_with (at_builtin;refine wpList_b rfl (.tmp 13) (.tmp 16) 22 rfl vi v8 (zs++(ns.take k).flatMap vb) (vb y) rfl rfl HO8.out HBS8.out HSRC.out HLZ.out ?_;intro vC wC hOC hGC;have HOC:=zh hOC;have HGC:=zh hGC;clear hOC hGC)
   go_roundg (gh-1)
   case measure=>omega
   case rel=>
    refine⟨k+1,by omega,by go_num,?_,grew_trans HG8.out HGC.out⟩;rw[htk.out,←zw7];exact HOC.out
  ·obtain rfl:gh=0:=by omega
   obtain rfl:k=nl:=by omega
   have y2:¬(k:Int)<(k:Int):=by omega
   go_wp2_with fail;go_ret;refine⟨_,rfl,?_,HG.out⟩;have:=HOI.out
   rwa [List.take_of_length_le (by rw[←hnl.out];omega)]at this
def encP (last:Int):List Pt→List Nat
 | []=>[]
 | p::ps=>(vb (p.tick-last).toNat++(vb p.x.toNat++vb p.y.toNat))++encP p.tick ps
def encC (ps:List Pt):List Nat:=vb ps.length++encP 0 ps
def encMs (last:Int):List Mk→List Nat
 | []=>[]
 | m::ms=>(vb (m.tick-last).toNat++(vb m.name.size++natsOf m.name))++encMs m.tick ms
def encM (ms:List Mk):List Nat:=vb ms.length++encMs 0 ms
def encT (x:Tk):List Nat:=x.cams.flatMap encC++encM x.marks
def BtPost (w:World) (n:Int) (x:Tk) (e:Ending) (w':World):Prop:=
 Ext w w'∧if mayT n x=true then ∃v,e= .returned (.tuple #[v,.int .i64 0])∧OwnB w.heap.size w' v (encT x)else e= .returned (.tuple #[.slice none 0 0,.int .i64 2])
theorem bt_ok {w w':World} {n:Int} {x:Tk} {v:Value} {L:List Nat} {b:Nat} (h:mayT n x=true) (hE:Ext w w') (hO:OwnB b w' v L) (hL:encT x=L) (hb:w.heap.size≤b):BtPost w n x (.returned (.tuple #[v,.int .i64 0])) w':=by
 refine⟨hE,?_⟩;rw[if_pos h,hL];exact⟨v,rfl,hO.mono hb⟩
theorem bt_bad {w w':World} {n:Int} {x:Tk} (h:mayT n x=false) (hE:Ext w w'):BtPost w n x (.returned (.tuple #[.slice none 0 0,.int .i64 2])) w':=by
 refine⟨hE,?_⟩;rw[if_neg (by rw[h];decide)]
def QRel (W:World) (n:Int) (ps:List Pt) (T:List Nat) (tail:List Nat) (lim gh:Nat) (bv lv iv:Value) (wr:World):Prop:=
 ∃(k:Nat) (last lm:Int) (zs:List Nat),k+gh=ps.length∧iv= .int .i64 (k:Int)∧lv= .int .i64 last∧0≤last∧last≤4096∧last≤lm+1∧mayC n lm (ps.drop k)=true∧OwnB W.heap.size wr bv zs∧zs.length≤lim+30*k∧Ext W wr∧T=zs++(encP last (ps.drop k)++tail)
def NRelM (W:World) (n:Int) (ms:List Mk) (T:List Nat) (gh:Nat) (bv lv iv:Value) (wr:World):Prop:=
 ∃(k:Nat) (last:Int) (zs:List Nat),k+gh=ms.length∧iv= .int .i64 (k:Int)∧lv= .int .i64 last∧0≤last∧last≤4096∧mayM n last (ms.drop k)=true∧OwnB W.heap.size wr bv zs∧zs.length≤20000+100*k∧Ext W wr∧T=zs++encMs last (ms.drop k)
end Go.Proofs.YtbopblbhjcemaaaGreatDoor.Trk
