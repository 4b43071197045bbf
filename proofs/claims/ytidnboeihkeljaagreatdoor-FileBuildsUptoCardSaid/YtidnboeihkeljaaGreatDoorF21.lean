
import Derived.Test.YtidnboeihkeljaaGreatDoorF19
import Derived.StillTailTactics
import Derived.BigQuiet
import Derived.OrdersHeld
import Derived.Deep.RegionHeld
import Derived.Test.YtidnboeihkeljaaGreatDoorRecOf
import Derived.OpenShut
set_option maxHeartbeats 16000000
set_option maxRecDepth 100000
set_option linter.all false
namespace Go.Proofs.YtidnboeihkeljaaGreatDoor.Log
open Go.ChangeShapes Go.WideShapes Go.ChangeAt Go.RowKit
open Wire
open Rec
def Ev.fits (x:Ev):Prop:=x.player<256∧x.doing<256∧x.unit<65536∧x.tile<65536∧x.target<65536∧x.kind<256
def pacedB (n:Int):Int→Nat→List Ev→Bool
 | _,_,[]=>true
 | last,each,e::es=>decide (last≤e.tick∧e.tick<n∧eachI last each e.tick≤32) && pacedB n e.tick (eachI last each e.tick) es
def encV (last:Int):List Ev→List Nat
 | []=>[]
 | e::es=>(vb (e.tick-last).toNat++([e.player,e.doing,e.kind]++(vb e.unit++(vb e.tile++vb e.target))))++encV e.tick es
def putL (n:Int) (evs:List Ev):Option (List Nat):=
 if 0≤n∧n≤4096∧pacedB n 0 0 evs=true then some (vb evs.length++encV 0 evs)else none
theorem encV_map:∀(es:List En) (last:Nat),encV (last:Int) (es.map En.ev)=encs last es
 | [],_=>rfl
 | e::es,last=>by
  rw[List.map_cons,encV,encs];show(vb ((e.tick:Int)-(last:Int)).toNat++_)++encV (e.tick:Int) (es.map En.ev)=_;rw[encV_map es e.tick,show((e.tick:Int)-(last:Int)).toNat=e.tick-last by omega];rfl
theorem pacedB_map (n:Nat):∀(es:List En) (last each:Nat),pacedB n last each (es.map En.ev)=true↔paced n last each es
 | [],_,_=>by simp[pacedB,paced]
 | e::es,last,each=>by
  rw[List.map_cons,pacedB,zw48,zw49];show((last:Int)≤(e.tick:Int)∧(e.tick:Int)<(n:Int)∧eachI last each (e.tick:Int)≤32)∧pacedB n (e.tick:Int) (eachI last each (e.tick:Int)) (es.map En.ev)=true↔_;rw[each_eq,pacedB_map n es e.tick];rw[paced];constructor
  ·rintro ⟨⟨a,b,c⟩,d⟩;exact⟨by omega,by omega,c,d⟩
  ·rintro ⟨a,b,c,d⟩;exact⟨⟨by omega,by omega,c⟩,d⟩
theorem pacedB_en (n:Int):∀(evs:List Ev) (last:Nat) (each:Nat),pacedB n last each evs=true→∃es:List En,evs=es.map En.ev
 | [],_,_,_=>⟨[],rfl⟩
 | x::evs,last,each,h=>by
  rw[pacedB,zw48,zw49]at h;obtain⟨⟨h1,h2,h3⟩,h4⟩:=h;obtain⟨t,ht⟩:∃t:Nat,x.tick=(t:Int):=⟨x.tick.toNat,by omega⟩;rw[ht]at h4;obtain⟨es,rfl⟩:=pacedB_en n evs t _ h4;exact⟨⟨t,x.player,x.doing,x.kind,x.unit,x.tile,x.target⟩::es,by
   rw[List.map_cons]
   congr 1
   obtain⟨a,b,c,d,e,f,g⟩:=x;simp only at ht;rw[ht];rfl⟩
theorem En.fits_of {e:En} (h:(En.ev e).fits):e.fits:=by
 obtain⟨h1,h2,h3,h4,h5,h6⟩:=h;simp only[En.ev]at h1 h2 h3 h4 h5 h6;exact⟨h1,h2,h6,by omega,by omega,by omega⟩
theorem take_put {n:Int} {evs:List Ev} {L:List Nat} (hf:∀x∈evs,x.fits) (hl:evs.length≤1000000) (h:putL n evs=some L):∃es:List En,evs=es.map En.ev∧takeL n L=some es:=by
 unfold putL at h
 split at h
 ·rename_i hq
  obtain⟨h1,h2,h3⟩:=hq;cases h
  obtain⟨nn,rfl⟩:∃nn:Nat,n=(nn:Int):=⟨n.toNat,by omega⟩;obtain⟨es,rfl⟩:=pacedB_en _ evs 0 0 h3;refine⟨es,rfl,?_⟩;have hp:=(pacedB_map nn es 0 0).1 h3;unfold takeL;rw[if_pos ⟨h1,h2⟩,zw4,pN_put (by rw[zw4]at hl;omega)];simp only;have he:encV 0 (es.map En.ev)=encs 0 es:=encV_map es 0;rw[he,zw35];have:=pL_put nn (by omega) es 0 0 [] (fun e he=>En.fits_of (hf _ (List.mem_map_of_mem he))) hp;rw[zw18]at this;rw[this]
 ·cases h
def PtPost (w:World) (n:Int) (evs:List Ev) (e:Ending) (w':World):Prop:=
 Ext w w'∧match putL n evs with
 | none=>e= .returned (.tuple #[.slice none 0 0,.int .i64 2])
 | some L=>∃v,e= .returned (.tuple #[v,.int .i64 0])∧OwnB w.heap.size w' v L
theorem pt_ok {w w':World} {n:Int} {evs:List Ev} {L:List Nat} {v:Value} {b:Nat} (hE:Ext w w') (h:putL n evs=some L) (hO:OwnB b w' v L) (hb:w.heap.size≤b):PtPost w n evs (.returned (.tuple #[v,.int .i64 0])) w':=by
 refine⟨hE,?_⟩;rw[h];exact⟨v,rfl,hO.mono hb⟩
theorem pt_bad {w w':World} {n:Int} {evs:List Ev} (hE:Ext w w') (h:putL n evs=none):PtPost w n evs (.returned (.tuple #[.slice none 0 0,.int .i64 2])) w':=by
 refine⟨hE,?_⟩;rw[h]
theorem encV_small:∀(evs:List Ev) (last:Int),(∀x∈evs,x.fits)→∀c∈encV last evs,c<256
 | [],_,_,c,hc=>by cases hc
 | x::evs,last,hf,c,hc=>by
  obtain⟨h1,h2,h3,h4,h5,h6⟩:=hf x (by simp);rw[encV]at hc;rcases zw16.1 hc with hc | hc
  ·rcases zw16.1 hc with hc | hc
   ·exact vb_mem _ c hc
   ·rcases zw16.1 hc with hc | hc
    ·simp only[zw30,List.not_mem_nil,or_false]at hc
     rcases hc with rfl | rfl | rfl<;>assumption
    ·rcases zw16.1 hc with hc | hc
     ·exact vb_mem _ c hc
     ·rcases zw16.1 hc with hc | hc
      ·exact vb_mem _ c hc
      ·exact vb_mem _ c hc
  ·exact encV_small evs x.tick (fun y hy=>hf y (by simp[hy])) c hc
theorem putL_small {n:Int} {evs:List Ev} {L:List Nat} (hf:∀x∈evs,x.fits) (h:putL n evs=some L):∀c∈L,c<256:=by
 unfold putL at h
 split at h
 ·cases h
  intro c hc;rcases zw16.1 hc with hc | hc
  ·exact vb_mem _ c hc
  ·exact encV_small evs 0 hf c hc
 ·cases h
theorem putL_len {n:Int} {evs:List Ev} {L:List Nat} (hf:∀x∈evs,x.fits) (hl:evs.length≤1000) (h:putL n evs=some L):L.length≤100000:=by
 have hv:∀(es:List En) (last:Nat),(∀e∈es,e.fits∧e.tick≤4096)→(encs last es).length≤43*es.length:=by
  intro es
  induction es with
  | nil=>intro _ _;simp[encs]
  | cons e es ih=>
   intro last hfe;have h1:=ih e.tick (fun x hx=>hfe x (by simp[hx]));obtain⟨⟨_,_,_,a,b,c⟩,d⟩:=hfe e (by simp);rw[encs,zw0,enc1_len,zw3];have:=vb_ten (n:=e.tick-last) (by omega);have:=vb_ten (n:=e.unit) (by omega);have:=vb_ten (n:=e.tile) (by omega);have:=vb_ten (n:=e.target) (by omega);omega
 have h0:=h;unfold putL at h
 split at h
 ·rename_i hq
  obtain⟨h1,h2,h3⟩:=hq;cases h
  obtain⟨nn,rfl⟩:∃nn:Nat,n=(nn:Int):=⟨n.toNat,by omega⟩;obtain⟨es,rfl⟩:=pacedB_en _ evs 0 0 h3;have hp:=(pacedB_map nn es 0 0).1 h3;have he:encV 0 (es.map En.ev)=encs 0 es:=encV_map es 0;rw[he,zw0];rw[zw4]at hl ⊢;have hb:∀(es:List En) (last each:Nat),paced nn last each es→∀e∈es,e.tick<nn:=by
   intro es
   induction es with
   | nil=>intro _ _ _ e he;cases he
   | cons x es ih=>
    intro last each hp e he;obtain⟨p1,p2,p3,p4⟩:=hp;rcases zw30.1 he with rfl | he
    ·exact p2
    ·exact ih _ _ p4 e he
  have h5:=hv es 0 (fun e he=>⟨En.fits_of (hf _ (List.mem_map_of_mem he)),by have:=hb es 0 0 hp e he;omega⟩);have:=vb_ten (n:=es.length) (by omega);omega
 ·cases h
theorem hmxL:Tryz.prog.follows .mixedOrders=true:=by kernel_rfl
def SE (w:World):World→Prop:=fun w'=>Ext w w'
def VRel (w:World) (evs:List Ev) (gh:Nat) (ov iv:Value) (wr:World):Prop:=
  ∃(k:Nat),k+gh=evs.length∧iv= .int .i64 (k:Int)∧OwnR w.heap.size wr 104 7 cV ov (evs.take k)∧Ext w wr
theorem of_law (A : Option Addr) (m c : Nat) (evs : List Ev) (w : World) (hB : RowR w A m 7 cV evs) (hm : m ≤ 2000000) :
    Calls Tryz.prog 23 #[.slice A m c] w fun e w'=>∃v,e= .returned v∧OwnR w.heap.size w' 104 7 cV v evs∧Ext w w':=by
  have HB:=zh hB;have HLEN:=zh hB.1;clear hB;go_enter Tryz.func23,Tryz.ntmps23;go_wp2_with fail
  go_loopg [3,4] m (fun gh ov iv wr=>VRel w evs gh ov iv wr)
  case atStart=>exact⟨0,by rw[HLEN.out];omega,rfl,by simpa using OwnR.nil _ _ _ _ _,zxr _⟩
  case round=>
    obtain⟨k,hk,rfl,hO,hE⟩:=hrel;obtain⟨wi,rfl⟩:∃wi:World,wi=wr:=⟨_,rfl⟩;obtain⟨vi,rfl⟩:∃vi:Value,vi=u3:=⟨_,rfl⟩;obtain⟨gh,rfl⟩:∃gh:Nat,gh=gk:=⟨_,rfl⟩;have HO:=zh hO;have HE:=zh hE;have hkm:k+gh=m:=by rw[hk,HLEN.out]
    clear hO hE hk;have y1:(0:Int)≤(k:Int):=by omega
    by_cases hlt:k<m
    · have hke:k<evs.length:=by rw[HLEN.out];exact hlt
      obtain⟨b,o,rfl,hbw,hc⟩:=HB.out.2 (by omega);have hcx:=hc k hke;have htk:evs.take (k+1)=evs.take k++[evs[k]]:=(zw36 hke).symm;obtain⟨x,hx⟩:∃x,x=evs[k]:=⟨_,rfl⟩;rw[←hx]at hcx htk;have HTK:=zh htk;obtain⟨x0,x1,x2,x3,x4,x5,x6⟩:=x;have HCC:Hid (∀w',SE w w'→w'.cell? ⟨b,o+k*7,none⟩=some (.int .i64 x0)∧w'.cell? ⟨b,o+k*7+1,none⟩=some (.int .u8 (x1:Int))∧w'.cell? ⟨b,o+k*7+2,none⟩=some (.int .u8 (x2:Int))∧w'.cell? ⟨b,o+k*7+3,none⟩=some (.int .u16 (x3:Int))∧w'.cell? ⟨b,o+k*7+4,none⟩=some (.int .u16 (x4:Int))∧w'.cell? ⟨b,o+k*7+5,none⟩=some (.int .u16 (x5:Int))∧w'.cell? ⟨b,o+k*7+6,none⟩=some (.int .u8 (x6:Int))):=zh (fun w' e=>
        ⟨(Below.cell e (p:=⟨b,o+k*7+0,none⟩) hbw).trans (hcx 0 (by omega)),(Below.cell e (p:=⟨b,o+k*7+1,none⟩) hbw).trans (hcx 1 (by omega)),(Below.cell e (p:=⟨b,o+k*7+2,none⟩) hbw).trans (hcx 2 (by omega)),(Below.cell e (p:=⟨b,o+k*7+3,none⟩) hbw).trans (hcx 3 (by omega)),(Below.cell e (p:=⟨b,o+k*7+4,none⟩) hbw).trans (hcx 4 (by omega)),(Below.cell e (p:=⟨b,o+k*7+5,none⟩) hbw).trans (hcx 5 (by omega)),(Below.cell e (p:=⟨b,o+k*7+6,none⟩) hbw).trans (hcx 6 (by omega))⟩)
      have y2:(k:Int)<(m:Int):=by omega
      clear hc hcx hx hke htk;go_upto_region 5 with fail;have HX:=zh (show SE w wi.drew from zxd HE.out);have HOA:=zh (HO.out.ext (zxd (zxr wi)));have HDL:Hid ((evs.take k).length≤100000000):=zh (by rw[zw2];omega);refine zw38 (S:=SE w) hmxL HX.out (fun _=>?_);generalize wi.drew=WA at*;clear HO HE
      iterate 12
       refine zqT (v:=?_) HX.out rfl ?_ ?_;rotate_left
       · intro w' hSw;obtain⟨c0,c1,c2,c3,c4,c5,c6⟩:=HCC.out w' hSw;go_simp;try with_reducible rfl
       (try simp only[Act.put,zzA,zzB,zzC])
      refine zqO (i:=12) (by kernel_rfl) rfl fun K hK=>?_;go_simp;have HX:=zh (show SE w (WA.alloc (.cells (cV ⟨x0,x1,x2,x3,x4,x5,x6⟩).toArray 104))from zxa HX.out _);refine hK.out _ _ HX.out fun _=>?_;clear hK K
      (try simp only[Act.put,zzA,zzB,zzC])
      refine zqO (i:=13) (by kernel_rfl) rfl fun K hK=>?_;have HSRC:=zh (src_rec (P:=Tryz.prog) (e':=104) Tryz.underlying35 WA (cV ⟨x0,x1,x2,x3,x4,x5,x6⟩) rfl (by intro u hu;simp[cV]at hu;rcases hu with rfl | rfl | rfl | rfl | rfl | rfl | rfl<;>rfl) 1)
      obtain⟨v3,w3,hrun,hO3,hG3⟩:=run_rec (P:=Tryz.prog) (base:=w.heap.size) 35 104 35 7 24 _ cV Tryz.underlying35 infoE rfl (by decide) vi _ (evs.take k) ⟨x0,x1,x2,x3,x4,x5,x6⟩ (HOA.out.ext (zxa (zxr WA) (.cells (cV ⟨x0,x1,x2,x3,x4,x5,x6⟩).toArray 104))) HX.out.size HSRC.out HDL.out;have HRUN:=zh hrun;have HO3:=zh hO3;have HX:=zh (show SE w w3 from ext_grown HX.out hG3 (fun q e=>(zw23 HOA.out q e).1));clear hrun hO3 hG3;refine wanted_append rfl (.tmp 11) (.tmp 23) 35 35 rfl vi _ rfl rfl HRUN.out ?_;refine hK.out _ _ HX.out fun _=>?_;clear hK K
      (try simp only[Act.put,zzA,zzB,zzC])
      (refine zqT (v:=?_) HX.out rfl ?_ ?_);rotate_left
      · intro w' hSw;obtain⟨c0,c1,c2,c3,c4,c5,c6⟩:=HCC.out w' hSw;go_simp;try with_reducible rfl
      (try simp only[Act.put,zzA,zzB,zzC])
      refine zw39 (by kernel_rfl) ?_ _;go_wp2_with fail
      go_roundg (gh-1)
      case measure=>omega
      case rel=>
        refine⟨k+1,by rw[HLEN.out];omega,by go_num,by rw[HTK.out];exact HO3.out,HX.out⟩
    · obtain rfl:gh=0:=by omega
      obtain rfl:k=m:=by omega
      have y2:¬(k:Int)<(k:Int):=by omega
      go_wp2_with fail;go_ret;exact⟨_,rfl,by have:=HO.out;rwa [List.take_of_length_le (by rw[HLEN.out];omega)]at this,HE.out⟩
open Grid (okm)
theorem hE1o {a b c:World} (h:Ext a b) (k:Ext b c):Ext a c:=zxt h k
theorem header_st (x:Hv) (A:Option Addr) (m c:Nat) (w:World) (hB:RowR w A m 3 cS x.starts) (hf:∀u∈x.starts,u.fits) (hs:x.tiles.size≤5000) (hm:m≤1000000) (hsd:x.seed<4294967296)
  (hw1: -9223372036854775808≤x.w) (hw2:x.w≤9223372036854775807) (hh1: -9223372036854775808≤x.h) (hh2:x.h≤9223372036854775807):
  Calls Tryz.prog 25 #[.agg (cH x (.slice A m c))] w (HdPost w x):=by
 have HMY:=zh (fun(w':World) (e:Ext w w')=>may_st x A m c w' (hB.ext e) hf hs hm hw1 hw2 hh1 hh2);have HB:=zh hB;have HLEN:=zh hB.1;have HE0:=zh (zxa (zxr w) (.cells (cH x (.slice A m c)) 25));have HFI:=zh (fun u hu=>(hf u hu).1);clear hB hf hw1 hw2 hh1 hh2;by_cases hmay:mayH x
 ·have HMAY:=zh hmay
  rw[zw15 hmay]at HMY;obtain⟨⟨o1,o2,o3,o4,o5,o6⟩,p1,p4,p8,hmb⟩:=hmay;have HTI:=zh (mayB_tiles _ _ _ _ hmb);have HHD:Hid (encH x.hd=vb x.w.toNat++(vb x.h.toNat++(vb x.players.toNat++(fx x.seed++(vb (natsOf x.tiles).length++(natsOf x.tiles++(vb (x.starts.map Sv.st).length++encS (x.starts.map Sv.st)))))))):=zh rfl;obtain⟨xw,xh,xp,xs,xt,us⟩:=x;simp only at*;obtain⟨W,rfl⟩:∃W:Nat,xw=(W:Int):=⟨xw.toNat,by omega⟩;obtain⟨H,rfl⟩:∃H:Nat,xh=(H:Int):=⟨xh.toNat,by omega⟩;obtain⟨p,rfl⟩:∃p:Nat,xp=(p:Int):=⟨xp.toNat,by omega⟩;simp only[zw35]at HHD;rw[natsOf_len,zw4,HLEN.out]at HHD;have g1:W<1000000:=by omega
  have g2:H<1000000:=by omega
  have g3:p<1000000:=by omega
  have g4:m≤128:=by have:=HLEN.out;omega
  clear o1 o2 o3 o4 o5 o6 p1 p4 p8 hmb;unfold cH at HMY HE0 ⊢;simp only at HMY HE0 ⊢;have HH0:=zh (Blk.new w 25 #[.int .i64 (W:Int),.int .i64 (H:Int),.int .i64 (p:Int),.int .u32 (xs:Int),.string xt,.slice A m c]);go_enter Tryz.func25,Tryz.ntmps25;go_wp2_with fail;refine(HMY.out _ HE0.out).mono ?_;rintro e w1 ⟨rfl,hE1⟩;have HH1:=zh (HH0.out.ext hE1);have HE1:=zh (zxt HE0.out hE1);have h1c:=fun i=>HH1.out.cell i;have hl1:w.heap.size<w1.heap.size:=HH1.out.lt;clear hE1 HMY HE0 HH0;have HI0:=zh (Blk.new w1 3 #[.int .i64 (W:Int),.int .i64 (H:Int),.int .i64 (p:Int)]);have HR0:Hid (NRel w1 [] [W,H,p] w1.heap.size #[.int .i64 (W:Int),.int .i64 (H:Int),.int .i64 (p:Int)] 3 (.slice none 0 0) (.int .i64 ((0:Nat):Int)) (w1.alloc (.cells #[.int .i64 (W:Int),.int .i64 (H:Int),.int .i64 (p:Int)] 3))):=
   zh ⟨0,rfl,rfl,OwnB.nil _ _,HI0.out,(by intro h;cases h),zxa (zxr _) _⟩
  go_upto_region 5 with fail
  go_loopg [4,22] 3 (fun gh bv iv wr=>NRel w1 [] [W,H,p] w1.heap.size #[.int .i64 (W:Int),.int .i64 (H:Int),.int .i64 (p:Int)] gh bv iv wr)
  case atStart=>exact HR0.out
  case round=>
   obtain⟨k,hk,rfl,hO,hI,hF,hE⟩:=hrel;obtain⟨wi,rfl⟩:∃wi:World,wi=wr:=⟨_,rfl⟩;obtain⟨vi,rfl⟩:∃vi:Value,vi=u4:=⟨_,rfl⟩;obtain⟨gh,rfl⟩:∃gh:Nat,gh=gk:=⟨_,rfl⟩;have HO:=zh hO;have HI:=zh hI;have HF:=zh hF;have HE:=zh hE;clear hO hI hF hE HR0 HI0 h1c;have i1:(0:Int)≤(k:Int):=by omega
   by_cases hl3:k<3
   ·obtain⟨y,hy1,hy2,hy3⟩:=ints3 W H p g1 g2 g3 k hl3
    have HY3:=zh hy3;have cy:=HI.out.cell k;rw[hy2]at cy;have i2:(k:Int)<3:=by omega
    have HPY:=zh (fun w'=>put_nil y (by omega) w');clear hy2 hy3;go_wp2_with fail;refine(HPY.out wi).mono ?_;rintro e w8 ⟨v8,rfl,hsrc8,hO8',hE8⟩;have HSRC:=zh hsrc8;have HO8:=zh (HO.out.ext hE8);have HI8:=zh (HI.out.ext hE8);have HE8:=zh (zxt HE.out hE8);clear hsrc8 hO8' hE8 cy;have HLZ:Hid ((([]:List Nat)++([W,H,p].take k).flatMap vb).length+(vb y).length≤140737488355328):=zh (by
     have q2:=vb_ten (n:=y) (by omega);have q3:=flat3i_len W H p g1 g2 g3 k;simp only[zw0,zw26];omega)
    go_wp2_with (at_builtin;refine wpList_b rfl (.tmp 26) (.tmp 29) 48 rfl vi v8 ([]++([W,H,p].take k).flatMap vb) (vb y) rfl rfl HO8.out HE8.out.size HSRC.out HLZ.out ?_;intro vC wC hOC hGC;have HOC:=zh hOC;have HGC:=zh hGC;clear hOC hGC)
    go_roundg (gh-1)
    case measure=>omega
    case rel=>
     refine⟨k+1,by omega,by go_num,?_,HGC.out.blk HF.out HI8.out,HGC.out.off HF.out HI8.out.lt,HGC.out.ext HE8.out HO8.out (zw8 _)⟩;rw[HY3.out,←zw7];exact HOC.out
   ·obtain rfl:k=3:=by omega
    have i2:¬((3:Nat):Int)<3:=by omega
    have hH:=HH1.out.ext HE.out;have hHc:=fun i=>hH.cell i;have hZ:([]:List Nat)++([W,H,p].take 3).flatMap vb=vb W++(vb H++vb p):=by simp
    rw[hZ]at HO;clear hZ hH HI HF;have HPF:=zh (fun w'=>put_fixed_nil xs hsd w');have HPT:=zh (fun w'=>put_text_nil xt (by omega) w');have HPM:=zh (fun w'=>put_nil m (by omega) w');have l1:=vb_ten (n:=W) (by omega);have l2:=vb_ten (n:=H) (by omega);have l3:=vb_ten (n:=p) (by omega);have l4:=vb_ten (n:=xt.size) (by omega);have l5:=vb_ten (n:=m) (by omega);have l6:(fx xs).length=4:=rfl;have l7:=natsOf_len xt;have HL:=zh (And.intro l1 (And.intro l2 (And.intro l3 (And.intro l4 (And.intro l5 (And.intro l6 l7))))));clear l1 l2 l3 l4 l5 l6 l7;go_wp2_with fail;refine(HPF.out wi).mono ?_;rintro e w2 ⟨v2,rfl,hsrc,hE2⟩;have HSRC:=zh hsrc;have HO2:=zh (HO.out.ext hE2);have HE2:=zh (zxt HE.out hE2);have HLZ:Hid ((vb W++(vb H++vb p)).length+(fx xs).length≤140737488355328):=zh (by
     obtain⟨l1,l2,l3,l4,l5,l6,l7⟩:=HL.out;simp only[zw0];omega)
    clear hsrc hE2 hHc HO HE;go_upto_region 10 with (at_builtin;refine wpList_b rfl (.tmp 32) (.tmp 35) 48 rfl vi v2 (vb W++(vb H++vb p)) (fx xs) rfl rfl HO2.out HE2.out.size HSRC.out HLZ.out ?_;intro v3 w3 hO3 hG3;have HO3:=zh hO3;have HG3:=zh hG3;clear hO3 hG3)
    have HE3:=zh (HG3.out.ext HE2.out HO2.out (zw8 _));have hH:=HH1.out.ext HE3.out;have hHc:=fun i=>hH.cell i;clear hH HSRC HO2 HE2 HLZ HG3;go_wp2_with fail;refine(HPT.out w3).mono ?_;rintro e w4 ⟨v4,rfl,hsrc,hE4⟩;have HSRC:=zh hsrc;have HO4:=zh (HO3.out.ext hE4);have HE4:=zh (zxt HE3.out hE4);have HLZ:Hid ((vb W++(vb H++vb p)++fx xs).length+(vb xt.size++natsOf xt).length≤140737488355328):=zh (by
     obtain⟨l1,l2,l3,l4,l5,l6,l7⟩:=HL.out;simp only[zw0];omega)
    clear hsrc hE4 hHc HO3 HE3;go_upto_region 11 with (at_builtin;refine wpList_b rfl (.tmp 37) (.tmp 40) 48 rfl v3 v4 (vb W++(vb H++vb p)++fx xs) (vb xt.size++natsOf xt) rfl rfl HO4.out HE4.out.size HSRC.out HLZ.out ?_;intro v5 w5 hO5 hG5;have HO5:=zh hO5;have HG5:=zh hG5;clear hO5 hG5)
    have HE5:=zh (HG5.out.ext HE4.out HO4.out (zw8 _));have hH:=HH1.out.ext HE5.out;have hHc:=fun i=>hH.cell i;clear hH HSRC HO4 HE4 HLZ HG5;go_wp2_with fail;refine(HPM.out w5).mono ?_;rintro e w6 ⟨v6,rfl,hsrc,_,hE6⟩;have HSRC:=zh hsrc;have HO6:=zh (HO5.out.ext hE6);have HE6:=zh (zxt HE5.out hE6);have HLZ:Hid ((vb W++(vb H++vb p)++fx xs++(vb xt.size++natsOf xt)).length+(vb m).length≤140737488355328):=zh (by
     obtain⟨l1,l2,l3,l4,l5,l6,l7⟩:=HL.out;simp only[zw0];omega)
    clear hsrc hE6 hHc HO5 HE5;go_upto_region 12 with (at_builtin;refine wpList_b rfl (.tmp 42) (.tmp 47) 48 rfl v5 v6 (vb W++(vb H++vb p)++fx xs++(vb xt.size++natsOf xt)) (vb m) rfl rfl HO6.out HE6.out.size HSRC.out HLZ.out ?_;intro v7 w7 hO7 hG7;have HO7:=zh hO7;have HG7:=zh hG7;clear hO7 hG7)
    have HE7:=zh (HG7.out.ext HE6.out HO6.out (zw8 _));have hH:=HH1.out.ext HE7.out;have hHc:=fun i=>hH.cell i;have HUR:Hid (URel w1 (us.map Sv.st) (encH (Hv.hd ⟨(W:Int),(H:Int),(p:Int),xs,xt,us⟩)) m v7 (.int .i64 ((0:Nat):Int)) w7):=zh<| by
     refine⟨0,_,by rw[zw4,HLEN.out];omega,rfl,HO7.out,?_,HE7.out,?_⟩
     ·obtain⟨l1,l2,l3,l4,l5,l6,l7⟩:=HL.out
      simp only[zw0];omega
     ·rw[HHD.out];simp only[zw7,zw28]
    clear hH HSRC HO6 HE6 HLZ HG7;obtain⟨T,hT⟩:∃T,T=encH (Hv.hd ⟨(W:Int),(H:Int),(p:Int),xs,xt,us⟩):=⟨_,rfl⟩;rw[←hT]at HUR;have HT:=zh hT;clear hT HHD HL;go_wp2_with fail
    go_loopg [4,52] m (fun gh bv iv wr=>URel w1 (us.map Sv.st) T gh bv iv wr)
    case atStart=>exact HUR.out
    case round=>
     obtain⟨k,zs,hk,rfl,hO,hzl,hE,hTT⟩:=hrel;obtain⟨wo,rfl⟩:∃wo:World,wo=wr:=⟨_,rfl⟩;obtain⟨vo,rfl⟩:∃vo:Value,vo=u4:=⟨_,rfl⟩;obtain⟨gh,rfl⟩:∃gh:Nat,gh=gk:=⟨_,rfl⟩;have hkm:k+gh=m:=by rw[hk,zw4,HLEN.out]
     have HO:=zh hO;have HE:=zh hE;have HTT:=zh hTT;clear hO hE hTT HUR HO7 HE7 hHc hk;have y1:(0:Int)≤(k:Int):=by omega
     by_cases hlt:k<m
     ·have hke:k<us.length:=by rw[HLEN.out];exact hlt
      obtain⟨b,o,rfl,hbw,hc⟩:=HB.out.2 (by omega);have hti:=HTI.out us[k] (zw25 hke);have hcx:=hc k hke;have hd:(us.map Sv.st).drop k=Sv.st us[k]::(us.map Sv.st).drop (k+1):=by
       rw[zw20 (by rw[zw4];exact hke),List.getElem_map]
      obtain⟨u,hu⟩:∃u,u=us[k]:=⟨_,rfl⟩;rw[←hu]at hd hti hcx;obtain⟨u1,u2,u3⟩:=u;obtain⟨t1,t2,t3⟩:=hti;simp only at t1 t2 t3;obtain⟨t,rfl⟩:∃t:Nat,u3=(t:Int):=⟨u3.toNat,by omega⟩;rw[zw35]at t2;have hu1:=HFI.out us[k] (zw25 hke);rw[←hu]at hu1;simp only at hu1;have e1:=hE1o HE1.out HE.out;have c0:=(e1.cell (p:=⟨b,o+k*3+0,none⟩) hbw).trans (hcx 0 (by omega));have c1:=(e1.cell (p:=⟨b,o+k*3+1,none⟩) hbw).trans (hcx 1 (by omega));have c2:=(e1.cell (p:=⟨b,o+k*3+2,none⟩) hbw).trans (hcx 2 (by omega));simp only[cS,Nat.add_zero,List.getElem?_cons_zero,List.getElem?_cons_succ]at c0 c1 c2;have HTT2:Hid (T=(zs++(vb u1++(vb u2++vb t)))++encS ((us.map Sv.st).drop (k+1))):=zh (by
       rw[HTT.out,hd,encS];simp only[Sv.st,zw35,zw7])
      clear hc hcx hu hd hke e1 HTT;have y2:(k:Int)<(m:Int):=by omega
      have k1:u1<1000000:=by omega
      have k2:u2<1000000:=by omega
      have k3:t<1000000:=by omega
      have HEA:=zh (zxa (zxa (zxr wo) (.cells #[.int .u8 (u1:Int),.int .u8 (u2:Int),.int .i64 (t:Int)] 99)) (.cells #[.int .i64 (u1:Int),.int .i64 (u2:Int),.int .i64 (t:Int)] 3));have HI0:=zh (Blk.new1 wo (.cells #[.int .u8 (u1:Int),.int .u8 (u2:Int),.int .i64 (t:Int)] 99) 3 #[.int .i64 (u1:Int),.int .i64 (u2:Int),.int .i64 (t:Int)]);have HNR:Hid (NRel w1 zs [u1,u2,t] (wo.heap.size+1) #[.int .i64 (u1:Int),.int .i64 (u2:Int),.int .i64 (t:Int)] 3 vo (.int .i64 ((0:Nat):Int)) ((wo.alloc (.cells #[.int .u8 (u1:Int),.int .u8 (u2:Int),.int .i64 (t:Int)] 99)).alloc (.cells #[.int .i64 (u1:Int),.int .i64 (u2:Int),.int .i64 (t:Int)] 3))):=
       zh ⟨0,rfl,rfl,by simpa using HO.out.ext HEA.out,HI0.out,off_new HO.out (.inl (by omega)),zxt HE.out HEA.out⟩
      go_wp2_with fail
      go_loopg [4,66] 3 (fun gh bv iv wr=>NRel w1 zs [u1,u2,t] (wo.heap.size+1) #[.int .i64 (u1:Int),.int .i64 (u2:Int),.int .i64 (t:Int)] gh bv iv wr)
      case atStart=>exact HNR.out
      case round=>
       obtain⟨q,hq,rfl,hO,hI,hF,hE⟩:=hrel;obtain⟨wj,rfl⟩:∃wj:World,wj=wr:=⟨_,rfl⟩;obtain⟨vj,rfl⟩:∃vj:Value,vj=u4:=⟨_,rfl⟩;obtain⟨gh2,rfl⟩:∃gh:Nat,gh=gk:=⟨_,rfl⟩;have HOJ:=zh hO;have HI:=zh hI;have HF:=zh hF;have HEJ:=zh hE;clear hO hI hF hE HNR HI0 HEA HO c0 c1 c2;have i1:(0:Int)≤(q:Int):=by omega
       by_cases hl3:q<3
       ·obtain⟨y,hy1,hy2,hy3⟩:=ints3 u1 u2 t k1 k2 k3 q hl3
        have HY3:=zh hy3;have cy:=HI.out.cell q;rw[hy2]at cy;have i2:(q:Int)<3:=by omega
        have HPY:=zh (fun w'=>put_nil y (by omega) w');clear hy2 hy3;go_wp2_with fail;refine(HPY.out wj).mono ?_;rintro e w8 ⟨v8,rfl,hsrc8,hO8',hE8⟩;have HSRC:=zh hsrc8;have HO8:=zh (HOJ.out.ext hE8);have HI8:=zh (HI.out.ext hE8);have HE8:=zh (zxt HEJ.out hE8);clear hsrc8 hO8' hE8 cy;have HLZ:Hid ((zs++([u1,u2,t].take q).flatMap vb).length+(vb y).length≤140737488355328):=zh (by
         have q2:=vb_ten (n:=y) (by omega);have q3:=flat3i_len u1 u2 t k1 k2 k3 q;simp only[zw0];omega)
        go_wp2_with (at_builtin;refine wpList_b rfl (.tmp 70) (.tmp 73) 48 rfl vj v8 (zs++([u1,u2,t].take q).flatMap vb) (vb y) rfl rfl HO8.out HE8.out.size HSRC.out HLZ.out ?_;intro vC wC hOC hGC;have HOC:=zh hOC;have HGC:=zh hGC;clear hOC hGC)
        go_roundg (gh2-1)
        case measure=>omega
        case rel=>
         refine⟨q+1,by omega,by go_num,?_,HGC.out.blk HF.out HI8.out,HGC.out.off HF.out HI8.out.lt,HGC.out.ext HE8.out HO8.out (zw8 _)⟩;rw[HY3.out,←zw7];exact HOC.out
       ·obtain rfl:q=3:=by omega
        have i2:¬((3:Nat):Int)<3:=by omega
        have hZ:zs++([u1,u2,t].take 3).flatMap vb=zs++(vb u1++(vb u2++vb t)):=by simp
        rw[hZ]at HOJ;clear hZ;go_wp2_with fail
        go_roundg (gh-1)
        case measure=>omega
        case rel=>
         have q1:=vb_ten (n:=u1) (by omega);have q2:=vb_ten (n:=u2) (by omega);have q3:=vb_ten (n:=t) (by omega);refine⟨k+1,_,by rw[zw4,HLEN.out];omega,by go_num,HOJ.out,?_,HEJ.out,HTT2.out⟩;simp only[zw0];omega
     ·obtain rfl:gh=0:=by omega
      obtain rfl:k=m:=by omega
      have HZ:Hid (encH (Hv.hd ⟨(W:Int),(H:Int),(p:Int),xs,xt,us⟩)=zs):=zh (by
       rw[←HT.out,HTT.out,zw21 (by rw[zw4,HLEN.out];omega),encS,zw18])
      have y2:¬(k:Int)<(k:Int):=by omega
      go_wp2_with fail
      go_ret2
      exact hd_ok HMAY.out (zxt HE1.out HE.out) HO.out HZ.out (by omega)
 ·rw[zw14 hmay]at HMY
  have HNM:=zh hmay;clear hmay;obtain⟨xw,xh,xp,xs,xt,us⟩:=x;unfold cH at HMY HE0 ⊢;simp only at*;go_enter Tryz.func25,Tryz.ntmps25;go_wp2_with fail;refine(HMY.out _ HE0.out).mono ?_;rintro e w1 ⟨rfl,hE1⟩;have HE1:=zh (zxt HE0.out hE1);clear hE1;go_wp2_with fail
  go_ret2
  exact hd_bad HNM.out HE1.out
open Go.ChangeShapes Go.WideShapes Go.ChangeAt Go.RowKit Go.Deep
theorem cellsS:Tryz.prog.cellsOf 99=3:=by kernel_rfl
theorem cellsE:Tryz.prog.cellsOf 127=7:=by kernel_rfl
theorem cellsHd:Tryz.prog.cellsOf 25=6:=by kernel_rfl
theorem list2 {α:Type}:∀{l:List α},l.length=2→∃a b,l=[a,b]
 | [a,b],_=>⟨a,b,rfl⟩
theorem list3 {α:Type}:∀{l:List α},l.length=3→∃a b c,l=[a,b,c]
 | [a,b,c],_=>⟨a,b,c,rfl⟩
theorem list6 {α:Type}:∀{l:List α},l.length=6→∃a b c d e f,l=[a,b,c,d,e,f]
 | [a,b,c,d,e,f],_=>⟨a,b,c,d,e,f,rfl⟩
theorem list7 {α:Type}:∀{l:List α},l.length=7→∃a b c d e f g,l=[a,b,c,d,e,f,g]
 | [a,b,c,d,e,f,g],_=>⟨a,b,c,d,e,f,g,rfl⟩
section
variable {H : Type} {enc : TypeId × Value → H} {w : World} {base : Nat} {spare : Nat → Bool} {held : Bool}
theorem start_of {fuel:Nat} {cs:List Value} {x:DataW H × List MemPlace} (h:DataW.trod enc Tryz.prog w base spare held fuel 99 cs=some x) (hl:cs.length=3):∃y,cs=cS y∧y.fits:=by
 obtain⟨ys,n',hn',hy,hlen,hyl,hf⟩:=zw55 Tryz.underlying99 h;obtain⟨v0,v1,v2,rfl⟩:=list3 hl;obtain⟨y0,y1,y2,rfl⟩:=list3 (show ys.length=3 from hyl);obtain⟨n0,e0,_,w0⟩:=zw54 Tryz.underlying5 (hf 0 _ rfl);obtain⟨n1,e1,_,w1⟩:=zw54 Tryz.underlying5 (hf 1 _ rfl);obtain⟨n2,e2,_,w2⟩:=zw54 Tryz.underlying3 (hf 2 _ rfl);have g0:v0= .int .u8 n0:=(List.cons.inj e0).1;have g1:v1= .int .u8 n1:=(List.cons.inj e1).1;have g2:v2= .int .i64 n2:=(List.cons.inj e2).1;obtain⟨m0,rfl,b0⟩:=nat_u8 (bounds_u8 w0);obtain⟨m1,rfl,b1⟩:=nat_u8 (bounds_u8 w1);have b2:=bounds_i64 w2;subst g0 g1 g2;exact⟨⟨m0,m1,n2⟩,rfl,b0,b1,b2.1,b2.2⟩
theorem entry_of {fuel:Nat} {cs:List Value} {x:DataW H × List MemPlace} (h:DataW.trod enc Tryz.prog w base spare held fuel 127 cs=some x) (hl:cs.length=7):∃y,cs=cV y∧y.fits:=by
 obtain⟨ys,n',hn',hy,hlen,hyl,hf⟩:=zw55 Tryz.underlying127 h;obtain⟨v0,v1,v2,v3,v4,v5,v6,rfl⟩:=list7 hl;obtain⟨y0,y1,rfl⟩:=list2 (show ys.length=2 from hyl);obtain⟨n0,e0,_,w0⟩:=zw54 Tryz.underlying3 (hf 0 _ rfl);obtain⟨zs,n2,hn2,hy2,hlen2,hyl2,hf2⟩:=zw55 Tryz.underlying102 (hf 1 _ rfl);obtain⟨z0,z1,z2,z3,z4,z5,rfl⟩:=list6 (show zs.length=6 from hyl2);obtain⟨n1,e1,_,w1⟩:=zw54 Tryz.underlying5 (hf2 0 _ rfl);obtain⟨n2,e2,_,w2⟩:=zw54 Tryz.underlying5 (hf2 1 _ rfl);obtain⟨n3,e3,_,w3⟩:=zw54 Tryz.underlying60 (hf2 2 _ rfl);obtain⟨n4,e4,_,w4⟩:=zw54 Tryz.underlying60 (hf2 3 _ rfl);obtain⟨n5,e5,_,w5⟩:=zw54 Tryz.underlying60 (hf2 4 _ rfl);obtain⟨n6,e6,_,w6⟩:=zw54 Tryz.underlying5 (hf2 5 _ rfl);have g0:v0= .int .i64 n0:=(List.cons.inj e0).1;have g1:v1= .int .u8 n1:=(List.cons.inj e1).1;have g2:v2= .int .u8 n2:=(List.cons.inj e2).1;have g3:v3= .int .u16 n3:=(List.cons.inj e3).1;have g4:v4= .int .u16 n4:=(List.cons.inj e4).1;have g5:v5= .int .u16 n5:=(List.cons.inj e5).1;have g6:v6= .int .u8 n6:=(List.cons.inj e6).1;obtain⟨m1,rfl,b1⟩:=nat_u8 (bounds_u8 w1);obtain⟨m2,rfl,b2⟩:=nat_u8 (bounds_u8 w2);obtain⟨m3,rfl,b3⟩:=nat_u16 (bounds_u16 w3);obtain⟨m4,rfl,b4⟩:=nat_u16 (bounds_u16 w4);obtain⟨m5,rfl,b5⟩:=nat_u16 (bounds_u16 w5);obtain⟨m6,rfl,b6⟩:=nat_u8 (bounds_u8 w6);subst g0 g1 g2 g3 g4 g5 g6;exact⟨⟨n0,m1,m2,m3,m4,m5,m6⟩,rfl,b1,b2,b3,b4,b5,b6⟩
def HdrIn (w:World) (cs:Array Value) (y:Hv) (a:Option Addr) (len cap:Nat):Prop:=
 cs=cH y (.slice a len cap)∧RowR w a len 3 cS y.starts∧(∀u∈y.starts,u.fits)∧y.seed<4294967296∧y.tiles.size≤9223372036854775807∧len≤9223372036854775807∧
  -9223372036854775808≤y.w∧y.w≤9223372036854775807∧ -9223372036854775808≤y.h∧y.h≤9223372036854775807
theorem hdr_of {fuel:Nat} {cs:Array Value} {x:DataW H × List MemPlace} (h:DataW.trod enc Tryz.prog w base spare held fuel 25 cs.toList=some x) (hs:cs.size=Tryz.prog.cellsOf 25):∃y a len cap,HdrIn w cs y a len cap:=by
 rw[cellsHd]at hs;obtain⟨ys,n',hn',hy,hlen,hyl,hf⟩:=zw55 Tryz.underlying25 h;obtain⟨v0,v1,v2,v3,v4,v5,hv⟩:=list6 (show cs.toList.length=6 by simpa using hs);obtain⟨y0,y1,y2,y3,y4,y5,rfl⟩:=list6 (show ys.length=6 from hyl);rw[hv]at hf;obtain⟨n0,e0,_,w0⟩:=zw54 Tryz.underlying3 (hf 0 _ rfl);obtain⟨n1,e1,_,w1⟩:=zw54 Tryz.underlying3 (hf 1 _ rfl);obtain⟨n2,e2,_,w2⟩:=zw54 Tryz.underlying3 (hf 2 _ rfl);obtain⟨n3,e3,_,w3⟩:=zw54 Tryz.underlying22 (hf 3 _ rfl);obtain⟨n4,e4,_,w4⟩:=DataW.trod_string Tryz.underlying9 (hf 4 _ rfl);have h5:DataW.trod enc Tryz.prog w base spare held n' 23 [v5]=some y5:=hf 5 _ rfl;have hsl:∃a len cap,v5= .slice a len cap:=by
  rcases open_slice Tryz.underlying23 h5 with ⟨hcs,_⟩ | ⟨ad,l,c,m,n,D,Pl,hcs,_⟩
  ·exact⟨_,_,_,(List.cons.inj hcs).1⟩
  ·exact⟨_,_,_,(List.cons.inj hcs).1⟩
 obtain⟨a,len,cap,rfl⟩:=hsl;obtain⟨ls,hr,hg,hm,hl⟩:=recs_of Tryz.underlying23 cellsS (by decide) cS_len (fun _ _ _ h hl=>start_of h hl) h5;have g0:v0= .int .i64 n0:=(List.cons.inj e0).1;have g1:v1= .int .i64 n1:=(List.cons.inj e1).1;have g2:v2= .int .i64 n2:=(List.cons.inj e2).1;have g3:v3= .int .u32 n3:=(List.cons.inj e3).1;have g4:v4= .string n4:=(List.cons.inj e4).1;obtain⟨m3,rfl,b3⟩:=nat_u32 (bounds_u32 w3);have b0:=bounds_i64 w0;have b1:=bounds_i64 w1;subst g0 g1 g2 g3 g4;unfold maxLen at hm w4;refine⟨⟨n0,n1,n2,m3,n4,ls⟩,a,len,cap,?_,hr,hg,b3,by show n4.size≤_;omega,by omega,b0.1,b0.2,b1.1,b1.2⟩;apply Array.ext';rw[hv];rfl
end
end Go.Proofs.YtidnboeihkeljaaGreatDoor.Log
