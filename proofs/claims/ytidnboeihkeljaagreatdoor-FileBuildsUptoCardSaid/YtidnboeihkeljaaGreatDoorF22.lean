
import Derived.Test.YtidnboeihkeljaaGreatDoorF21
set_option maxHeartbeats 16000000
set_option maxRecDepth 100000
set_option linter.all false
open Go.ChangeShapes Go.WideShapes Go.ChangeAt Go.RowKit
namespace Go.Proofs.YtidnboeihkeljaaGreatDoor.Log
open Wire
open Rec
def cC (x:Ev):List Value:=[.int .u8 (x.player:Int),.int .u8 (x.doing:Int),.int .u16 (x.unit:Int),.int .u16 (x.tile:Int),.int .u16 (x.target:Int),.int .u8 (x.kind:Int)]
def atL (tick:Int) (evs:List Ev):List Ev:=evs.filter (fun x=>decide (x.tick=tick))
theorem hd_hv {x:Hv} (h:mayH x):x.hd.hv=x:=by
 obtain⟨⟨o1,o2,o3,o4,_⟩,p1,p4,p8,hb⟩:=h;obtain⟨xw,xh,xp,xs,xt,us⟩:=x;simp only at*;unfold Hv.hd Hd.hv;simp only[Hv.mk.injEq,strOf_nats,List.map_map,true_and];refine⟨by omega,by omega,by omega,?_⟩;have ht:=mayB_tiles _ _ _ _ hb;have:us.map (St.sv ∘ Sv.st)=us.map id:=List.map_congr_left (fun u hu=>by
  obtain⟨u1,u2,u3⟩:=u;have:=(ht _ hu).1;simp only at this;simp only[Function.comp,Sv.st,St.sv,id]
  congr 1
  omega)
 rw[this,List.map_id]
theorem take_header {x:Hv} (h:mayH x) (hf:∀u∈x.starts,u.fits) (hs:x.seed<4294967296):thL (encH x.hd)=some x:=by
 have hv:=hd_hv h;have h0:=h;obtain⟨⟨o1,o2,o3,o4,o5,_⟩,p1,p4,p8,hb⟩:=h;have ht:=mayB_tiles _ _ _ _ hb;have hts:x.tiles.size≤4096:=by
  have:(x.tiles.size:Int)≤64*64:=by rw[o5];exact Int.mul_le_mul o2 o4 (by omega) (by omega)
  omega
 have hfit:x.hd.fits:=by
  refine⟨by show x.w.toNat≤_;omega,by show x.h.toNat≤_;omega,by show x.players.toNat≤_;omega,hs,by show(natsOf x.tiles).length≤4096;rw[natsOf_len];exact hts,by show(x.starts.map Sv.st).length<_;rw[zw4];omega,?_⟩;intro u hu;obtain⟨u',hu',rfl⟩:=List.mem_map.1 hu;have h1:=hf u' hu';have h2:=ht u' hu';exact⟨by show u'.owner<_;have:=h1.1;omega,by show u'.kind<_;have:=h1.2.1;omega,by show u'.tile.toNat≤_;omega⟩
 have:=pH_put hfit [];rw[zw18]at this;unfold thL;rw[this];simp only;have hg:goodS x.hd.starts:=by
  refine⟨fun u hu=>?_,by show(x.starts.map Sv.st).length≤128;rw[zw4];exact p8⟩;obtain⟨u',hu',rfl⟩:=List.mem_map.1 hu;have h1:=hf u' hu';exact⟨by show u'.owner≤255;have:=h1.1;omega,by show u'.kind≤255;have:=h1.2.1;omega⟩
 unfold thO;rw[hv,if_pos ⟨hg,h0⟩]
theorem encH_small (x:Hd) (hs:x.seed<4294967296) (ht:∀c∈x.tiles,c<256):∀c∈encH x,c<256:=by
 have hS:∀us:List St,∀c∈encS us,c<256:=by
  intro us
  induction us with
  | nil=>intro c hc;cases hc
  | cons u us ih=>
   intro c hc;rw[encS]at hc;simp only[zw16]at hc;rcases hc with hc | hc | hc | hc
   ·exact vb_mem _ c hc
   ·exact vb_mem _ c hc
   ·exact vb_mem _ c hc
   ·exact ih c hc
 intro c hc;unfold encH at hc;simp only[zw16]at hc;rcases hc with hc | hc | hc | hc | hc | hc | hc | hc
 ·exact vb_mem _ c hc
 ·exact vb_mem _ c hc
 ·exact vb_mem _ c hc
 ·exact fx_mem hs c hc
 ·exact vb_mem _ c hc
 ·exact ht c hc
 ·exact vb_mem _ c hc
 ·exact hS _ c hc
theorem encH_len (x:Hv) (h:mayH x) (hf:∀u∈x.starts,u.fits):(encH x.hd).length≤20000:=by
 obtain⟨⟨o1,o2,o3,o4,o5,_⟩,p1,p4,p8,hb⟩:=h;have ht:=mayB_tiles _ _ _ _ hb;have hts:x.tiles.size≤4096:=by
  have:(x.tiles.size:Int)≤64*64:=by rw[o5];exact Int.mul_le_mul o2 o4 (by omega) (by omega)
  omega
 have hS:∀us:List Sv,(∀u∈us,u.owner<256∧u.kind≤5∧u.tile.toNat<x.tiles.size)→(encS (us.map Sv.st)).length≤30*us.length:=by
  intro us
  induction us with
  | nil=>intro _;simp[encS]
  | cons u us ih=>
   intro hu;have h1:=ih (fun v hv=>hu v (by simp[hv]));obtain⟨a,b,d⟩:=hu u (by simp);rw[List.map_cons,encS];simp only[zw0,zw3,Sv.st];have:=vb_ten (n:=u.owner) (by omega);have:=vb_ten (n:=u.kind) (by omega);have:=vb_ten (n:=u.tile.toNat) (by omega);omega
 have h1:=hS x.starts (fun u hu=>⟨(hf u hu).1,(ht u hu).2.2,(ht u hu).2.1⟩);have q1:=vb_ten (n:=x.w.toNat) (by omega);have q2:=vb_ten (n:=x.h.toNat) (by omega);have q3:=vb_ten (n:=x.players.toNat) (by omega);have q4:=vb_ten (n:=x.tiles.size) (by omega);have q5:=vb_ten (n:=x.starts.length) (by omega);have q6:(fx x.seed).length=4:=rfl;show(vb x.w.toNat++(vb x.h.toNat++(vb x.players.toNat++(fx x.seed++(vb (natsOf x.tiles).length++(natsOf x.tiles++(vb (x.starts.map Sv.st).length++encS (x.starts.map Sv.st)))))))).length≤20000;simp only[zw0,natsOf_len,zw4];omega
def PRel (w:World) (B2 lb eb nb:Nat) (n:Int) (evs:List Ev) (T:Option (List Nat)) (gh:Nat) (bv lv iv:Value) (wr:World):Prop:=
 ∃(k:Nat) (last:Int) (each:Nat) (zs:List Nat),k+gh=evs.length∧iv= .int .i64 (k:Int)∧lv= .int .i64 last∧0≤last∧last≤4096∧each≤32∧OwnB B2 wr bv zs∧(∀c∈zs,c<256)∧zs.length≤50*k+10∧
  Boxes wr lb eb nb last each n∧B2≤wr.heap.size∧Ext w wr∧T=if pacedB n last each (evs.drop k)=true then some (zs++encV last (evs.drop k))else none
def WRel (w:World) (B2 lb eb nb:Nat) (n last:Int) (each:Nat) (zs ws:List Nat) (sb ab:Nat) (cs ds:Array Value) (gh:Nat) (bv iv:Value) (wr:World):Prop:=
 ∃(k:Nat),k+gh=3∧iv= .int .i64 (k:Int)∧OwnB B2 wr bv (zs++(ws.take k).flatMap vb)∧Blk wr sb 104 cs∧Blk wr ab 60 ds∧Off bv sb∧Off bv ab∧Boxes wr lb eb nb last each n∧B2≤wr.heap.size∧Ext w wr
theorem boxes_grew {w w':World} {v v':Value} {B2 lb eb nb:Nat} {last n:Int} {each:Nat} {zs:List Nat} (h:Boxes w lb eb nb last each n) (hg:Grew w w' v v') (hO:OwnB B2 w v zs) (h1:lb<B2) (h2:eb<B2) (h3:nb<B2):Boxes w' lb eb nb last each n:=
 ⟨hg.blk (off_new hO (.inr h1)) h.1,hg.blk (off_new hO (.inr h2)) h.2.1,hg.blk (off_new hO (.inr h3)) h.2.2.1,h.2.2.2⟩
theorem words3 (x3 x4 x5:Nat) (f3:x3<65536) (f4:x4<65536) (f5:x5<65536):∀k,k<3→∃y,y<65536∧(#[Value.int .u16 (x3:Int),.int .u16 (x4:Int),.int .u16 (x5:Int)])[k]? =some (.int .u16 (y:Int))∧([x3,x4,x5].take (k+1)).flatMap vb=([x3,x4,x5].take k).flatMap vb++vb y
 | 0,_=>⟨x3,f3,rfl,by simp⟩
 | 1,_=>⟨x4,f4,rfl,by simp⟩
 | 2,_=>⟨x5,f5,rfl,by simp⟩
 | k+3,h=>absurd h (by omega)
theorem flat3_len (x3 x4 x5:Nat) (f3:x3<65536) (f4:x4<65536) (f5:x5<65536):∀k,(([x3,x4,x5].take k).flatMap vb).length≤30:=by
 intro k;have q1:=vb_ten (n:=x3) (by omega);have q2:=vb_ten (n:=x4) (by omega);have q3:=vb_ten (n:=x5) (by omega)
 match k with
 | 0=>simp
 | 1=>simp;omega
 | 2=>simp;omega
 | k+3=>simp;omega
theorem put_st (A:Option Addr) (m c:Nat) (evs:List Ev) (n:Int) (w:World) (hB:RowR w A m 7 cV evs) (hf:∀x∈evs,x.fits) (hm:m≤1000000):
  Calls Tryz.prog 26 #[.slice A m c,.int .i64 n] w (PtPost w n evs):=by
 have HT:=zh (ticks_any n w);have HLEN:=zh hB.1;have HB:=zh hB;have HF:=zh hf;clear hB hf;by_cases hn:0≤n∧n≤4096
 ·rw[zw15 hn]at HT
  obtain⟨nn,rfl⟩:∃nn:Nat,n=(nn:Int):=⟨n.toNat,by omega⟩;have HTR:Hid (putL nn evs=if pacedB nn 0 0 evs=true then some (vb m++encV 0 evs)else none):=zh<| by
   unfold putL;rw[HLEN.out];by_cases h:pacedB nn 0 0 evs=true
   ·rw[if_pos ⟨hn.1,hn.2,h⟩,if_pos h]
   ·rw[if_neg (fun x=>h x.2.2),if_neg h]
  have hn2:nn≤4096:=by omega
  clear hn;go_enter Tryz.func26,Tryz.ntmps26;go_wp2_with fail;refine(HT.out).mono ?_;rintro e w1 ⟨rfl,hE1⟩;have HE1:=zh hE1;clear hE1;have HP:=zh (pace (nn:Int) w1);go_wp2_with fail;refine(HP.out).mono ?_;rintro e w3 ⟨v,rfl,⟨lb,eb,nb,rfl,hbx,hb1,hb2,hb3⟩,hE3⟩;have HE3:=zh (zxt HE1.out hE3);have HBX:=zh hbx;have HBL:Hid (w.heap.size≤lb∧w.heap.size≤eb∧w.heap.size≤nb∧lb<w3.heap.size∧eb<w3.heap.size∧nb<w3.heap.size∧w.heap.size≤w3.heap.size):=
   zh ⟨zw10 HE1.out.size hb1,zw10 HE1.out.size hb2,zw10 HE1.out.size hb3,Blk.lt hbx.1,Blk.lt hbx.2.1,Blk.lt hbx.2.2.1,HE3.out.size⟩
  clear hE3 hbx hb1 hb2 hb3;have HPU:=zh (put_nil m (by omega) w3);go_wp2_with fail;refine(HPU.out).mono ?_;rintro e w4 ⟨bv,rfl,hq1,hO4,hE4⟩;have HREL:Hid (PRel w w3.heap.size lb eb nb nn evs (putL nn evs) m bv (.int .i64 0) (.int .i64 ((0:Nat):Int)) w4):=zh<| by
   refine⟨0,0,0,vb m,by rw[HLEN.out];omega,rfl,rfl,by omega,by omega,by omega,?_,vb_mem m,by have:=vb_ten (n:=m) (by omega);omega,boxes_ext HBX.out hE4,hE4.size,zxt HE3.out hE4,?_⟩
   ·exact hO4
   ·rw[HTR.out];rfl
  obtain⟨T,hTk⟩:∃T,putL nn evs=T:=⟨_,rfl⟩;rw[hTk]at HREL;have HTK:=zh hTk;clear hTk;generalize hB2:w3.heap.size=B2 at*;clear hB2 hq1 hO4 hE4 HPU HP HBX HTR HT HE3;go_wp2_with fail
  go_loopg [7,8,24] m (fun gh bv lv iv wr=>PRel w B2 lb eb nb nn evs T gh bv lv iv wr)
  case atStart=>exact HREL.out
  case round=>
   obtain⟨k,last,each,zs,hk,rfl,rfl,hl0,hl1,he1,hO,hzs,hzl,hbx,hsz,hE,hT⟩:=hrel;obtain⟨wi,rfl⟩:∃wi:World,wi=wr:=⟨_,rfl⟩;obtain⟨gh,rfl⟩:∃gh:Nat,gh=gk:=⟨_,rfl⟩;have HO:=zh hO;have HBX:=zh hbx;have HZS:=zh hzs;have HSZ:=zh hsz;have HE:=zh hE;have HTT:=zh hT;have hkm:k+gh=m:=by rw[hk,HLEN.out]
   clear hO hbx hzs hsz hE hT HREL hk;by_cases hlt:k<m
   ·have hke:k<evs.length:=by rw[HLEN.out];exact hlt
    obtain⟨b,o,rfl,hbw,hc⟩:=HB.out.2 (by omega);have hd:evs.drop k=evs[k]::evs.drop (k+1):=zw20 hke;have hfx:=HF.out evs[k] (zw25 hke);have hcx:=hc k hke;obtain⟨x,hx⟩:∃x,x=evs[k]:=⟨_,rfl⟩;rw[←hx]at hd hfx hcx;obtain⟨f1,f2,f3,f4,f5,f6⟩:=hfx;have HD:=zh hd;have HCX:=zh (fun i (hi:i<7)=>(HE.out.cell (p:=⟨b,o+k*7+i,none⟩) hbw).trans (hcx i hi));clear hc hcx hx hd hke;have c0:=HCX.out 0 (by omega);have c1:=HCX.out 1 (by omega);have c2:=HCX.out 2 (by omega);have c3:=HCX.out 3 (by omega);have c4:=HCX.out 4 (by omega);have c5:=HCX.out 5 (by omega);have c6:=HCX.out 6 (by omega);simp only[cV,Nat.add_zero,List.getElem?_cons_zero,List.getElem?_cons_succ]at c0 c1 c2 c3 c4 c5 c6;obtain⟨tick,x1,x2,x3,x4,x5,x6⟩:=x;simp only at c0 c1 c2 c3 c4 c5 c6 f1 f2 f3 f4 f5 f6;have y1:(0:Int)≤(k:Int):=by omega
    have y2:(k:Int)<(m:Int):=by omega
    have HPC:=zh (fun(w':World) (h:Boxes w' lb eb nb last each nn)=>pace1 lb eb nb last tick nn each w' h (by omega));go_wp2_with fail;have hsb:=off_new HO.out (b:=wi.heap.size) (.inl (zw8 _));have HSB:=zh hsb;clear hsb;refine(HPC.out _ (boxes_ext HBX.out (zxa (zxr _) _))).mono ?_;rintro e w7 ⟨rfl,hbx7,h2w⟩;have hk6:∀k,k≠lb→k≠eb→k<(wi.alloc (.cells #[.int .i64 tick,.int .u8 (x1:Int),.int .u8 (x2:Int),.int .u16 (x3:Int),.int .u16 (x4:Int),.int .u16 (x5:Int),.int .u8 (x6:Int)] 104)).heap.size→w7.heap[k]? =(wi.alloc (.cells #[.int .i64 tick,.int .u8 (x1:Int),.int .u8 (x2:Int),.int .u16 (x3:Int),.int .u16 (x4:Int),.int .u16 (x5:Int),.int .u8 (x6:Int)] 104)).heap[k]? :=fun k h1 h2 h3=>h2w.2.2.2.2 k h3 h1 h2;have hb6:=Blk.new wi 104 #[.int .i64 tick,.int .u8 (x1:Int),.int .u8 (x2:Int),.int .u16 (x3:Int),.int .u16 (x4:Int),.int .u16 (x5:Int),.int .u8 (x6:Int)];have hb7:Blk w7 wi.heap.size 104 #[.int .i64 tick,.int .u8 (x1:Int),.int .u8 (x2:Int),.int .u16 (x3:Int),.int .u16 (x4:Int),.int .u16 (x5:Int),.int .u8 (x6:Int)]:=
     (hk6 _ (by have:=HBL.out;have:=HSZ.out;omega) (by have:=HBL.out;have:=HSZ.out;omega) hb6.lt).trans hb6
    have HE7:Hid (Ext w w7):=zh (h2w.ext (zxa HE.out _) (by have:=HBL.out;omega) (by have:=HBL.out;omega));have HO7:Hid (OwnB B2 w7 u7 zs):=zh ((HO.out.ext (zxa (zxr wi) (.cells #[.int .i64 tick,.int .u8 (x1:Int),.int .u8 (x2:Int),.int .u16 (x3:Int),.int .u16 (x4:Int),.int .u16 (x5:Int),.int .u8 (x6:Int)] 104))).keep (fun k h1 h2=>hk6 k (by have:=HBL.out;omega) (by have:=HBL.out;omega) h2));have HSZ7:Hid (B2≤w7.heap.size):=zh (by have:=HSZ.out;have:=hb7.lt;omega);have HB7:=zh hb7;have HBX7:=zh hbx7;clear hbx7 h2w hb6 hk6 hb7 HPC HBX HO HCX c0 c1 c2 c3 c4 c5 c6 HE HB;by_cases hp:last≤tick∧tick<(nn:Int)∧eachI last each tick≤32
    ·rw[zw15 hp]
     obtain⟨hp1,hp2,hp3⟩:=hp;have HTT2:Hid (T=if pacedB nn tick (eachI last each tick) (evs.drop (k+1))=true then some ((zs++(vb (tick-last).toNat++([x1,x2,x6]++(vb x3++(vb x4++vb x5)))))++encV tick (evs.drop (k+1)))else none):=zh<| by
      rw[HTT.out,HD.out,pacedB,encV,zw15 (show last≤tick∧tick<(nn:Int)∧eachI last each tick≤32 from⟨hp1,hp2,hp3⟩),zw50];simp only[zw7]
     generalize heq:eachI last each tick=each2 at*;clear heq HTT HD;obtain⟨d,rfl⟩:∃d:Nat,tick=last+(d:Int):=⟨(tick-last).toNat,by omega⟩;have hd1:d<5000:=by omega
     rw[show(last+(d:Int)-last).toNat=d by omega]at HTT2;have HP1:=zh (fun w'=>put_nil d (by omega) w');have z0:=fun i=>HB7.out.cell i;have hi1:last+(d:Int)≤4096:=by omega
     have hi0:0≤last+(d:Int):=by omega
     go_wp2_with fail;rw[show last+(d:Int)-last=(d:Int)by omega];refine(HP1.out w7).mono ?_;rintro e w8 ⟨v8,rfl,hsrc8,hO8',hE8⟩;have HSRC:=zh hsrc8;have HO8:=zh (HO7.out.ext hE8);have HB8:=zh (HB7.out.ext hE8);have HBX8:=zh (boxes_ext HBX7.out hE8);have HSZ8:=zh (zw10 HSZ7.out hE8.size);have HE8:=zh (zxt HE7.out hE8);clear hsrc8 hO8' hE8 HO7 HB7 HBX7 HSZ7 HE7 z0;have HLZ:Hid (zs.length+(vb d).length≤140737488355328):=zh (by have:=vb_ten (n:=d) (by omega);omega);go_upto_region 12 with (at_builtin;refine wpList_b rfl (.tmp 33) (.tmp 39) 48 rfl u7 v8 zs (vb d) rfl rfl HO8.out HSZ8.out HSRC.out HLZ.out ?_;intro v9 w9 hO9 hG9;have HO9:=zh hO9;have HG9:=zh hG9;clear hO9 hG9)
     have HB9:=zh (HG9.out.blk HSB.out HB8.out);have HF9:=zh (HG9.out.off HSB.out HB8.out.lt);have HBX9:=zh (boxes_grew HBX8.out HG9.out HO8.out HBL.out.2.2.2.1 HBL.out.2.2.2.2.1 HBL.out.2.2.2.2.2.1);have HSZ9:=zh (zw10 HSZ8.out HG9.out.1.size);have HE9:=zh (HG9.out.ext HE8.out HO8.out HBL.out.2.2.2.2.2.2);clear HSRC HO8 HB8 HBX8 HSZ8 HE8 HG9 HLZ HSB;have hb9c:=fun i=>HB9.out.cell i;have HEA:=zh (zxa (zxr w9) (.cells (c8 [x1,x2,x6]).toArray 5));have HOA:=zh (HO9.out.ext HEA.out);have HSRA:=zh (src_row w9 [x1,x2,x6] 3 3 rfl);have HSZA:=zh (zw10 HSZ9.out HEA.out.size);have HLZA:Hid ((zs++vb d).length+[x1,x2,x6].length≤140737488355328):=zh (by have:=vb_ten (n:=d) (by omega);rw[zw0];simp only[zw3,zw26];omega);go_upto_region 13 with (at_builtin;refine wpList_b rfl (.tmp 41) (.tmp 51) 48 rfl v9 _ (zs++vb d) [x1,x2,x6] rfl rfl HOA.out HSZA.out HSRA.out HLZA.out ?_;intro vA wA hOA hGA;have HO10:=zh hOA;have HG10:=zh hGA;clear hOA hGA)
     have HB10:=zh (HG10.out.blk HF9.out (HB9.out.ext HEA.out));have HF10:=zh (HG10.out.off HF9.out (HB9.out.ext HEA.out).lt);have HBX10:=zh (boxes_grew (boxes_ext HBX9.out HEA.out) HG10.out HOA.out HBL.out.2.2.2.1 HBL.out.2.2.2.2.1 HBL.out.2.2.2.2.2.1);have HSZ10:=zh (zw10 HSZA.out HG10.out.1.size);have HE10:=zh (HG10.out.ext (zxt HE9.out HEA.out) HOA.out HBL.out.2.2.2.2.2.2);clear hb9c HO9 HB9 HF9 HBX9 HSZ9 HE9 HEA HOA HSRA HSZA HLZA HG10;have hb10:=fun i=>HB10.out.cell i;have HB11:=zh (Blk.new wA 60 #[.int .u16 (x3:Int),.int .u16 (x4:Int),.int .u16 (x5:Int)]);have HWR0:Hid (WRel w B2 lb eb nb nn (last+d) each2 (zs++vb d++[x1,x2,x6]) [x3,x4,x5] wi.heap.size wA.heap.size #[.int .i64 (last+(d:Int)),.int .u8 (x1:Int),.int .u8 (x2:Int),.int .u16 (x3:Int),.int .u16 (x4:Int),.int .u16 (x5:Int),.int .u8 (x6:Int)] #[.int .u16 (x3:Int),.int .u16 (x4:Int),.int .u16 (x5:Int)] 3 vA (.int .i64 ((0:Nat):Int)) (wA.alloc (.cells #[.int .u16 (x3:Int),.int .u16 (x4:Int),.int .u16 (x5:Int)] 60))):=zh<| by
      refine⟨0,rfl,rfl,?_,HB10.out.alloc _,HB11.out,HF10.out,off_new HO10.out (.inl (zw8 _)),boxes_ext HBX10.out (zxa (zxr _) _),by rw[zw22];have:=HSZ10.out;omega,zxa HE10.out _⟩
      simpa using HO10.out.ext (zxa (zxr _) _)
     go_wp2_with fail
     go_loopg [7,64] 3 (fun gh bv iv wq=>WRel w B2 lb eb nb nn (last+d) each2 (zs++vb d++[x1,x2,x6]) [x3,x4,x5] wi.heap.size wA.heap.size #[.int .i64 (last+(d:Int)),.int .u8 (x1:Int),.int .u8 (x2:Int),.int .u16 (x3:Int),.int .u16 (x4:Int),.int .u16 (x5:Int),.int .u8 (x6:Int)] #[.int .u16 (x3:Int),.int .u16 (x4:Int),.int .u16 (x5:Int)] gh bv iv wq)
     case atStart=>exact HWR0.out
     case round=>
      obtain⟨k2,hk2,rfl,hO2,hB2,hB3,hF2,hF3,hbx2,hsz2,hE2⟩:=hrel;obtain⟨wj,rfl⟩:∃wj:World,wj=wr:=⟨_,rfl⟩;obtain⟨vj,rfl⟩:∃vj:Value,vj=u7:=⟨_,rfl⟩;obtain⟨gh2,rfl⟩:∃gh:Nat,gh=gk:=⟨_,rfl⟩;have HO2:=zh hO2;have HB2:=zh hB2;have HB3:=zh hB3;have HF2:=zh hF2;have HF3:=zh hF3;have HBX2:=zh hbx2;have HSZ2:=zh hsz2;have HE2:=zh hE2;clear hO2 hB2 hB3 hF2 hF3 hbx2 hsz2 hE2 HWR0 hb10 HB10 HO10 HF10 HBX10 HSZ10 HE10;by_cases hl3:k2<3
      ·obtain⟨y,hy1,hy2,hy3⟩:=words3 x3 x4 x5 f3 f4 f5 k2 hl3
       have HY3:=zh hy3;have cy:=HB3.out.cell k2;rw[hy2]at cy;have i1:(0:Int)≤(k2:Int):=by omega
       have i2:(k2:Int)<3:=by omega
       have HPY:=zh (fun w'=>put_nil y (by omega) w');have hwA:wA.heap.size<wj.heap.size:=HB3.out.lt;clear hy2 hy3;go_wp2_with fail;refine(HPY.out wj).mono ?_;rintro e w8' ⟨v8',rfl,hsrc8,hO8',hE8⟩;have HSRC:=zh hsrc8;have HO8:=zh (HO2.out.ext hE8);have HB8:=zh (HB2.out.ext hE8);have HB8':=zh (HB3.out.ext hE8);have HBX8:=zh (boxes_ext HBX2.out hE8);have HSZ8:=zh (zw10 HSZ2.out hE8.size);have HE8:=zh (zxt HE2.out hE8);clear hsrc8 hO8' hE8 cy;have HLZ:Hid ((zs++vb d++[x1,x2,x6]++([x3,x4,x5].take k2).flatMap vb).length+(vb y).length≤140737488355328):=zh (by
        have q1:=vb_ten (n:=d) (by omega);have q2:=vb_ten (n:=y) (by omega);have q3:=flat3_len x3 x4 x5 f3 f4 f5 k2;simp only[zw0,zw3,zw26];omega)
       go_wp2_with (at_builtin;refine wpList_b rfl (.tmp 68) (.tmp 71) 48 rfl vj v8' (zs++vb d++[x1,x2,x6]++([x3,x4,x5].take k2).flatMap vb) (vb y) rfl rfl HO8.out HSZ8.out HSRC.out HLZ.out ?_;intro vC wC hOC hGC;have HOC:=zh hOC;have HGC:=zh hGC;clear hOC hGC)
       go_roundg (gh2-1)
       case measure=>omega
       case rel=>
        refine⟨k2+1,by omega,by go_num,?_,HGC.out.blk HF2.out HB8.out,HGC.out.blk HF3.out HB8'.out,HGC.out.off HF2.out HB8.out.lt,HGC.out.off HF3.out HB8'.out.lt,boxes_grew HBX8.out HGC.out HO8.out HBL.out.2.2.2.1 HBL.out.2.2.2.2.1 HBL.out.2.2.2.2.2.1,zw10 HSZ8.out HGC.out.1.size,HGC.out.ext HE8.out HO8.out HBL.out.2.2.2.2.2.2⟩;rw[HY3.out,←zw7];exact HOC.out
      ·obtain rfl:k2=3:=by omega
       have hz2:=fun i=>HB2.out.cell i;have i2:¬((3:Nat):Int)<3:=by omega
       go_wp2_with fail
       go_roundg (gh-1)
       case measure=>omega
       case rel=>
        have q1:=vb_ten (n:=d) (by omega);have q3:=vb_ten (n:=x3) (by omega);have q4:=vb_ten (n:=x4) (by omega);have q5:=vb_ten (n:=x5) (by omega);have he:zs++vb d++[x1,x2,x6]++List.flatMap vb (List.take 3 [x3,x4,x5])=zs++(vb d++([x1,x2,x6]++(vb x3++(vb x4++vb x5)))):=by simp
        refine⟨k+1,last+d,each2,zs++(vb d++([x1,x2,x6]++(vb x3++(vb x4++vb x5)))),by rw[HLEN.out];omega,by go_num,rfl,hi0,hi1,hp3,by rw[←he];exact HO2.out,?_,?_,HBX2.out,HSZ2.out,HE2.out,HTT2.out⟩
        ·intro c hc
         rcases zw16.1 hc with hc | hc
         ·exact HZS.out c hc
         rcases zw16.1 hc with hc | hc
         ·exact vb_mem _ c hc
         rcases zw16.1 hc with hc | hc
         ·simp only[zw30,List.not_mem_nil,or_false]at hc
          rcases hc with rfl | rfl | rfl<;>assumption
         rcases zw16.1 hc with hc | hc
         ·exact vb_mem _ c hc
         rcases zw16.1 hc with hc | hc
         ·exact vb_mem _ c hc
         ·exact vb_mem _ c hc
        ·simp only[zw0,zw3,zw26]
         omega
    ·rw[zw14 hp]
     have HTF:Hid (putL nn evs=none):=zh (by
      rw[HTK.out,HTT.out,HD.out,pacedB,zw14 hp,zw51,if_neg (by decide)])
     clear hp;go_wp2_with fail
     go_ret2
     exact pt_bad HE7.out HTF.out
   ·obtain rfl:gh=0:=by omega
    obtain rfl:k=m:=by omega
    have HTF:Hid (putL nn evs=some zs):=zh (by
     rw[HTK.out,HTT.out,zw21 (by rw[HLEN.out];omega),pacedB,if_pos rfl,encV,zw18])
    have y2:¬(k:Int)<(k:Int):=by omega
    go_wp2_with fail
    go_ret2
    exact pt_ok HE.out HTF.out HO.out (by have:=HBL.out;omega)
 ·rw[zw14 hn]at HT
  have HTF:Hid (putL n evs=none):=zh (by unfold putL;rw[if_neg (fun h=>hn ⟨h.1,h.2.1⟩)]);clear hn;go_enter Tryz.func26,Tryz.ntmps26;go_wp2_with fail;refine(HT.out).mono ?_;rintro e w1 ⟨rfl,hE1⟩;have HE1:=zh hE1;clear hE1;go_wp2_with fail
  go_ret2
  exact pt_bad HE1.out HTF.out
end Go.Proofs.YtidnboeihkeljaaGreatDoor.Log
