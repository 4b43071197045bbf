
import Derived.Test.YtbopblbhjcemaaaGreatDoorF24
import Derived.Test.YtbopblbhjcemaaaGreatDoorFilF
set_option maxHeartbeats 16000000
set_option maxRecDepth 100000
set_option linter.all false
open Go.ChangeShapes Go.WideShapes Go.ChangeAt Go.RowKit
namespace Go.Proofs.YtbopblbhjcemaaaGreatDoor.Fil
open Wire
open Rec
open Trk (Sl Tv Tk TkV mayT encT takeT NewT TuPost)
open Log (Hv Ev En cH cS cV mayH putL encH RSt nx va pN pI pF thL takeL OwnR_mono' OwnR_keep)
def noT:Tv:=⟨⟨none,0,0⟩,⟨none,0,0⟩,⟨none,0,0⟩,⟨none,0,0⟩,⟨none,0,0⟩⟩
def noH:Hv:=⟨0,0,0,0,⟨#[]⟩,[]⟩
def plc (k a:Nat) (fs:List (List Nat)):List Nat:=(List.range fs.length).map (bg k a fs)
theorem plc_eq (k a:Nat) (fs:List (List Nat)):plc k a fs=pls k 0 [] a fs:=by
 refine List.ext_getElem? (fun i=>?_);by_cases h:i<fs.length
 ·rw[pls_get k fs 0 [] a i h,plc,List.getElem?_map,List.getElem?_range h];rfl
 ·rw[List.getElem?_eq_none (by rw[plc,zw4,zw37];omega),List.getElem?_eq_none (by rw[pls_len];omega)]
structure FV (w:World) (f:Nat) (xs:List Nat) (r:Rc) (b3 b4 iA:Nat):Prop where
 ex:∃(o:Ob5) (A:Option Addr) (c:Nat) (Al:Option Addr) (cl:Nat) (t:Tv) (Ap:Option Addr) (cp:Nat),
  o.F=f∧Blk w f 73 (cFl (.slice (some ⟨o.q,0,none⟩) o.n o.c) r.x (.slice A r.x.starts.length c) (.slice Al r.evs.length cl) r.N r.K t b3 b4 (.slice Ap r.fs.length cp) iA)∧
  Bs w (some ⟨o.q,0,none⟩) o.n xs∧o.n≤o.c∧o.c≤9223372036854775807∧RowR w A r.x.starts.length 3 cS r.x.starts∧(A=none→r.x.starts.length=0∧c=0)∧r.x.starts.length≤c∧c≤9223372036854775807∧
  RowR w Al r.evs.length 7 cV r.evs∧(Al=none→r.evs.length=0∧cl=0)∧r.evs.length≤cl∧cl≤9223372036854775807∧TkV w t r.tr∧RowR w Ap r.fs.length 1 cN (plc r.K.toNat b4 r.fs)∧(Ap=none→r.fs.length=0∧cp=0)∧r.fs.length≤cp∧cp≤9223372036854775807
structure FVb (b:Nat) (w:World) (f:Nat) (xs:List Nat) (r:Rc) (b3 b4 iA:Nat):Prop where
 ex:∃(o:Ob5) (A:Option Addr) (c:Nat) (Al:Option Addr) (cl:Nat) (t:Tv) (Ap:Option Addr) (cp:Nat),
  o.F=f∧Blk w f 73 (cFl (.slice (some ⟨o.q,0,none⟩) o.n o.c) r.x (.slice A r.x.starts.length c) (.slice Al r.evs.length cl) r.N r.K t b3 b4 (.slice Ap r.fs.length cp) iA)∧
  Bs w (some ⟨o.q,0,none⟩) o.n xs∧o.n≤o.c∧o.c≤9223372036854775807∧RowR w A r.x.starts.length 3 cS r.x.starts∧(A=none→r.x.starts.length=0∧c=0)∧r.x.starts.length≤c∧c≤9223372036854775807∧
  RowR w Al r.evs.length 7 cV r.evs∧(Al=none→r.evs.length=0∧cl=0)∧r.evs.length≤cl∧cl≤9223372036854775807∧TkV w t r.tr∧RowR w Ap r.fs.length 1 cN (plc r.K.toNat b4 r.fs)∧(Ap=none→r.fs.length=0∧cp=0)∧r.fs.length≤cp∧cp≤9223372036854775807∧b≤o.F∧b≤o.q∧(∀a,A=some a→b≤a.block)∧(∀a,Al=some a→b≤a.block)∧(∀a,(t.s0.A=some a∨t.s1.A=some a∨t.s2.A=some a∨t.s3.A=some a∨t.sm.A=some a)→b≤a.block)∧∀a,Ap=some a→b≤a.block
theorem FVb.fv {b:Nat} {w:World} {f:Nat} {xs:List Nat} {r:Rc} {b3 b4 iA:Nat} (h:FVb b w f xs r b3 b4 iA):FV w f xs r b3 b4 iA:=by
 obtain⟨o,A,c,Al,cl,t,Ap,cp,h1,h2,h3,h4,h5,h6,h7,h8,h9,h10,h11,h12,h13,h14,h15,h16,h17,h18,_⟩:=h.ex;exact⟨o,A,c,Al,cl,t,Ap,cp,h1,h2,h3,h4,h5,h6,h7,h8,h9,h10,h11,h12,h13,h14,h15,h16,h17,h18⟩
structure Opn (xs:List Nat) (r:Rc) (L:List Nat) (b3 b4 iA:Nat):Prop where
 rds:Rds xs (encH r.x.hd) L (encT r.tr) r.N.toNat r.K.toNat r.fs b3 b4 iA
 put:putL r.N r.evs=some L
 low:Low r
 may:mayR r
theorem Kp.blk {b D:Nat} {w w':World} (h:Kp b D w w') {g:Nat} {t:TypeId} {cs:Array Value} (hg:g<b∨D≤g) (hb:Blk w g t cs):Blk w' g t cs:=(h.block g hb.lt hg).trans hb
theorem clone0 (A:Option Addr) (n c:Nat) (xs:List Nat) (w:World) (hB:Bs w A n xs) (hp:0<n) (hn:n≤4000000000):
  Calls Tryz.prog 28 #[.slice A n c] w fun e w'=>∃g c',e= .returned (.slice (some ⟨g,0,none⟩) n c')∧n≤c'∧c'≤9223372036854775807∧w.heap.size≤g∧g<w'.heap.size∧Bs w' (some ⟨g,0,none⟩) n xs∧Ext w w':=by
 have hnl:=@Lib.run_eql_slice_nil Tryz.prog;obtain⟨b,o,rfl,_⟩:=hB.2.2 hp;obtain⟨a,ha⟩:∃a:Addr,a=⟨b,o,none⟩:=⟨_,rfl⟩;rw[←ha]at hB ⊢;clear ha;have hxl:=hB.1;subst hxl;have HE:=zh (zxa (zxr w) (.cells #[] 5));have HSM:=zh hB.2.1;have HSR:Hid (Src Tryz.prog 1 22 (.slice (some a) xs.length c) xs.length (c8 xs) (w.alloc (.cells #[] 5))):=zh (Bs.src (hB.ext HE.out) Tryz.underlying22 c);have HOW:Hid (Wire.Own w (w.alloc (.cells #[] 5)) (.slice (some ⟨w.heap.size,0,none⟩) 0 0) []):=zh (World.ownsRow_made w #[] 0 (zw8 _) (by unfold maxLen;omega) rfl);have HQ:Hid (([]:List Nat).length+xs.length≤140737488355328):=zh (by simp;omega);have HP:=zh hp;clear hB hp;go_enter Tryz.func28,Tryz.ntmps28;go_wp2_with (first | (at_builtin;refine wpList_own (W:=w) rfl (.tmp 5) (.tmp 6) 22 rfl (.slice (some ⟨w.heap.size,0,none⟩) 0 0) (.slice (some a) xs.length c) [] xs rfl rfl HOW.out HE.out HSR.out HQ.out ?_;intro v2 w2 hown2 hE2))
 have HO2:Hid (Wire.Own w w2 v2 xs):=zh hown2;have HE2:=zh hE2;clear hown2 hE2;go_ret;obtain⟨A2,c2,rfl,h1,h2,h3⟩:=own_shape HO2.out;obtain⟨g,rfl,hg⟩:=h3 HP.out;exact⟨g,c2,rfl,h1,by unfold maxLen at h2;omega,hg,(zw23 HO2.out g (by simp[Value.ownBlock])).2,Wire.Own.bs HO2.out HSM.out,HE2.out⟩
structure Fnd (xs:List Nat) (r:Rc) (L:List Nat) (b3 b4 iA n k:Nat) (es:List En) (b1 b2:Nat):Prop where
 N:r.N=(n:Int)
 K:r.K=(k:Int)
 n4:n≤4096
 kk:1≤k∧k≤256
 len:r.fs.length=n+1
 evs:r.evs=es.map En.ev
 sum:be (xs.drop (xs.length-4))=Chk.crc (xs.take (xs.length-4))
 magic:xs.take 4=[82,77,67,72]
 t1:Chk.takeAt xs ((4:Nat):Int) 2097152= .ok 1 (encH r.x.hd) b1
 t2:Chk.takeAt xs (b1:Int) 2097152= .ok 2 (vb n++vb k) b2
 t3:Chk.takeAt xs (b2:Int) 2097152= .ok 3 L b3
 t4:Chk.takeAt xs (b3:Int) 2097152= .ok 4 (encT r.tr) b4
 t7:Chk.takeAt xs (iA:Int) 2097152= .ok 7 (idx 0 (plc k b4 r.fs)) (xs.length-8)
 tk:∀i,i≤n→∃hw sz bd,Chk.readAt xs (bg k b4 r.fs i:Nat)= .ok (kd k i) hw sz bd (bg k b4 r.fs (i+1))
 b0:bg k b4 r.fs 0=b4
 bn:bg k b4 r.fs (n+1)=iA
 p1:0<(encH r.x.hd).length∧(encH r.x.hd).length≤1000000
 p3:0<L.length∧L.length≤1000000
 p4:0<(encT r.tr).length∧(encT r.tr).length≤1000000
 p7:0<(idx 0 (plc k b4 r.fs)).length
 h1:thL (encH r.x.hd)=some r.x
 h3:takeL n L=some es
 h4:takeT n (encT r.tr)=some r.tr
 up:up 0 (plc k b4 r.fs)
 pl:(plc k b4 r.fs).length=n+1
 ia:iA<4294967296
 foot:(xs.drop (xs.length-8)).take 4=fx iA
theorem Opn.fnd {xs:List Nat} {r:Rc} {L:List Nat} {b3 b4 iA:Nat} (h:Opn xs r L b3 b4 iA):∃n k es b1 b2,Fnd xs r L b3 b4 iA n k es b1 b2:=by
 obtain⟨hr,hp,hlo,hm⟩:=h;obtain⟨m1,m2,m3,m4,m5,m6,m7⟩:=hm;have hN:=(Trk.mayT_parts m3).1;obtain⟨es,he1,he2⟩:=Log.take_put hlo.efit (by have:=hlo.evs;omega) hp;obtain⟨n,hn⟩:∃n:Nat,r.N=(n:Int):=⟨r.N.toNat,by omega⟩;obtain⟨k,hk⟩:∃k:Nat,r.K=(k:Int):=⟨r.K.toNat,by omega⟩;have hnn:r.N.toNat=n:=by omega
 have hkk:r.K.toNat=k:=by omega
 rw[hnn,hkk]at hr;obtain⟨b1,b2,t1,t2,t3⟩:=hr.span;have hl:r.fs.length=n+1:=by omega
 have hw:(vb n).length≥1:=vb_pos n;rw[hn]at he2 hp m3;have hO:=hr.order;have hhi:=hr.high;have hb0:bg k b4 r.fs 0=b4:=bg_zero k b4 r.fs;have hbn:bg k b4 r.fs (n+1)=iA:=by rw[←hl];exact hr.last
 refine⟨n,k,es,b1,b2,hn,hk,by omega,by omega,hl,he1,?_,hr.magic,t1,t2,t3,hr.track,?_,fun i hi=>hr.tick i (by omega),hb0,hbn,⟨?_,?_⟩,⟨?_,?_⟩,⟨?_,?_⟩,?_,Log.take_header m1 hlo.sfit hlo.seed,he2,Trk.takeT_put m3,?_,by rw[plc_eq,pls_len,hl],by omega,hr.foot⟩
 ·rw[hr.sum,be_fx (Chk.crc_lt _)]
 ·rw[plc_eq];exact hr.index
 ·show 0<(vb _++_).length
  rw[zw0];have:=vb_pos (Hv.hd r.x).w;omega
 ·have:=Log.encH_len r.x m1 hlo.sfit;omega
 ·unfold putL at hp
  split at hp
  ·cases hp
   rw[zw0];have:=vb_pos r.evs.length;omega
  ·cases hp
 ·have:=Log.putL_len hlo.efit (by have:=hlo.evs;omega) hp;omega
 ·have he:encT r.tr=Trk.encC r.tr.c0++(Trk.encC r.tr.c1++(Trk.encC r.tr.c2++(Trk.encC r.tr.c3++(vb r.tr.marks.length++Trk.encMs 0 r.tr.marks)))):=by simp[encT,Tk.cams,Trk.encM]
  rw[he];simp only[zw0];have:=vb_pos r.tr.marks.length;omega
 ·have:=(Trk.encT_both m3).1;omega
 ·rw[plc_eq]
  cases hf:r.fs with
  | nil=>rw[hf]at hl;simp at hl
  | cons f fs=>
   rw[pls,idx,zw0];have:=vb_pos (b4-0);omega
 ·rw[plc_eq]
  refine up_pls k r.fs 0 [] b4 0 (by omega) ?_;have h1:=bg_last k b4 r.fs;rw[hl,hbn]at h1;omega
theorem open_okb (A:Option Addr) (n c:Nat) (xs:List Nat) (r:Rc) (L:List Nat) (b3 b4 iA:Nat) (w:World) (hT:Crc.Tab w) (hB:Bs w A n xs) (hn:n≤c) (hc:c≤9223372036854775807) (h:Opn xs r L b3 b4 iA):
  Calls Tryz.prog 11 #[.slice A n c] w fun e w'=>∃f,e= .returned (.tuple #[.pointer (some ⟨f,0,none⟩),.int .i64 0])∧FVb w.heap.size w' f xs r b3 b4 iA∧Ext w w':=by
 have hmf:∀(fn:Fn) (first cap:Array Value) (w:World),(Instr.makeFunc fn first cap).run Tryz.prog w= .ok (.func fn first cap) w:=fun _ _ _ _=>rfl;have hxl:xs.length=n:=hB.1;have hlo:=h.rds.low;have hhi:=h.rds.high;have y1:(n:Int)≤4194304:=by omega
 have y2:(12:Int)≤(n:Int):=by omega
 have HE0:=zh (zxa (zxa (zxr w) (.cells #[.pointer none] 30)) (.cells #[.int .i64 0] 23));have HCL:=zh (clone0 A n c xs _ (hB.ext HE0.out) (by omega) (by omega));have HH:=zh h;have HT:=zh hT;have HN:=zh (And.intro hn (And.intro hc (And.intro hxl (And.intro hlo hhi))));clear hT hB hn hc h hxl hlo hhi
 go_enter_defers Tryz.func11,Tryz.ntmps11
 go_wp2_with fail;refine(must_ok _ _).mono ?_;rintro e w0 ⟨rfl,rfl⟩;have HBF:=zh ((Blk.new w 30 #[.pointer none]).alloc (.cells #[.int .i64 0] 23));have HBE:=zh (Blk.new1 w (.cells #[.pointer none] 30) 23 #[.int .i64 0]);have HSZ:Hid (((w.alloc (.cells #[.pointer none] 30)).alloc (.cells #[.int .i64 0] 23)).heap.size=w.heap.size+2):=zh (by rw[zw22,zw22]);obtain⟨w1,hw1⟩:∃q,q=(w.alloc (.cells #[.pointer none] 30)).alloc (.cells #[.int .i64 0] 23):=⟨_,rfl⟩;rw[←hw1]at HE0 HCL HBF HBE HSZ ⊢;clear hw1;obtain⟨W0,hW0⟩:∃q,q=w.heap.size:=⟨_,rfl⟩;rw[←hW0]at HBF HBE HSZ ⊢;replace hW0:=zh hW0;go_wp2_with fail;refine(must_ok _ _).mono ?_;rintro e w0 ⟨rfl,rfl⟩;go_wp2_with fail;refine(HCL.out).mono ?_;rintro e w2 ⟨q,c',rfl,hn2,hc2,hq1,hq2,hB2,hE2⟩;have HE2:=zh hE2;have HB2:=zh hB2;have HN2:=zh (And.intro hn2 (And.intro hc2 (And.intro hq1 hq2)));clear hn2 hc2 hq1 hq2 hB2 hE2 HCL;go_upto_region 5 with fail;have HF:=zh ((Blk.new w2 73 (cFl (.slice (some ⟨q,0,none⟩) n c') noH (.slice none 0 0) (.slice none 0 0) 0 0 noT 0 0 (.slice none 0 0) 0)).alloc (.cells #[.pointer (some ⟨w2.heap.size,0,none⟩),.int .i64 0] 92));have HOP:=zh (Blk.new1 w2 (.cells (cFl (.slice (some ⟨q,0,none⟩) n c') noH (.slice none 0 0) (.slice none 0 0) 0 0 noT 0 0 (.slice none 0 0) 0) 73) 92 #[.pointer (some ⟨w2.heap.size,0,none⟩),.int .i64 0]);have HE4:=zh (zxa (zxa (zxr w2) (.cells (cFl (.slice (some ⟨q,0,none⟩) n c') noH (.slice none 0 0) (.slice none 0 0) 0 0 noT 0 0 (.slice none 0 0) 0) 73)) (.cells #[.pointer (some ⟨w2.heap.size,0,none⟩),.int .i64 0] 92))
 obtain⟨w4,hw4⟩:∃u,u=(w2.alloc (.cells #[.slice (some ⟨q,0,none⟩) n c',.int .i64 0,.int .i64 0,.int .i64 0,.int .u32 0,.string ⟨#[]⟩,.slice none 0 0,.slice none 0 0,.int .i64 0,.int .i64 0,.slice none 0 0,.slice none 0 0,.slice none 0 0,.slice none 0 0,.slice none 0 0,.slice none 0 0,.int .i64 0,.int .i64 0,.slice none 0 0,.int .i64 0] 73)).alloc (.cells #[.pointer (some ⟨w2.heap.size,0,none⟩),.int .i64 0] 92):=⟨_,rfl⟩;simp only[cFl,noH,noT,Int.natCast_zero,Int.ofNat_zero,Int.cast_ofNat_Int]at HF HOP HE4;rw[←hw4]at HF HOP HE4 ⊢;clear hw4;obtain⟨F,hF⟩:∃u,u=w2.heap.size:=⟨_,rfl⟩;rw[←hF]at HF HOP HN2 ⊢;have HFO:Hid (F+1<w4.heap.size):=zh HOP.out.lt;replace hF:=zh hF;go_wp2_with fail;refine(steps_st w4 (F+1) F 0 HOP.out).mono ?_;rintro e w5 ⟨rfl,hb0,hb1,hb2,hb3,hE5,hsz⟩;obtain⟨bb,hbb⟩:∃u,u=w4.heap.size:=⟨_,rfl⟩;rw[←hbb]at hb0 hb1 hb2 hb3 hsz HFO ⊢;have HTAB:=zh (((HT.out.ext HE0.out).ext HE2.out).ext HE4.out);have HX:Hid (OW (W0+2) (bb+3) ⟨F+1,F,bb,bb+1,bb+2,q,n,c'⟩ xs w5 (cFl (.slice (some ⟨q,0,none⟩) n c') noH (.slice none 0 0) (.slice none 0 0) 0 0 noT 0 0 (.slice none 0 0) 0) 0):=zh (by
  obtain⟨n1,n2,n3,n4⟩:=HN2.out;obtain⟨_,_,n5,n6,n7⟩:=HN.out;have e1:=HSZ.out;have e2:=HFO.out;exact⟨HOP.out.ext hE5,HF.out.ext hE5,hb0,hb1,⟨0,hb2⟩,HTAB.out.ext hE5,by have:=HT.out.lt;have:=hW0.out;omega,(HB2.out.ext HE4.out).ext hE5,rfl,⟨n1,n2,by show 12≤n;omega,by show n≤900000;omega⟩,
   ⟨by show W0+2≤F+1;omega,by show W0+2≤F;omega,by show W0+2≤bb;omega,by show W0+2≤bb+1;omega,by show W0+2≤bb+2;omega,by show W0+2≤q;omega⟩,
   ⟨by show F+1<bb+3;omega,by show F<bb+3;omega,by show bb<bb+3;omega,by show bb+1<bb+3;omega,by show bb+2<bb+3;omega,by show q<bb+3;omega,by omega⟩,
   ⟨by show F+1≠F;omega,by show F+1≠bb;omega,by show F+1≠bb+1;omega,by show F+1≠bb+2;omega,by show F≠bb;omega,by show F≠bb+1;omega,by show F≠bb+2;omega,by show bb+2≠bb;omega,by show bb+2≠bb+1;omega,by show q≠F+1;omega,by show q≠F;omega,by show q≠bb+2;omega⟩⟩)
 have HFN:=zh hb3;have HBF5:Hid (Blk w5 W0 30 #[.pointer none]):=zh (((HBF.out.ext HE2.out).ext HE4.out).ext hE5);have HBE5:Hid (Blk w5 (W0+1) 23 #[.int .i64 0]):=zh (((HBE.out.ext HE2.out).ext HE4.out).ext hE5);have HE5:Hid (Ext w w5):=zh (zxt (zxt (zxt HE0.out HE2.out) HE4.out) hE5);clear hb0 hb1 hb2 hb3 hE5 hsz HFO HTAB HF HOP HE4 HE2 HE0 HB2 HN2 HBF HBE hbb;obtain⟨n0,k,es,b1,b2,hfnd⟩:=HH.out.fnd;have HFD:=zh hfnd;clear hfnd;have hb32:bb+1+1=bb+2:=rfl;go_wp2_with fail;refine wp_loop_rounds 9 ?_;rw[rounds_succ];have ci:=HFN.out.cell 0;simp only[fns,zzD,zzE,zzF]at ci;have HC:=zh (around_any (W0+2) (bb+3) ⟨F+1,F,bb,bb+1,bb+2,q,n,c'⟩ xs _ 0 w5 HX.out (fun _=>HFD.out.magic));simp only[if_pos HFD.out.sum]at HC;go_wp2_with fail;refine(HC.out).mono ?_;rintro e w6 ⟨rfl,hX,hK⟩;replace HX:=zh hX;replace HFN:=zh (hK.blk (.inr (zw8 _)) HFN.out);replace HBF5:=zh (hK.blk (.inl (by omega)) HBF5.out);replace HBE5:=zh (hK.blk (.inl (by omega)) HBE5.out);replace HE5:Hid (Ext w w6):=zh ⟨hK.os.trans HE5.out.os,hK.tape.trans HE5.out.tape,hK.output.trans HE5.out.output,zw10 HE5.out.size hK.size,fun g hg=>(hK.block g (zw9 hg HE5.out.size) (.inl (by have:=hW0.out;omega))).trans (HE5.out.block g hg)⟩;clear hX hK ci HC;go_wp2_with fail;rw[rounds_succ];have ci:=HFN.out.cell 1;simp only[fns,zzD,zzE,zzF]at ci;have HC:=zh (s1_ok (W0+2) (bb+3) ⟨F+1,F,bb,bb+1,bb+2,q,n,c'⟩ xs 4 _ _ _ _ _ _ _ _ _ _ (encH r.x.hd) b1 r.x w6 HX.out HFD.out.t1 HFD.out.p1.1 HFD.out.p1.2 HFD.out.h1);go_wp2_with fail;refine(HC.out).mono ?_
 rintro e w7 ⟨sv,⟨rfl,hX,hK⟩,hO⟩;replace HX:=zh hX;replace HFN:=zh (hK.blk (.inr (zw8 _)) HFN.out);replace HBF5:=zh (hK.blk (.inl (by omega)) HBF5.out);replace HBE5:=zh (hK.blk (.inl (by omega)) HBE5.out);replace HE5:Hid (Ext w w7):=zh ⟨hK.os.trans HE5.out.os,hK.tape.trans HE5.out.tape,hK.output.trans HE5.out.output,zw10 HE5.out.size hK.size,fun g hg=>(hK.block g (zw9 hg HE5.out.size) (.inl (by have:=hW0.out;omega))).trans (HE5.out.block g hg)⟩;have HST:=zh hO;clear hX hK ci HC hO;go_wp2_with fail;rw[rounds_succ];have ci:=HFN.out.cell 2;simp only[fns,zzD,zzE,zzF]at ci;have HC:=zh (s2_ok (W0+2) (bb+3) ⟨F+1,F,bb,bb+1,bb+2,q,n,c'⟩ xs b1 _ _ _ _ _ _ _ _ _ _ n0 k b2 w7 HX.out HFD.out.t2 HFD.out.n4 HFD.out.kk);go_wp2_with fail;refine(HC.out).mono ?_;rintro e w8 ⟨rfl,hX,hK⟩;replace HX:=zh hX;replace HFN:=zh (hK.blk (.inr (zw8 _)) HFN.out);replace HBF5:=zh (hK.blk (.inl (by omega)) HBF5.out);replace HBE5:=zh (hK.blk (.inl (by omega)) HBE5.out);replace HE5:Hid (Ext w w8):=zh ⟨hK.os.trans HE5.out.os,hK.tape.trans HE5.out.tape,hK.output.trans HE5.out.output,zw10 HE5.out.size hK.size,fun g hg=>(hK.block g (zw9 hg HE5.out.size) (.inl (by have:=hW0.out;omega))).trans (HE5.out.block g hg)⟩;replace HST:=zh (hK.own HST.out);clear hX hK ci HC;go_wp2_with fail;rw[rounds_succ];have ci:=HFN.out.cell 3;simp only[fns,zzD,zzE,zzF]at ci;have HC:=zh (s3_ok (W0+2) (bb+3) ⟨F+1,F,bb,bb+1,bb+2,q,n,c'⟩ xs b2 _ _ _ _ _ _ _ _ _ _ L b3 es w8 HX.out HFD.out.t3 HFD.out.p3.1 HFD.out.p3.2 HFD.out.h3);go_wp2_with fail
 refine(HC.out).mono ?_;rintro e w9 ⟨lv,⟨rfl,hX,hK⟩,hO⟩;replace HX:=zh hX;replace HFN:=zh (hK.blk (.inr (zw8 _)) HFN.out);replace HBF5:=zh (hK.blk (.inl (by omega)) HBF5.out);replace HBE5:=zh (hK.blk (.inl (by omega)) HBE5.out);replace HE5:Hid (Ext w w9):=zh ⟨hK.os.trans HE5.out.os,hK.tape.trans HE5.out.tape,hK.output.trans HE5.out.output,zw10 HE5.out.size hK.size,fun g hg=>(hK.block g (zw9 hg HE5.out.size) (.inl (by have:=hW0.out;omega))).trans (HE5.out.block g hg)⟩;replace HST:=zh (hK.own HST.out);have HLG:=zh hO;clear hX hK ci HC hO;go_wp2_with fail;rw[rounds_succ];have ci:=HFN.out.cell 4;simp only[fns,zzD,zzE,zzF]at ci;have HC:=zh (s4_ok (W0+2) (bb+3) ⟨F+1,F,bb,bb+1,bb+2,q,n,c'⟩ xs b3 _ _ _ _ _ _ _ _ _ _ (encT r.tr) b4 r.tr w9 HX.out HFD.out.t4 HFD.out.p4.1 HFD.out.p4.2 HFD.out.h4 (by have:=HFD.out.n4;omega));go_wp2_with fail;refine(HC.out).mono ?_;rintro e w10 ⟨tv,⟨rfl,hX,hK⟩,hO,hN⟩;replace HX:=zh hX;replace HFN:=zh (hK.blk (.inr (zw8 _)) HFN.out);replace HBF5:=zh (hK.blk (.inl (by omega)) HBF5.out);replace HBE5:=zh (hK.blk (.inl (by omega)) HBE5.out);replace HE5:Hid (Ext w w10):=zh ⟨hK.os.trans HE5.out.os,hK.tape.trans HE5.out.tape,hK.output.trans HE5.out.output,zw10 HE5.out.size hK.size,fun g hg=>(hK.block g (zw9 hg HE5.out.size) (.inl (by have:=hW0.out;omega))).trans (HE5.out.block g hg)⟩;replace HST:=zh (hK.own HST.out);replace HLG:=zh (hK.own HLG.out);have HTK:=zh hO;have HTN:=zh hN;clear hX hK ci HC hO hN;go_wp2_with fail;rw[rounds_succ];have ci:=HFN.out.cell 5;simp only[fns,zzD,zzE,zzF]at ci
 have HC:=zh (s5_ok (W0+2) (bb+3) ⟨F+1,F,bb,bb+1,bb+2,q,n,c'⟩ xs (bg k b4 r.fs) _ _ _ n0 k _ _ _ _ w10 (by rw[HFD.out.b0];exact HX.out) HFD.out.tk HFD.out.n4 HFD.out.kk);go_wp2_with fail;refine(HC.out).mono ?_;rintro e w11 ⟨Ap,mp,cp,⟨rfl,hX,hK⟩,hO⟩;replace HX:=zh hX;replace HFN:=zh (hK.blk (.inr (zw8 _)) HFN.out);replace HBF5:=zh (hK.blk (.inl (by omega)) HBF5.out);replace HBE5:=zh (hK.blk (.inl (by omega)) HBE5.out);replace HE5:Hid (Ext w w11):=zh ⟨hK.os.trans HE5.out.os,hK.tape.trans HE5.out.tape,hK.output.trans HE5.out.output,zw10 HE5.out.size hK.size,fun g hg=>(hK.block g (zw9 hg HE5.out.size) (.inl (by have:=hW0.out;omega))).trans (HE5.out.block g hg)⟩;replace HST:=zh (hK.own HST.out);replace HLG:=zh (hK.own HLG.out);replace HTK:=zh (hK.tk HTK.out HTN.out);have HPL:Hid (OwnR (bb+3) w11 3 1 cN (.slice Ap mp cp) (plc k b4 r.fs)):=zh (by have:=hO;unfold plc;rw[HFD.out.len];exact this);replace HX:=zh (by have:=HX.out;rw[HFD.out.bn]at this;exact this);clear hX hK ci HC hO;go_wp2_with fail;rw[rounds_succ];have ci:=HFN.out.cell 6;simp only[fns,zzD,zzE,zzF]at ci;have HC:=zh (s6_ok (W0+2) (bb+3) ⟨F+1,F,bb,bb+1,bb+2,q,n,c'⟩ xs iA _ _ _ _ _ _ _ _ _ _ _ _ (plc k b4 r.fs) (xs.length-8) w11 HX.out HFD.out.t7 HFD.out.p7 HPL.out HFD.out.up (by rw[HFD.out.pl];have:=HFD.out.n4;omega));go_wp2_with fail;refine(HC.out).mono ?_;rintro e w12 ⟨rfl,hX,hK⟩;replace HX:=zh hX;replace HFN:=zh (hK.blk (.inr (zw8 _)) HFN.out);replace HBF5:=zh (hK.blk (.inl (by omega)) HBF5.out);replace HBE5:=zh (hK.blk (.inl (by omega)) HBE5.out)
 replace HE5:Hid (Ext w w12):=zh ⟨hK.os.trans HE5.out.os,hK.tape.trans HE5.out.tape,hK.output.trans HE5.out.output,zw10 HE5.out.size hK.size,fun g hg=>(hK.block g (zw9 hg HE5.out.size) (.inl (by have:=hW0.out;omega))).trans (HE5.out.block g hg)⟩;replace HST:=zh (hK.own HST.out);replace HLG:=zh (hK.own HLG.out);replace HTK:=zh (hK.tk HTK.out HTN.out);replace HPL:=zh (hK.own HPL.out);clear hX hK ci HC;go_wp2_with fail;rw[rounds_succ];have ci:=HFN.out.cell 7;simp only[fns,zzD,zzE,zzF]at ci;have HC:=zh (foot_ok (W0+2) (bb+3) ⟨F+1,F,bb,bb+1,bb+2,q,n,c'⟩ xs _ (xs.length-8) iA w12 HX.out (by have:=HN.out;show _=n;omega) rfl HFD.out.ia HFD.out.foot);go_wp2_with fail;refine(HC.out).mono ?_;rintro e w13 ⟨rfl,hX,hK⟩;replace HX:=zh hX;replace HFN:=zh (hK.blk (.inr (zw8 _)) HFN.out);replace HBF5:=zh (hK.blk (.inl (by omega)) HBF5.out);replace HBE5:=zh (hK.blk (.inl (by omega)) HBE5.out);replace HE5:Hid (Ext w w13):=zh ⟨hK.os.trans HE5.out.os,hK.tape.trans HE5.out.tape,hK.output.trans HE5.out.output,zw10 HE5.out.size hK.size,fun g hg=>(hK.block g (zw9 hg HE5.out.size) (.inl (by have:=hW0.out;omega))).trans (HE5.out.block g hg)⟩;replace HST:=zh (hK.own HST.out);replace HLG:=zh (hK.own HLG.out);replace HTK:=zh (hK.tk HTK.out HTN.out);replace HPL:=zh (hK.own HPL.out);clear hX hK ci HC;go_wp2_with fail;rw[rounds_succ];have co:=HX.out.op.cell 0;have cf:=HBF5.out.cell 0;have ce:=HBE5.out.cell 0;have zf:=HBF5.out.frozen 0;have ze:=HBE5.out.frozen 0;simp only[zzD,zzE,zzF]at co cf ce;go_wp2_with fail
 refine leaves_cons (f:=26) (args:= #[.pointer (some ⟨W0,0,none⟩),.pointer (some ⟨W0+1,0,none⟩)]) (by simp) (by simp[go_sem]) ?_;refine(catch_idle _ _ _).mono ?_;rintro e u' w14 ⟨rfl,rfl,rfl⟩;have c1:((w13.setCell ⟨W0,0,none⟩ (.pointer (some ⟨F,0,none⟩))).setCell ⟨W0+1,0,none⟩ (.int .i64 0)).cell? ⟨W0,0,none⟩=some (.pointer (some ⟨F,0,none⟩)):=((HBF5.out.set_ 0 _).far (p:=⟨W0+1,0,none⟩) (by show W0≠W0+1;omega) _).cell 0;have c2:((w13.setCell ⟨W0,0,none⟩ (.pointer (some ⟨F,0,none⟩))).setCell ⟨W0+1,0,none⟩ (.int .i64 0)).cell? ⟨W0+1,0,none⟩=some (.int .i64 0):=((HBE5.out.far (p:=⟨W0,0,none⟩) (by show W0+1≠W0;omega) _).set_ 0 _).cell 0;simp[Leaves,settle,results,Tryz.results11,go_sem,c1,c2];have kk:Kp W0 (W0+2) w13 ((w13.setCell ⟨W0,0,none⟩ (.pointer (some ⟨F,0,none⟩))).setCell ⟨W0+1,0,none⟩ (.int .i64 0)):=(Kp.set (p:=⟨W0,0,none⟩) (zw8 _) (by show W0<W0+2;omega) _).trans (Kp.set (p:=⟨W0+1,0,none⟩) (by show W0≤W0+1;omega) (by show W0+1<W0+2;omega) _);have hEE:Ext w ((w13.setCell ⟨W0,0,none⟩ (.pointer (some ⟨F,0,none⟩))).setCell ⟨W0+1,0,none⟩ (.int .i64 0)):=ext_set (ext_set HE5.out (p:=⟨W0,0,none⟩) (by rw[←hW0.out];exact zw8 _) _) (p:=⟨W0+1,0,none⟩) (by rw[←hW0.out];show W0≤W0+1;omega) _;clear c1 c2 co cf ce zf ze;generalize (w13.setCell ⟨W0,0,none⟩ (.pointer (some ⟨F,0,none⟩))).setCell ⟨W0+1,0,none⟩ (.int .i64 0)=wF at*;refine⟨?_,hEE⟩;obtain⟨A1,e1,hs1,u1,u2,u3,u4⟩:=HST.out.shape;subst hs1;obtain⟨A2,e2,hs2,v1,v2,v3,v4⟩:=HLG.out.shape;subst hs2;obtain⟨A3,e3,hs3,x1,x2,x3,x4⟩:=HPL.out.shape
 obtain⟨q1,q2,q3⟩:=Value.slice.inj hs3;subst q1 q3;have hpl:=HFD.out.pl;have hln:=HFD.out.len;have hlow:=HX.out.low;have hhigh:=HX.out.high
 (try simp only at hlow hhigh)
 have hK:r.K.toNat=k:=by have:=HFD.out.K;omega
 have r1:=OwnR.row Log.cS_len HST.out;have r2:=OwnR.row Log.cV_len HLG.out;have r3:RowR w13 Ap mp 1 cN (plc k b4 r.fs):=OwnR.row cN_len HPL.out;have hm:mp=r.fs.length:=by omega
 subst hm;have hev:=HFD.out.evs;have g1:=kk.blk (.inr hlow.2.1) HX.out.fl
 (try simp only at g1)
 rw[←HFD.out.N,←HFD.out.K]at g1;refine⟨⟨⟨F+1,F,bb,bb+1,bb+2,q,n,c'⟩,A1,e1,A2,e2,tv,Ap,cp,rfl,by rw[hev];exact g1,kk.bs HX.out.bytes (fun a e=>by cases e;exact hlow.2.2.2.2.2),HX.out.nc.1,HX.out.nc.2.1,kk.row r1 (fun a e=>by have:=u4 a e;omega),u3,u1,u2,by rw[hev];exact kk.row r2 (fun a e=>by have:=v4 a e;omega),by rw[hev];exact v3,by rw[hev];exact v1,v2,kk.tk HTK.out (fun a h=>by have:=HTN.out a h;omega),by rw[hK];exact kk.row r3 (fun a e=>by have:=x4 a e;omega),fun e=>by have:=x3 e;omega,by omega,x2,by have:=hW0.out;show _≤F;omega,by have:=hW0.out;show _≤q;omega,fun a e=>by have:=u4 a e;have:=hW0.out;omega,fun a e=>by have:=v4 a e;have:=hW0.out;omega,fun a e=>by have:=HTN.out a e;have:=hW0.out;omega,fun a e=>by have:=x4 a e;have:=hW0.out;omega⟩⟩
open Trk (Sl Tv Tk TkV mayT encT takeT)
open Log (Hv Ev En cH cS cV mayH putL encH)
theorem FV.ext {w w':World} {f:Nat} {xs:List Nat} {r:Rc} {b3 b4 iA:Nat} (h:FV w f xs r b3 b4 iA) (e:Ext w w'):FV w' f xs r b3 b4 iA:=by
 obtain⟨o,A,c,Al,cl,t,Ap,cp,h1,h2,h3,h4,h5,h6,h7,h8,h9,h10,h11,h12,h13,h14,h15,h16⟩:=h.ex;exact⟨⟨o,A,c,Al,cl,t,Ap,cp,h1,h2.ext e,h3.ext e,h4,h5,h6.ext e,h7,h8,h9,h10.ext e,h11,h12,h13,h14.ext e,h15.ext e,h16⟩⟩
def DPost (w:World) (zs:List Nat) (e:Ending) (w':World):Prop:=∃A' c',e= .returned (.tuple #[.slice A' zs.length c',.int .i64 0])∧Bs w' A' zs.length zs∧Ext w w'
def NPost (w:World) (x:Int) (e:Ending) (w':World):Prop:=e= .returned (.tuple #[.slice none 0 0,.int .i64 x])∧Ext w w'
def FrRel (w:World) (r:Rc) (t b0:Nat) (gh:Nat) (av fv ev:Value) (wr:World):Prop:=
 ∃(a m:Nat) (A:Option Addr) (c:Nat),a+gh=t∧b0≤a∧av= .int .i64 (a:Int)∧fv= .slice A m c∧(r.fs.getD a []).length=m∧ev= .int .i64 0∧Bs wr A m (r.fs.getD a [])∧Ext w wr
end Go.Proofs.YtbopblbhjcemaaaGreatDoor.Fil
