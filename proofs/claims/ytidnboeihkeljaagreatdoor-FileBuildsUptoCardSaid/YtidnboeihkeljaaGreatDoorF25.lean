
import Derived.Test.YtidnboeihkeljaaGreatDoorFilL
import Derived.WalkKit
import Derived.Defers
import Derived.Recover
import Derived.Test.YtidnboeihkeljaaGreatDoorFilF
import Derived.LoopN
import Derived.Test.YtidnboeihkeljaaGreatDoorChkF
set_option maxHeartbeats 16000000
set_option maxRecDepth 100000
set_option linter.all false
open Go.ChangeShapes Go.WideShapes Go.ChangeAt Go.RowKit
namespace Go.Proofs.YtidnboeihkeljaaGreatDoor.Fil
open Wire
open Rec
def fns (O b:Nat):Array Value:= #[.func (.func 86) #[.pointer (some ⟨O,0,none⟩)] #[],
 .func (.func 87) #[] #[.pointer (some ⟨b,0,none⟩),.pointer (some ⟨b+1,0,none⟩),.pointer (some ⟨b+2,0,none⟩)],
 .func (.func 90) #[] #[.pointer (some ⟨b,0,none⟩),.pointer (some ⟨b+1,0,none⟩)],
 .func (.func 92) #[] #[.pointer (some ⟨b,0,none⟩),.pointer (some ⟨b+1,0,none⟩),.pointer (some ⟨b+2,0,none⟩)],
 .func (.func 94) #[] #[.pointer (some ⟨b,0,none⟩),.pointer (some ⟨b+1,0,none⟩),.pointer (some ⟨b+2,0,none⟩)],
 .func (.func 96) #[] #[.pointer (some ⟨b+1,0,none⟩),.pointer (some ⟨b,0,none⟩)],
 .func (.func 98) #[] #[.pointer (some ⟨b,0,none⟩),.pointer (some ⟨b+1,0,none⟩)],
 .func (.func 99) #[.pointer (some ⟨O,0,none⟩)] #[]]
def StPost (w:World) (O F b:Nat) (e:Ending) (w':World):Prop:=
 e= .returned (.slice (some ⟨b+3,0,none⟩) 8 8)∧Blk w' b 121 #[.pointer (some ⟨O,0,none⟩)]∧Blk w' (b+1) 53 #[.pointer (some ⟨F,0,none⟩)]∧Blk w' (b+2) 49 #[.int .i64 0]∧Blk w' (b+3) 1 (fns O b)∧Ext w w'∧w'.heap.size=b+4
theorem steps_st (w:World) (O F:Nat) (a:Int) (h:Blk w O 124 #[.pointer (some ⟨F,0,none⟩),.int .i64 a]):
  Calls Tryz.prog 54 #[.pointer (some ⟨O,0,none⟩)] w (StPost w O F w.heap.size):=by
 have hmf:∀(fn:Fn) (first cap:Array Value) (w:World),(Instr.makeFunc fn first cap).run Tryz.prog w= .ok (.func fn first cap) w:=fun _ _ _ _=>rfl;have f0:=h.cell 0;have hl:=h.lt;have HH:=zh h;simp only[zzD,zzE,zzF]at f0;clear h;go_enter Tryz.func54,Tryz.ntmps54;go_wp2_with fail;have q1:(w.alloc (.cells #[.pointer (some ⟨O,0,none⟩)] 121)).heap.size=w.heap.size+1:=zw22 _ _;have b0:=Blk.new w 121 #[.pointer (some ⟨O,0,none⟩)];have b1:=Blk.new (w.alloc (.cells #[.pointer (some ⟨O,0,none⟩)] 121)) 53 #[.pointer (some ⟨F,0,none⟩)];have b2:=Blk.new ((w.alloc (.cells #[.pointer (some ⟨O,0,none⟩)] 121)).alloc (.cells #[.pointer (some ⟨F,0,none⟩)] 53)) 49 #[.int .i64 0];have b3:=Blk.new (((w.alloc (.cells #[.pointer (some ⟨O,0,none⟩)] 121)).alloc (.cells #[.pointer (some ⟨F,0,none⟩)] 53)).alloc (.cells #[.int .i64 0] 49)) 1 (fns O w.heap.size);simp only[zw22]at b1 b2 b3;go_ret;refine⟨rfl,((b0.alloc _).alloc _).alloc _,(b1.alloc _).alloc _,b2.alloc _,b3,zxa (zxa (zxa (zxa (zxr _) _) _) _) _,?_⟩;simp only[zw22]
theorem catch_idle (p q:Addr) (w:World):
  CallsD Tryz.prog 51 #[.pointer (some p),.pointer (some q)] .returning w fun e u' w'=>e= .returned (.tuple #[])∧u'= .returning∧w'=w:=by
 refine callsD_of_wpS Tryz.func51 rfl fun c₀ cs hu=>?_;simp only[Tryz.ntmps51,List.size_toArray,zw3,zw26,Nat.reduceAdd,Nat.reduceSub,Array.replicate_succ,Array.replicate_zero,List.push_toArray,List.append_toArray,zw17,List.cons_append];apply wpS_seq;apply wpS_region;simp[wpOpsS,go_sem,recoverD,hu,Tryz.ntmps51,Exit.thenS];refine wpS_of_wp ?_;go_wp2_with fail;cases c₀
 simp_all [bodyPostS,results,Tryz.results51]
open Trk (Sl Tv Tk TkV mayT encT takeT NewT TuPost)
open Log (Hv Ev En cH cS cV mayH putL encH RSt nx va pN pI pF thL takeL OwnR_mono' OwnR_keep)
def noT:Tv:=⟨⟨none,0,0⟩,⟨none,0,0⟩,⟨none,0,0⟩,⟨none,0,0⟩,⟨none,0,0⟩⟩
def noH:Hv:=⟨0,0,0,0,⟨#[]⟩,[]⟩
def plc (k a:Nat) (fs:List (List Nat)):List Nat:=(List.range fs.length).map (bg k a fs)
theorem plc_eq (k a:Nat) (fs:List (List Nat)):plc k a fs=pls k 0 [] a fs:=by
 refine List.ext_getElem? (fun i=>?_);by_cases h:i<fs.length
 ·rw[pls_get k fs 0 [] a i h,plc,List.getElem?_map,List.getElem?_range h];rfl
 ·rw[List.getElem?_eq_none (by rw[plc,zw4,zw37];omega),List.getElem?_eq_none (by rw[pls_len];omega)]
structure FV (w:World) (f:Nat) (xs:List Nat) (r:Rc) (b3 b4 iA:Nat):Prop where
 ex:∃(o:Ob5) (A:Option Addr) (c:Nat) (Al:Option Addr) (cl:Nat) (t:Tv) (Ap:Option Addr) (cp:Nat),
  o.F=f∧Blk w f 96 (cFl (.slice (some ⟨o.q,0,none⟩) o.n o.c) r.x (.slice A r.x.starts.length c) (.slice Al r.evs.length cl) r.N r.K t b3 b4 (.slice Ap r.fs.length cp) iA)∧
  Bs w (some ⟨o.q,0,none⟩) o.n xs∧o.n≤o.c∧o.c≤9223372036854775807∧RowR w A r.x.starts.length 3 cS r.x.starts∧(A=none→r.x.starts.length=0∧c=0)∧r.x.starts.length≤c∧c≤9223372036854775807∧
  RowR w Al r.evs.length 7 cV r.evs∧(Al=none→r.evs.length=0∧cl=0)∧r.evs.length≤cl∧cl≤9223372036854775807∧TkV w t r.tr∧RowR w Ap r.fs.length 1 cN (plc r.K.toNat b4 r.fs)∧(Ap=none→r.fs.length=0∧cp=0)∧r.fs.length≤cp∧cp≤9223372036854775807
structure Opn (xs:List Nat) (r:Rc) (L:List Nat) (b3 b4 iA:Nat):Prop where
 rds:Rds xs (encH r.x.hd) L (encT r.tr) r.N.toNat r.K.toNat r.fs b3 b4 iA
 put:putL r.N r.evs=some L
 low:Low r
 may:mayR r
theorem Kp.blk {b D:Nat} {w w':World} (h:Kp b D w w') {g:Nat} {t:TypeId} {cs:Array Value} (hg:g<b∨D≤g) (hb:Blk w g t cs):Blk w' g t cs:=(h.block g hb.lt hg).trans hb
theorem clone0 (A:Option Addr) (n c:Nat) (xs:List Nat) (w:World) (hB:Bs w A n xs) (hp:0<n) (hn:n≤4000000000):
  Calls Tryz.prog 53 #[.slice A n c] w fun e w'=>∃g c',e= .returned (.slice (some ⟨g,0,none⟩) n c')∧n≤c'∧c'≤9223372036854775807∧w.heap.size≤g∧g<w'.heap.size∧Bs w' (some ⟨g,0,none⟩) n xs∧Ext w w':=by
 have hnl:=@Lib.run_eql_slice_nil Tryz.prog;obtain⟨b,o,rfl,_⟩:=hB.2.2 hp;obtain⟨a,ha⟩:∃a:Addr,a=⟨b,o,none⟩:=⟨_,rfl⟩;rw[←ha]at hB ⊢;clear ha;have hxl:=hB.1;subst hxl;have HE:=zh (zxa (zxr w) (.cells #[] 5));have HSM:=zh hB.2.1;have HSR:Hid (Src Tryz.prog 1 48 (.slice (some a) xs.length c) xs.length (c8 xs) (w.alloc (.cells #[] 5))):=zh (Bs.src (hB.ext HE.out) Tryz.underlying48 c);have HOW:Hid (Wire.Own w (w.alloc (.cells #[] 5)) (.slice (some ⟨w.heap.size,0,none⟩) 0 0) []):=zh (World.ownsRow_made w #[] 0 (zw8 _) (by unfold maxLen;omega) rfl);have HQ:Hid (([]:List Nat).length+xs.length≤140737488355328):=zh (by simp;omega);have HP:=zh hp;clear hB hp;go_enter Tryz.func53,Tryz.ntmps53;go_wp2_with (first | (at_builtin;refine wpList_own (W:=w) rfl (.tmp 5) (.tmp 6) 48 rfl (.slice (some ⟨w.heap.size,0,none⟩) 0 0) (.slice (some a) xs.length c) [] xs rfl rfl HOW.out HE.out HSR.out HQ.out ?_;intro v2 w2 hown2 hE2))
 have HO2:Hid (Wire.Own w w2 v2 xs):=zh hown2;have HE2:=zh hE2;clear hown2 hE2;go_ret;obtain⟨A2,c2,rfl,h1,h2,h3⟩:=own_shape HO2.out;obtain⟨g,rfl,hg⟩:=h3 HP.out;exact⟨g,c2,rfl,h1,by unfold maxLen at h2;omega,hg,(zw23 HO2.out g (by simp[Value.ownBlock])).2,Wire.Own.bs HO2.out HSM.out,HE2.out⟩
structure Fnd (xs:List Nat) (r:Rc) (L:List Nat) (b3 b4 iA n k:Nat) (es:List En) (b1 b2:Nat):Prop where
 N:r.N=(n:Int)
 K:r.K=(k:Int)
 n4:n≤4096
 kk:1≤k∧k≤256
 len:r.fs.length=n+1
 evs:r.evs=es.map En.ev
 sum:be (xs.drop (xs.length-4))=Chk.crc (xs.take (xs.length-4))
 magic:xs.take 4=[82,77,67,72]
 t1:Chk.takeAt xs ((4:Nat):Int) 2097152= .ok 1 (encH r.x.hd) b1
 t2:Chk.takeAt xs (b1:Int) 2097152= .ok 2 (vb n++vb k) b2
 t3:Chk.takeAt xs (b2:Int) 2097152= .ok 3 L b3
 t4:Chk.takeAt xs (b3:Int) 2097152= .ok 4 (encT r.tr) b4
 t7:Chk.takeAt xs (iA:Int) 2097152= .ok 7 (idx 0 (plc k b4 r.fs)) (xs.length-8)
 tk:∀i,i≤n→∃hw sz bd,Chk.readAt xs (bg k b4 r.fs i:Nat)= .ok (kd k i) hw sz bd (bg k b4 r.fs (i+1))
 b0:bg k b4 r.fs 0=b4
 bn:bg k b4 r.fs (n+1)=iA
 p1:0<(encH r.x.hd).length∧(encH r.x.hd).length≤1000000
 p3:0<L.length∧L.length≤1000000
 p4:0<(encT r.tr).length∧(encT r.tr).length≤1000000
 p7:0<(idx 0 (plc k b4 r.fs)).length
 h1:thL (encH r.x.hd)=some r.x
 h3:takeL n L=some es
 h4:takeT n (encT r.tr)=some r.tr
 up:up 0 (plc k b4 r.fs)
 pl:(plc k b4 r.fs).length=n+1
 ia:iA<4294967296
 foot:(xs.drop (xs.length-8)).take 4=fx iA
theorem Opn.fnd {xs:List Nat} {r:Rc} {L:List Nat} {b3 b4 iA:Nat} (h:Opn xs r L b3 b4 iA):∃n k es b1 b2,Fnd xs r L b3 b4 iA n k es b1 b2:=by
 obtain⟨hr,hp,hlo,hm⟩:=h;obtain⟨m1,m2,m3,m4,m5,m6,m7⟩:=hm;have hN:=(Trk.mayT_parts m3).1;obtain⟨es,he1,he2⟩:=Log.take_put hlo.efit (by have:=hlo.evs;omega) hp;obtain⟨n,hn⟩:∃n:Nat,r.N=(n:Int):=⟨r.N.toNat,by omega⟩;obtain⟨k,hk⟩:∃k:Nat,r.K=(k:Int):=⟨r.K.toNat,by omega⟩;have hnn:r.N.toNat=n:=by omega
 have hkk:r.K.toNat=k:=by omega
 rw[hnn,hkk]at hr;obtain⟨b1,b2,t1,t2,t3⟩:=hr.span;have hl:r.fs.length=n+1:=by omega
 have hw:(vb n).length≥1:=vb_pos n;rw[hn]at he2 hp m3;have hO:=hr.order;have hhi:=hr.high;have hb0:bg k b4 r.fs 0=b4:=bg_zero k b4 r.fs;have hbn:bg k b4 r.fs (n+1)=iA:=by rw[←hl];exact hr.last
 refine⟨n,k,es,b1,b2,hn,hk,by omega,by omega,hl,he1,?_,hr.magic,t1,t2,t3,hr.track,?_,fun i hi=>hr.tick i (by omega),hb0,hbn,⟨?_,?_⟩,⟨?_,?_⟩,⟨?_,?_⟩,?_,Log.take_header m1 hlo.sfit hlo.seed,he2,Trk.takeT_put m3,?_,by rw[plc_eq,pls_len,hl],by omega,hr.foot⟩
 ·rw[hr.sum,be_fx (Chk.crc_lt _)]
 ·rw[plc_eq];exact hr.index
 ·show 0<(vb _++_).length
  rw[zw0];have:=vb_pos (Hv.hd r.x).w;omega
 ·have:=Log.encH_len r.x m1 hlo.sfit;omega
 ·unfold putL at hp
  split at hp
  ·cases hp
   rw[zw0];have:=vb_pos r.evs.length;omega
  ·cases hp
 ·have:=Log.putL_len hlo.efit (by have:=hlo.evs;omega) hp;omega
 ·have he:encT r.tr=Trk.encC r.tr.c0++(Trk.encC r.tr.c1++(Trk.encC r.tr.c2++(Trk.encC r.tr.c3++(vb r.tr.marks.length++Trk.encMs 0 r.tr.marks)))):=by simp[encT,Tk.cams,Trk.encM]
  rw[he];simp only[zw0];have:=vb_pos r.tr.marks.length;omega
 ·have:=(Trk.encT_both m3).1;omega
 ·rw[plc_eq]
  cases hf:r.fs with
  | nil=>rw[hf]at hl;simp at hl
  | cons f fs=>
   rw[pls,idx,zw0];have:=vb_pos (b4-0);omega
 ·rw[plc_eq]
  refine up_pls k r.fs 0 [] b4 0 (by omega) ?_;have h1:=bg_last k b4 r.fs;rw[hl,hbn]at h1;omega
theorem open_ok (A:Option Addr) (n c:Nat) (xs:List Nat) (r:Rc) (L:List Nat) (b3 b4 iA:Nat) (w:World) (hT:Crc.Tab w) (hB:Bs w A n xs) (hn:n≤c) (hc:c≤9223372036854775807) (h:Opn xs r L b3 b4 iA):
  Calls Tryz.prog 21 #[.slice A n c] w fun e w'=>∃f,e= .returned (.tuple #[.pointer (some ⟨f,0,none⟩),.int .i64 0])∧FV w' f xs r b3 b4 iA∧Ext w w':=by
 have hmf:∀(fn:Fn) (first cap:Array Value) (w:World),(Instr.makeFunc fn first cap).run Tryz.prog w= .ok (.func fn first cap) w:=fun _ _ _ _=>rfl;have hxl:xs.length=n:=hB.1;have hlo:=h.rds.low;have hhi:=h.rds.high;have y1:(n:Int)≤4194304:=by omega
 have y2:(12:Int)≤(n:Int):=by omega
 have HE0:=zh (zxa (zxa (zxr w) (.cells #[.pointer none] 53)) (.cells #[.int .i64 0] 49));have HCL:=zh (clone0 A n c xs _ (hB.ext HE0.out) (by omega) (by omega));have HH:=zh h;have HT:=zh hT;have HN:=zh (And.intro hn (And.intro hc (And.intro hxl (And.intro hlo hhi))));clear hT hB hn hc h hxl hlo hhi
 go_enter_defers Tryz.func21,Tryz.ntmps21
 go_wp2_with fail;refine(must_ok _ _).mono ?_;rintro e w0 ⟨rfl,rfl⟩;have HBF:=zh ((Blk.new w 53 #[.pointer none]).alloc (.cells #[.int .i64 0] 49));have HBE:=zh (Blk.new1 w (.cells #[.pointer none] 53) 49 #[.int .i64 0]);have HSZ:Hid (((w.alloc (.cells #[.pointer none] 53)).alloc (.cells #[.int .i64 0] 49)).heap.size=w.heap.size+2):=zh (by rw[zw22,zw22]);obtain⟨w1,hw1⟩:∃q,q=(w.alloc (.cells #[.pointer none] 53)).alloc (.cells #[.int .i64 0] 49):=⟨_,rfl⟩;rw[←hw1]at HE0 HCL HBF HBE HSZ ⊢;clear hw1;obtain⟨W0,hW0⟩:∃q,q=w.heap.size:=⟨_,rfl⟩;rw[←hW0]at HBF HBE HSZ ⊢;replace hW0:=zh hW0;go_wp2_with fail;refine(must_ok _ _).mono ?_;rintro e w0 ⟨rfl,rfl⟩;go_wp2_with fail;refine(HCL.out).mono ?_;rintro e w2 ⟨q,c',rfl,hn2,hc2,hq1,hq2,hB2,hE2⟩;have HE2:=zh hE2;have HB2:=zh hB2;have HN2:=zh (And.intro hn2 (And.intro hc2 (And.intro hq1 hq2)));clear hn2 hc2 hq1 hq2 hB2 hE2 HCL;go_upto_region 5 with fail;have HF:=zh ((Blk.new w2 96 (cFl (.slice (some ⟨q,0,none⟩) n c') noH (.slice none 0 0) (.slice none 0 0) 0 0 noT 0 0 (.slice none 0 0) 0)).alloc (.cells #[.pointer (some ⟨w2.heap.size,0,none⟩),.int .i64 0] 124));have HOP:=zh (Blk.new1 w2 (.cells (cFl (.slice (some ⟨q,0,none⟩) n c') noH (.slice none 0 0) (.slice none 0 0) 0 0 noT 0 0 (.slice none 0 0) 0) 96) 124 #[.pointer (some ⟨w2.heap.size,0,none⟩),.int .i64 0]);have HE4:=zh (zxa (zxa (zxr w2) (.cells (cFl (.slice (some ⟨q,0,none⟩) n c') noH (.slice none 0 0) (.slice none 0 0) 0 0 noT 0 0 (.slice none 0 0) 0) 96)) (.cells #[.pointer (some ⟨w2.heap.size,0,none⟩),.int .i64 0] 124))
 obtain⟨w4,hw4⟩:∃u,u=(w2.alloc (.cells #[.slice (some ⟨q,0,none⟩) n c',.int .i64 0,.int .i64 0,.int .i64 0,.int .u32 0,.string ⟨#[]⟩,.slice none 0 0,.slice none 0 0,.int .i64 0,.int .i64 0,.slice none 0 0,.slice none 0 0,.slice none 0 0,.slice none 0 0,.slice none 0 0,.slice none 0 0,.int .i64 0,.int .i64 0,.slice none 0 0,.int .i64 0] 96)).alloc (.cells #[.pointer (some ⟨w2.heap.size,0,none⟩),.int .i64 0] 124):=⟨_,rfl⟩;simp only[cFl,noH,noT,Int.natCast_zero,Int.ofNat_zero,Int.cast_ofNat_Int]at HF HOP HE4;rw[←hw4]at HF HOP HE4 ⊢;clear hw4;obtain⟨F,hF⟩:∃u,u=w2.heap.size:=⟨_,rfl⟩;rw[←hF]at HF HOP HN2 ⊢;have HFO:Hid (F+1<w4.heap.size):=zh HOP.out.lt;replace hF:=zh hF;go_wp2_with fail;refine(steps_st w4 (F+1) F 0 HOP.out).mono ?_;rintro e w5 ⟨rfl,hb0,hb1,hb2,hb3,hE5,hsz⟩;obtain⟨bb,hbb⟩:∃u,u=w4.heap.size:=⟨_,rfl⟩;rw[←hbb]at hb0 hb1 hb2 hb3 hsz HFO ⊢;have HTAB:=zh (((HT.out.ext HE0.out).ext HE2.out).ext HE4.out);have HX:Hid (OW (W0+2) (bb+3) ⟨F+1,F,bb,bb+1,bb+2,q,n,c'⟩ xs w5 (cFl (.slice (some ⟨q,0,none⟩) n c') noH (.slice none 0 0) (.slice none 0 0) 0 0 noT 0 0 (.slice none 0 0) 0) 0):=zh (by
  obtain⟨n1,n2,n3,n4⟩:=HN2.out;obtain⟨_,_,n5,n6,n7⟩:=HN.out;have e1:=HSZ.out;have e2:=HFO.out;exact⟨HOP.out.ext hE5,HF.out.ext hE5,hb0,hb1,⟨0,hb2⟩,HTAB.out.ext hE5,by have:=HT.out.lt;have:=hW0.out;omega,(HB2.out.ext HE4.out).ext hE5,rfl,⟨n1,n2,by show 12≤n;omega,by show n≤900000;omega⟩,
   ⟨by show W0+2≤F+1;omega,by show W0+2≤F;omega,by show W0+2≤bb;omega,by show W0+2≤bb+1;omega,by show W0+2≤bb+2;omega,by show W0+2≤q;omega⟩,
   ⟨by show F+1<bb+3;omega,by show F<bb+3;omega,by show bb<bb+3;omega,by show bb+1<bb+3;omega,by show bb+2<bb+3;omega,by show q<bb+3;omega,by omega⟩,
   ⟨by show F+1≠F;omega,by show F+1≠bb;omega,by show F+1≠bb+1;omega,by show F+1≠bb+2;omega,by show F≠bb;omega,by show F≠bb+1;omega,by show F≠bb+2;omega,by show bb+2≠bb;omega,by show bb+2≠bb+1;omega,by show q≠F+1;omega,by show q≠F;omega,by show q≠bb+2;omega⟩⟩)
 have HFN:=zh hb3;have HBF5:Hid (Blk w5 W0 53 #[.pointer none]):=zh (((HBF.out.ext HE2.out).ext HE4.out).ext hE5);have HBE5:Hid (Blk w5 (W0+1) 49 #[.int .i64 0]):=zh (((HBE.out.ext HE2.out).ext HE4.out).ext hE5);have HE5:Hid (Ext w w5):=zh (zxt (zxt (zxt HE0.out HE2.out) HE4.out) hE5);clear hb0 hb1 hb2 hb3 hE5 hsz HFO HTAB HF HOP HE4 HE2 HE0 HB2 HN2 HBF HBE hbb;obtain⟨n0,k,es,b1,b2,hfnd⟩:=HH.out.fnd;have HFD:=zh hfnd;clear hfnd;have hb32:bb+1+1=bb+2:=rfl;go_wp2_with fail;refine wp_loop_rounds 9 ?_;rw[rounds_succ];have ci:=HFN.out.cell 0;simp only[fns,zzD,zzE,zzF]at ci;have HC:=zh (around_any (W0+2) (bb+3) ⟨F+1,F,bb,bb+1,bb+2,q,n,c'⟩ xs _ 0 w5 HX.out (fun _=>HFD.out.magic));simp only[if_pos HFD.out.sum]at HC;go_wp2_with fail;refine(HC.out).mono ?_;rintro e w6 ⟨rfl,hX,hK⟩;replace HX:=zh hX;replace HFN:=zh (hK.blk (.inr (zw8 _)) HFN.out);replace HBF5:=zh (hK.blk (.inl (by omega)) HBF5.out);replace HBE5:=zh (hK.blk (.inl (by omega)) HBE5.out);replace HE5:Hid (Ext w w6):=zh ⟨hK.os.trans HE5.out.os,hK.tape.trans HE5.out.tape,hK.output.trans HE5.out.output,zw10 HE5.out.size hK.size,fun g hg=>(hK.block g (zw9 hg HE5.out.size) (.inl (by have:=hW0.out;omega))).trans (HE5.out.block g hg)⟩;clear hX hK ci HC;go_wp2_with fail;rw[rounds_succ];have ci:=HFN.out.cell 1;simp only[fns,zzD,zzE,zzF]at ci;have HC:=zh (s1_ok (W0+2) (bb+3) ⟨F+1,F,bb,bb+1,bb+2,q,n,c'⟩ xs 4 _ _ _ _ _ _ _ _ _ _ (encH r.x.hd) b1 r.x w6 HX.out HFD.out.t1 HFD.out.p1.1 HFD.out.p1.2 HFD.out.h1);go_wp2_with fail;refine(HC.out).mono ?_
 rintro e w7 ⟨sv,⟨rfl,hX,hK⟩,hO⟩;replace HX:=zh hX;replace HFN:=zh (hK.blk (.inr (zw8 _)) HFN.out);replace HBF5:=zh (hK.blk (.inl (by omega)) HBF5.out);replace HBE5:=zh (hK.blk (.inl (by omega)) HBE5.out);replace HE5:Hid (Ext w w7):=zh ⟨hK.os.trans HE5.out.os,hK.tape.trans HE5.out.tape,hK.output.trans HE5.out.output,zw10 HE5.out.size hK.size,fun g hg=>(hK.block g (zw9 hg HE5.out.size) (.inl (by have:=hW0.out;omega))).trans (HE5.out.block g hg)⟩;have HST:=zh hO;clear hX hK ci HC hO;go_wp2_with fail;rw[rounds_succ];have ci:=HFN.out.cell 2;simp only[fns,zzD,zzE,zzF]at ci;have HC:=zh (s2_ok (W0+2) (bb+3) ⟨F+1,F,bb,bb+1,bb+2,q,n,c'⟩ xs b1 _ _ _ _ _ _ _ _ _ _ n0 k b2 w7 HX.out HFD.out.t2 HFD.out.n4 HFD.out.kk);go_wp2_with fail;refine(HC.out).mono ?_;rintro e w8 ⟨rfl,hX,hK⟩;replace HX:=zh hX;replace HFN:=zh (hK.blk (.inr (zw8 _)) HFN.out);replace HBF5:=zh (hK.blk (.inl (by omega)) HBF5.out);replace HBE5:=zh (hK.blk (.inl (by omega)) HBE5.out);replace HE5:Hid (Ext w w8):=zh ⟨hK.os.trans HE5.out.os,hK.tape.trans HE5.out.tape,hK.output.trans HE5.out.output,zw10 HE5.out.size hK.size,fun g hg=>(hK.block g (zw9 hg HE5.out.size) (.inl (by have:=hW0.out;omega))).trans (HE5.out.block g hg)⟩;replace HST:=zh (hK.own HST.out);clear hX hK ci HC;go_wp2_with fail;rw[rounds_succ];have ci:=HFN.out.cell 3;simp only[fns,zzD,zzE,zzF]at ci;have HC:=zh (s3_ok (W0+2) (bb+3) ⟨F+1,F,bb,bb+1,bb+2,q,n,c'⟩ xs b2 _ _ _ _ _ _ _ _ _ _ L b3 es w8 HX.out HFD.out.t3 HFD.out.p3.1 HFD.out.p3.2 HFD.out.h3);go_wp2_with fail
 refine(HC.out).mono ?_;rintro e w9 ⟨lv,⟨rfl,hX,hK⟩,hO⟩;replace HX:=zh hX;replace HFN:=zh (hK.blk (.inr (zw8 _)) HFN.out);replace HBF5:=zh (hK.blk (.inl (by omega)) HBF5.out);replace HBE5:=zh (hK.blk (.inl (by omega)) HBE5.out);replace HE5:Hid (Ext w w9):=zh ⟨hK.os.trans HE5.out.os,hK.tape.trans HE5.out.tape,hK.output.trans HE5.out.output,zw10 HE5.out.size hK.size,fun g hg=>(hK.block g (zw9 hg HE5.out.size) (.inl (by have:=hW0.out;omega))).trans (HE5.out.block g hg)⟩;replace HST:=zh (hK.own HST.out);have HLG:=zh hO;clear hX hK ci HC hO;go_wp2_with fail;rw[rounds_succ];have ci:=HFN.out.cell 4;simp only[fns,zzD,zzE,zzF]at ci;have HC:=zh (s4_ok (W0+2) (bb+3) ⟨F+1,F,bb,bb+1,bb+2,q,n,c'⟩ xs b3 _ _ _ _ _ _ _ _ _ _ (encT r.tr) b4 r.tr w9 HX.out HFD.out.t4 HFD.out.p4.1 HFD.out.p4.2 HFD.out.h4 (by have:=HFD.out.n4;omega));go_wp2_with fail;refine(HC.out).mono ?_;rintro e w10 ⟨tv,⟨rfl,hX,hK⟩,hO,hN⟩;replace HX:=zh hX;replace HFN:=zh (hK.blk (.inr (zw8 _)) HFN.out);replace HBF5:=zh (hK.blk (.inl (by omega)) HBF5.out);replace HBE5:=zh (hK.blk (.inl (by omega)) HBE5.out);replace HE5:Hid (Ext w w10):=zh ⟨hK.os.trans HE5.out.os,hK.tape.trans HE5.out.tape,hK.output.trans HE5.out.output,zw10 HE5.out.size hK.size,fun g hg=>(hK.block g (zw9 hg HE5.out.size) (.inl (by have:=hW0.out;omega))).trans (HE5.out.block g hg)⟩;replace HST:=zh (hK.own HST.out);replace HLG:=zh (hK.own HLG.out);have HTK:=zh hO;have HTN:=zh hN;clear hX hK ci HC hO hN;go_wp2_with fail;rw[rounds_succ];have ci:=HFN.out.cell 5;simp only[fns,zzD,zzE,zzF]at ci
 have HC:=zh (s5_ok (W0+2) (bb+3) ⟨F+1,F,bb,bb+1,bb+2,q,n,c'⟩ xs (bg k b4 r.fs) _ _ _ n0 k _ _ _ _ w10 (by rw[HFD.out.b0];exact HX.out) HFD.out.tk HFD.out.n4 HFD.out.kk);go_wp2_with fail;refine(HC.out).mono ?_;rintro e w11 ⟨Ap,mp,cp,⟨rfl,hX,hK⟩,hO⟩;replace HX:=zh hX;replace HFN:=zh (hK.blk (.inr (zw8 _)) HFN.out);replace HBF5:=zh (hK.blk (.inl (by omega)) HBF5.out);replace HBE5:=zh (hK.blk (.inl (by omega)) HBE5.out);replace HE5:Hid (Ext w w11):=zh ⟨hK.os.trans HE5.out.os,hK.tape.trans HE5.out.tape,hK.output.trans HE5.out.output,zw10 HE5.out.size hK.size,fun g hg=>(hK.block g (zw9 hg HE5.out.size) (.inl (by have:=hW0.out;omega))).trans (HE5.out.block g hg)⟩;replace HST:=zh (hK.own HST.out);replace HLG:=zh (hK.own HLG.out);replace HTK:=zh (hK.tk HTK.out HTN.out);have HPL:Hid (OwnR (bb+3) w11 3 1 cN (.slice Ap mp cp) (plc k b4 r.fs)):=zh (by have:=hO;unfold plc;rw[HFD.out.len];exact this);replace HX:=zh (by have:=HX.out;rw[HFD.out.bn]at this;exact this);clear hX hK ci HC hO;go_wp2_with fail;rw[rounds_succ];have ci:=HFN.out.cell 6;simp only[fns,zzD,zzE,zzF]at ci;have HC:=zh (s6_ok (W0+2) (bb+3) ⟨F+1,F,bb,bb+1,bb+2,q,n,c'⟩ xs iA _ _ _ _ _ _ _ _ _ _ _ _ (plc k b4 r.fs) (xs.length-8) w11 HX.out HFD.out.t7 HFD.out.p7 HPL.out HFD.out.up (by rw[HFD.out.pl];have:=HFD.out.n4;omega));go_wp2_with fail;refine(HC.out).mono ?_;rintro e w12 ⟨rfl,hX,hK⟩;replace HX:=zh hX;replace HFN:=zh (hK.blk (.inr (zw8 _)) HFN.out);replace HBF5:=zh (hK.blk (.inl (by omega)) HBF5.out);replace HBE5:=zh (hK.blk (.inl (by omega)) HBE5.out)
 replace HE5:Hid (Ext w w12):=zh ⟨hK.os.trans HE5.out.os,hK.tape.trans HE5.out.tape,hK.output.trans HE5.out.output,zw10 HE5.out.size hK.size,fun g hg=>(hK.block g (zw9 hg HE5.out.size) (.inl (by have:=hW0.out;omega))).trans (HE5.out.block g hg)⟩;replace HST:=zh (hK.own HST.out);replace HLG:=zh (hK.own HLG.out);replace HTK:=zh (hK.tk HTK.out HTN.out);replace HPL:=zh (hK.own HPL.out);clear hX hK ci HC;go_wp2_with fail;rw[rounds_succ];have ci:=HFN.out.cell 7;simp only[fns,zzD,zzE,zzF]at ci;have HC:=zh (foot_ok (W0+2) (bb+3) ⟨F+1,F,bb,bb+1,bb+2,q,n,c'⟩ xs _ (xs.length-8) iA w12 HX.out (by have:=HN.out;show _=n;omega) rfl HFD.out.ia HFD.out.foot);go_wp2_with fail;refine(HC.out).mono ?_;rintro e w13 ⟨rfl,hX,hK⟩;replace HX:=zh hX;replace HFN:=zh (hK.blk (.inr (zw8 _)) HFN.out);replace HBF5:=zh (hK.blk (.inl (by omega)) HBF5.out);replace HBE5:=zh (hK.blk (.inl (by omega)) HBE5.out);replace HE5:Hid (Ext w w13):=zh ⟨hK.os.trans HE5.out.os,hK.tape.trans HE5.out.tape,hK.output.trans HE5.out.output,zw10 HE5.out.size hK.size,fun g hg=>(hK.block g (zw9 hg HE5.out.size) (.inl (by have:=hW0.out;omega))).trans (HE5.out.block g hg)⟩;replace HST:=zh (hK.own HST.out);replace HLG:=zh (hK.own HLG.out);replace HTK:=zh (hK.tk HTK.out HTN.out);replace HPL:=zh (hK.own HPL.out);clear hX hK ci HC;go_wp2_with fail;rw[rounds_succ];have co:=HX.out.op.cell 0;have cf:=HBF5.out.cell 0;have ce:=HBE5.out.cell 0;have zf:=HBF5.out.frozen 0;have ze:=HBE5.out.frozen 0;simp only[zzD,zzE,zzF]at co cf ce;go_wp2_with fail
 refine leaves_cons (f:=51) (args:= #[.pointer (some ⟨W0,0,none⟩),.pointer (some ⟨W0+1,0,none⟩)]) (by simp) (by simp[go_sem]) ?_;refine(catch_idle _ _ _).mono ?_;rintro e u' w14 ⟨rfl,rfl,rfl⟩;have c1:((w13.setCell ⟨W0,0,none⟩ (.pointer (some ⟨F,0,none⟩))).setCell ⟨W0+1,0,none⟩ (.int .i64 0)).cell? ⟨W0,0,none⟩=some (.pointer (some ⟨F,0,none⟩)):=((HBF5.out.set_ 0 _).far (p:=⟨W0+1,0,none⟩) (by show W0≠W0+1;omega) _).cell 0;have c2:((w13.setCell ⟨W0,0,none⟩ (.pointer (some ⟨F,0,none⟩))).setCell ⟨W0+1,0,none⟩ (.int .i64 0)).cell? ⟨W0+1,0,none⟩=some (.int .i64 0):=((HBE5.out.far (p:=⟨W0,0,none⟩) (by show W0+1≠W0;omega) _).set_ 0 _).cell 0;simp[Leaves,settle,results,Tryz.results21,go_sem,c1,c2];have kk:Kp W0 (W0+2) w13 ((w13.setCell ⟨W0,0,none⟩ (.pointer (some ⟨F,0,none⟩))).setCell ⟨W0+1,0,none⟩ (.int .i64 0)):=(Kp.set (p:=⟨W0,0,none⟩) (zw8 _) (by show W0<W0+2;omega) _).trans (Kp.set (p:=⟨W0+1,0,none⟩) (by show W0≤W0+1;omega) (by show W0+1<W0+2;omega) _);have hEE:Ext w ((w13.setCell ⟨W0,0,none⟩ (.pointer (some ⟨F,0,none⟩))).setCell ⟨W0+1,0,none⟩ (.int .i64 0)):=ext_set (ext_set HE5.out (p:=⟨W0,0,none⟩) (by rw[←hW0.out];exact zw8 _) _) (p:=⟨W0+1,0,none⟩) (by rw[←hW0.out];show W0≤W0+1;omega) _;clear c1 c2 co cf ce zf ze;generalize (w13.setCell ⟨W0,0,none⟩ (.pointer (some ⟨F,0,none⟩))).setCell ⟨W0+1,0,none⟩ (.int .i64 0)=wF at*;refine⟨?_,hEE⟩;obtain⟨A1,e1,hs1,u1,u2,u3,u4⟩:=HST.out.shape;subst hs1;obtain⟨A2,e2,hs2,v1,v2,v3,v4⟩:=HLG.out.shape;subst hs2;obtain⟨A3,e3,hs3,x1,x2,x3,x4⟩:=HPL.out.shape
 obtain⟨q1,q2,q3⟩:=Value.slice.inj hs3;subst q1 q3;have hpl:=HFD.out.pl;have hln:=HFD.out.len;have hlow:=HX.out.low;have hhigh:=HX.out.high
 (try simp only at hlow hhigh)
 have hK:r.K.toNat=k:=by have:=HFD.out.K;omega
 have r1:=OwnR.row Log.cS_len HST.out;have r2:=OwnR.row Log.cV_len HLG.out;have r3:RowR w13 Ap mp 1 cN (plc k b4 r.fs):=OwnR.row cN_len HPL.out;have hm:mp=r.fs.length:=by omega
 subst hm;have hev:=HFD.out.evs;have g1:=kk.blk (.inr hlow.2.1) HX.out.fl
 (try simp only at g1)
 rw[←HFD.out.N,←HFD.out.K]at g1;refine⟨⟨⟨F+1,F,bb,bb+1,bb+2,q,n,c'⟩,A1,e1,A2,e2,tv,Ap,cp,rfl,by rw[hev];exact g1,kk.bs HX.out.bytes (fun a e=>by cases e;exact hlow.2.2.2.2.2),HX.out.nc.1,HX.out.nc.2.1,kk.row r1 (fun a e=>by have:=u4 a e;omega),u3,u1,u2,by rw[hev];exact kk.row r2 (fun a e=>by have:=v4 a e;omega),by rw[hev];exact v3,by rw[hev];exact v1,v2,kk.tk HTK.out (fun a h=>by have:=HTN.out a h;omega),by rw[hK];exact kk.row r3 (fun a e=>by have:=x4 a e;omega),fun e=>by have:=x3 e;omega,by omega,x2⟩⟩
theorem rnum20 (n:Nat) (h:n≤9223372036854775807) (w:World):Calls Tryz.prog 39 #[.int .i64 (n:Int)] w fun e w'=>e= .returned (.string (strOf (vb n)))∧Ext w w':=by
 have HV:=zh (fun W=>Wire.refVarint n (by omega) W);have hw:IntKind.u64.wrap (n:Int)=(n:Int):=by rw[IntKind.wrap_u64];omega
 go_enter Tryz.func39,Tryz.ntmps39;go_wp2_with fail;refine(HV.out _).mono ?_;rintro e w1 ⟨rfl,hE⟩;go_wp2_with fail;go_ret;exact⟨rfl,hE⟩
def IRel (w:World) (ls:List Nat) (m gh:Nat) (sv lv iv:Value) (wr:World):Prop:=
 ∃(i last:Nat) (P:List Nat),i+gh=m∧iv= .int .i64 (i:Int)∧lv= .int .i64 (last:Int)∧sv= .string (strOf P)∧P++idx last (ls.drop i)=idx 0 ls∧up last (ls.drop i)∧P.length≤10*i∧Ext w wr
theorem rindex (A:Option Addr) (m c:Nat) (ls:List Nat) (w:World) (hB:RowR w A m 1 cN ls) (hu:up 0 ls) (hm:m≤1000000):
  Calls Tryz.prog 77 #[.slice A m c] w fun e w'=>e= .returned (.string (strOf (idx 0 ls)))∧Ext w w':=by
 have hlen:ls.length=m:=hB.1;have HB:=zh hB;have HU:=zh hu;have HLEN:=zh hlen;clear hB hu hlen;go_enter Tryz.func77,Tryz.ntmps77;go_wp2_with fail
 go_loopg [3,4,5] m (fun gh sv lv iv wr=>IRel w ls m gh sv lv iv wr)
 case atStart=>exact⟨0,0,[],by omega,rfl,rfl,rfl,rfl,HU.out,by simp,zxr _⟩
 case round=>
  obtain⟨i,last,P,hi,rfl,rfl,rfl,hP,hup,hpl,hE⟩:=hrel;obtain⟨wi,rfl⟩:∃wi:World,wi=wr:=⟨_,rfl⟩;obtain⟨gh,rfl⟩:∃gh:Nat,gh=gk:=⟨_,rfl⟩;have HPP:=zh hP;have HE:=zh hE;have y1:(0:Int)≤(i:Int):=by omega
  by_cases hlt:i<m
  ·have y2:(i:Int)<(m:Int):=by omega
   have hil:i<ls.length:=by rw[HLEN.out];exact hlt
   obtain⟨bs,os,rfl,hbw,hcell⟩:=HB.out.2 (by omega);have hst:=kc hE (hcell i hil 0 (by omega));have hdr:ls.drop i=ls[i]::ls.drop (i+1):=zw20 hil;rw[hdr]at hup;have hnx:P++(vb (ls[i]-last)++idx ls[i] (ls.drop (i+1)))=idx 0 ls:=by rw[←hP,hdr];rfl
   generalize ls[i]=a at hst hup hnx;obtain⟨u1,u2,u3⟩:=hup;obtain⟨d,rfl⟩:∃d,a=last+d:=⟨a-last,by omega⟩;rw[zw44]at hnx;have HNX:=zh hnx;have HUP:=zh u3;have HPL:=zh hpl;have HVL:Hid ((vb d).length≤10):=zh (vb_ten (by omega));have HN:=zh (fun W=>rnum20 d (by omega) W);simp only[cN,List.getElem?_cons_zero,Nat.mul_one,Nat.add_zero]at hst;have hsub:((last+d:Nat):Int)-(last:Int)=(d:Int):=by omega
   have HSA:Hid (strOf P++strOf (vb d)=strOf (P++vb d)):=zh (strOf_app _ _).symm;obtain⟨S,hS⟩:∃S,S=strOf P:=⟨_,rfl⟩;obtain⟨V,hV⟩:∃V,V=strOf (vb d):=⟨_,rfl⟩;have hq:¬9223372036854775807<S.size+V.size:=by rw[hS,hV,strOf_size,strOf_size];have:=HVL.out;omega
   rw[←hS,←hV]at HSA;rw[←hS];rw[←hV]at HN;clear hcell hdr hP hnx u3 hpl hS hV hil hE;obtain⟨a,ha⟩:∃a,a=last+d:=⟨_,rfl⟩;rw[←ha]at hst hsub HNX HUP u1 u2;replace ha:=zh ha;have hst2:=hst;go_wp2_with fail
   try rw[hsub]
   refine(HN.out _).mono ?_;rintro e w1 ⟨rfl,hE1⟩;have hst3:=kc hE1 hst2;have HE1:=zh (zxt HE.out hE1);clear hst hst2 hE1;go_wp2_with fail
   go_roundg (gh-1)
   case measure=>omega
   case rel=>exact⟨i+1,a,P++vb d,by omega,by go_num,rfl,by rw[HSA.out],by rw[zw7];exact HNX.out,HUP.out,by rw[zw0];have:=HVL.out;have:=HPL.out;omega,HE1.out⟩
  ·obtain rfl:gh=0:=by omega
   have y2:¬(i:Int)<(m:Int):=by omega
   have hf:P=idx 0 ls:=by
    rw[←hP,zw21 (by rw[HLEN.out];omega)];simp[idx]
   subst hf;obtain⟨S,hS⟩:∃S,S=strOf (idx 0 ls):=⟨_,rfl⟩;rw[←hS];have HS:=zh hS;clear hE hS;go_wp2_with fail;go_ret;exact⟨by rw[←HS.out];rfl,HE.out⟩
theorem up_most:∀(l:List Nat) (last:Nat),up last l→∀a∈l,a≤1000000000
 | [],_,_,a,h=>by cases h
 | b::l,last,hu,a,h=>by
  rcases zw30.1 h with rfl | h
  ·exact hu.2.1
  ·exact up_most l b hu.2.2 a h
theorem rfoot (A:Option Addr) (m c:Nat) (ls X:List Nat) (w:World) (hB:RowR w A m 1 cN ls) (hu:up 0 ls) (hm:m≤50) (hx:X.length≤800000) (hxs:∀j,X.getD j 0<256):
  Calls Tryz.prog 42 #[.string (strOf X),.slice A m c] w fun e w'=>e= .returned (.string (strOf (foot X ls)))∧Ext w w':=by
 have hil:(idx 0 ls).length≤500:=by
  have:=idx_len ls 0 (fun a ha=>by have:=up_most ls 0 hu a ha;omega);have:=hB.1;omega
 have HX:=zh (rindex A m c ls w hB hu (by omega));have hc7:=chunk_max 7 (xs:=idx 0 ls) (by omega);have HPC:=zh (fun W=>Chk.refPutC 7 (by decide) (strOf (idx 0 ls)) W (by rw[strOf_size];omega));have hni:natsOf (strOf (idx 0 ls))=idx 0 ls:=nats_strOf (small_mem (idx_small ls 0));rw[hni]at HPC;obtain⟨C7,hC7⟩:∃q,q=Chk.chunk 7 (idx 0 ls):=⟨_,rfl⟩;have HCS:Hid (∀j,C7.getD j 0<256):=zh (by rw[hC7];exact small_mem (Chk.chunk_small (show(7:Nat)<256 by decide) (small_mem (idx_small ls 0))));obtain⟨T,hT⟩:∃q,q=X++C7++fx X.length:=⟨_,rfl⟩;have HFT:Hid (strOf (foot X ls)=strOf T++strOf (fx (Chk.crc T))):=zh (by rw[←strOf_app,hT,hC7];rfl);rw[←hC7]at hc7 HPC;have HTS:Hid (∀j,T.getD j 0<256):=zh (by
  rw[hT];refine small_mem (fun z hz=>?_);rcases zw16.1 hz with hz | hz
  ·rcases zw16.1 hz with hz | hz
   ·exact mem_small hxs z hz
   ·exact mem_small HCS.out z hz
  ·exact fx_mem (by omega) z hz)
 have hTl:T.length≤810000:=by rw[hT,zw0,zw0,fx_len];omega
 have HTL:=zh hTl;have HSA:Hid (strOf X++strOf C7++strOf (fx X.length)=strOf T):=zh (by rw[←strOf_app,←strOf_app,hT]);have HF1:=zh (fun W=>Wire.refFixed X.length (by omega) W);have HF2:=zh (fun W=>Wire.refFixed (Chk.crc T) (Chk.crc_lt _) W);have hx4:(strOf (fx X.length)).size=4:=by rw[strOf_size];rfl
 have hk4:(strOf (fx (Chk.crc T))).size=4:=by rw[strOf_size];rfl
 have hxl:(strOf X).size=X.length:=strOf_size X;have hcl:(strOf C7).size=C7.length:=strOf_size C7;have htl:(strOf T).size=T.length:=strOf_size T;have HNT:Hid (natsOf (strOf T)=T):=zh (nats_strOf HTS.out);rw[←hxl]at HF1;clear hC7 hni HCS hT;obtain⟨SX,hSX⟩:∃q,q=strOf X:=⟨_,rfl⟩;obtain⟨S7,hS7⟩:∃q,q=strOf C7:=⟨_,rfl⟩;obtain⟨SI,hSI⟩:∃q,q=strOf (idx 0 ls):=⟨_,rfl⟩;obtain⟨SF,hSF⟩:∃q,q=strOf (fx X.length):=⟨_,rfl⟩;obtain⟨ST,hST⟩:∃q,q=strOf T:=⟨_,rfl⟩;obtain⟨SK,hSK⟩:∃q,q=strOf (fx (Chk.crc T)):=⟨_,rfl⟩;rw[←hSX]at HSA HF1 hxl ⊢;rw[hxl,←hSF]at HF1;rw[←hSF]at HSA hx4;rw[←hS7]at HSA HPC hcl;rw[←hSI]at HX HPC;rw[←hST]at HSA HFT htl HNT;rw[←hSK]at HF2 hk4 HFT;have q1:¬9223372036854775807<SX.size+S7.size:=by omega
 have q2:¬9223372036854775807<SX.size+S7.size+SF.size:=by omega
 have q3:¬9223372036854775807<ST.size+SK.size:=by omega
 have q4:IntKind.u32.wrap (SX.size:Int)=(SX.size:Int):=by rw[IntKind.wrap_u32];omega
 have HZ:Hid (ST.size≤810000):=zh (by omega);have HTT:=zh htl;rw[←hxl]at HF1;clear hSX hS7 hSI hSF hST hSK hx4 hk4 hxl hcl htl hil hc7 hTl hxs hu hB;go_enter Tryz.func42,Tryz.ntmps42;go_wp2_with fail;refine(HX.out).mono ?_;rintro e w1 ⟨rfl,hE⟩;have HE:=zh hE;clear hE;go_wp2_with fail;refine(HPC.out _).mono ?_;rintro e w2 ⟨rfl,hE⟩;replace HE:=zh (zxt HE.out hE);clear hE;go_wp2_with fail;refine(HF1.out _).mono ?_;rintro e w3 ⟨rfl,hE⟩;replace HE:=zh (zxt HE.out hE);clear hE;go_upto_region 2 with fail;rw[HSA.out];obtain⟨c3,w4,hcv,hc1,hc2,hB3,hE3⟩:=Com.conv_text w3 ST (by have:=HZ.out;omega);rw[HNT.out]at hB3;have HCS:=zh (Crc.rsum (some ⟨w3.heap.size,0,none⟩) ST.size c3 T w4 hB3 (by have:=HZ.out;omega));replace HE:=zh (zxt HE.out hE3);clear hB3 hE3 q1 q2;generalize w3.heap.size=G at*;go_wp2_with fail;refine(HCS.out).mono ?_;rintro e w5 ⟨rfl,rfl⟩;clear hcv;go_wp2_with fail;refine(HF2.out _).mono ?_;rintro e w5 ⟨rfl,hE5⟩;replace HE:=zh (zxt HE.out hE5);clear hE5;go_wp2_with fail;go_ret;exact⟨by rw[HFT.out];rfl,HE.out⟩
end Go.Proofs.YtidnboeihkeljaaGreatDoor.Fil
