
import Derived.Test.YtidnboeihkeljaaGreatDoorF28
import Derived.Test.YtidnboeihkeljaaGreatDoorF30
import Derived.Test.YtidnboeihkeljaaGreatDoorFilY
import Derived.Test.YtidnboeihkeljaaGreatDoorTrkZ
set_option maxHeartbeats 16000000
set_option maxRecDepth 100000
set_option linter.all false
open Go.ChangeShapes Go.WideShapes Go.ChangeAt Go.RowKit
namespace Go.Proofs.YtidnboeihkeljaaGreatDoor.Fil
open Wire
open Rec
def pre (h lg:List Nat) (n k:Nat):List Nat:=[82,77,67,72]++Chk.chunk 1 h++Chk.chunk 2 (vb n++vb k)++Chk.chunk 3 lg
theorem lead_pre (h lg tr:List Nat) (n k:Nat):lead h lg tr n k=pre h lg n k++Chk.chunk 4 tr:=rfl
theorem pre_len (h lg:List Nat) (n k:Nat):(pre h lg n k).length=4+(Chk.chunk 1 h).length+(Chk.chunk 2 (vb n++vb k)).length+(Chk.chunk 3 lg).length:=by
 simp only[pre,zw0,zw3,zw26]
section
variable (h lg tr : List Nat) (n k : Nat) (fs : List (List Nat))
def ixc:List Nat:=Chk.chunk 7 (idx 0 (pls k 0 [] (lead h lg tr n k).length fs))
theorem built_parts:∃e,e.length=8∧built h lg tr n k fs=pre h lg n k++(Chk.chunk 4 tr++(frs k 0 [] fs++(ixc h lg tr n k fs++e))):=
 ⟨_,rfl,by unfold built foot;rw[lead_pre];simp only[zw7,ixc,lead_pre];rfl⟩
theorem built_len:(built h lg tr n k fs).length=(lead h lg tr n k).length+(frs k 0 [] fs).length+(ixc h lg tr n k fs).length+8:=by
 obtain⟨e,he,hb⟩:=built_parts h lg tr n k fs;rw[hb,lead_pre];simp only[zw0,he];omega
theorem cut_pre:(built h lg tr n k fs).take (pre h lg n k).length=pre h lg n k:=by
 obtain⟨e,_,hb⟩:=built_parts h lg tr n k fs;rw[hb,List.take_left]
theorem cut_frs:((built h lg tr n k fs).drop (lead h lg tr n k).length).take (frs k 0 [] fs).length=frs k 0 [] fs:=by
 obtain⟨e,_,hb⟩:=built_parts h lg tr n k fs;rw[hb,lead_pre,←zw7,List.drop_left,List.take_left]
theorem cut_ixc:((built h lg tr n k fs).drop ((lead h lg tr n k).length+(frs k 0 [] fs).length)).take (ixc h lg tr n k fs).length=ixc h lg tr n k fs:=by
 obtain⟨e,_,hb⟩:=built_parts h lg tr n k fs;rw[hb,lead_pre,←zw7,←zw7,←zw0,List.drop_left,List.take_left]
theorem built_end:built h lg tr n k fs=(pre h lg n k++Chk.chunk 4 tr++frs k 0 [] fs++ixc h lg tr n k fs++fx (lead h lg tr n k++frs k 0 [] fs).length)++fx (Chk.crc (pre h lg n k++Chk.chunk 4 tr++frs k 0 [] fs++ixc h lg tr n k fs++fx (lead h lg tr n k++frs k 0 [] fs).length)):=by
 unfold built foot ixc;rw[lead_pre]
end
theorem open_bad (A:Option Addr) (n c:Nat) (xs:List Nat) (w:World) (hT:Crc.Tab w) (hB:Bs w A n xs) (hn:n≤c) (hc:c≤9223372036854775807) (h12:12≤n) (h9:n≤900000) (h:¬be (xs.drop (xs.length-4))=Chk.crc (xs.take (xs.length-4))):
  Calls Tryz.prog 21 #[.slice A n c] w fun e w'=>e= .returned (.tuple #[.pointer none,.int .i64 5])∧Ext w w':=by
 have hmf:∀(fn:Fn) (first cap:Array Value) (w:World),(Instr.makeFunc fn first cap).run Tryz.prog w= .ok (.func fn first cap) w:=fun _ _ _ _=>rfl;have hxl:xs.length=n:=hB.1;have hlo:12≤xs.length:=by omega
 have hhi:xs.length≤900000:=by omega
 have y1:(n:Int)≤4194304:=by omega
 have y2:(12:Int)≤(n:Int):=by omega
 have HE0:=zh (zxa (zxa (zxr w) (.cells #[.pointer none] 53)) (.cells #[.int .i64 0] 49));have HCL:=zh (clone0 A n c xs _ (hB.ext HE0.out) (by omega) (by omega));have HH:=zh h;have HT:=zh hT;have HN:=zh (And.intro hn (And.intro hc (And.intro hxl (And.intro hlo hhi))));clear hT hB hn hc h hxl hlo hhi
 go_enter_defers Tryz.func21,Tryz.ntmps21
 go_wp2_with fail;refine(must_ok _ _).mono ?_;rintro e w0 ⟨rfl,rfl⟩;have HBF:=zh ((Blk.new w 53 #[.pointer none]).alloc (.cells #[.int .i64 0] 49));have HBE:=zh (Blk.new1 w (.cells #[.pointer none] 53) 49 #[.int .i64 0]);have HSZ:Hid (((w.alloc (.cells #[.pointer none] 53)).alloc (.cells #[.int .i64 0] 49)).heap.size=w.heap.size+2):=zh (by rw[zw22,zw22]);obtain⟨w1,hw1⟩:∃q,q=(w.alloc (.cells #[.pointer none] 53)).alloc (.cells #[.int .i64 0] 49):=⟨_,rfl⟩;rw[←hw1]at HE0 HCL HBF HBE HSZ ⊢;clear hw1;obtain⟨W0,hW0⟩:∃q,q=w.heap.size:=⟨_,rfl⟩;rw[←hW0]at HBF HBE HSZ ⊢;replace hW0:=zh hW0;go_wp2_with fail;refine(must_ok _ _).mono ?_;rintro e w0 ⟨rfl,rfl⟩;go_wp2_with fail;refine(HCL.out).mono ?_;rintro e w2 ⟨q,c',rfl,hn2,hc2,hq1,hq2,hB2,hE2⟩;have HE2:=zh hE2;have HB2:=zh hB2;have HN2:=zh (And.intro hn2 (And.intro hc2 (And.intro hq1 hq2)));clear hn2 hc2 hq1 hq2 hB2 hE2 HCL;go_upto_region 5 with fail;have HF:=zh ((Blk.new w2 96 (cFl (.slice (some ⟨q,0,none⟩) n c') noH (.slice none 0 0) (.slice none 0 0) 0 0 noT 0 0 (.slice none 0 0) 0)).alloc (.cells #[.pointer (some ⟨w2.heap.size,0,none⟩),.int .i64 0] 124));have HOP:=zh (Blk.new1 w2 (.cells (cFl (.slice (some ⟨q,0,none⟩) n c') noH (.slice none 0 0) (.slice none 0 0) 0 0 noT 0 0 (.slice none 0 0) 0) 96) 124 #[.pointer (some ⟨w2.heap.size,0,none⟩),.int .i64 0]);have HE4:=zh (zxa (zxa (zxr w2) (.cells (cFl (.slice (some ⟨q,0,none⟩) n c') noH (.slice none 0 0) (.slice none 0 0) 0 0 noT 0 0 (.slice none 0 0) 0) 96)) (.cells #[.pointer (some ⟨w2.heap.size,0,none⟩),.int .i64 0] 124))
 obtain⟨w4,hw4⟩:∃u,u=(w2.alloc (.cells #[.slice (some ⟨q,0,none⟩) n c',.int .i64 0,.int .i64 0,.int .i64 0,.int .u32 0,.string ⟨#[]⟩,.slice none 0 0,.slice none 0 0,.int .i64 0,.int .i64 0,.slice none 0 0,.slice none 0 0,.slice none 0 0,.slice none 0 0,.slice none 0 0,.slice none 0 0,.int .i64 0,.int .i64 0,.slice none 0 0,.int .i64 0] 96)).alloc (.cells #[.pointer (some ⟨w2.heap.size,0,none⟩),.int .i64 0] 124):=⟨_,rfl⟩;simp only[cFl,noH,noT,Int.natCast_zero,Int.ofNat_zero,Int.cast_ofNat_Int]at HF HOP HE4;rw[←hw4]at HF HOP HE4 ⊢;clear hw4;obtain⟨F,hF⟩:∃u,u=w2.heap.size:=⟨_,rfl⟩;rw[←hF]at HF HOP HN2 ⊢;have HFO:Hid (F+1<w4.heap.size):=zh HOP.out.lt;replace hF:=zh hF;go_wp2_with fail;refine(steps_st w4 (F+1) F 0 HOP.out).mono ?_;rintro e w5 ⟨rfl,hb0,hb1,hb2,hb3,hE5,hsz⟩;obtain⟨bb,hbb⟩:∃u,u=w4.heap.size:=⟨_,rfl⟩;rw[←hbb]at hb0 hb1 hb2 hb3 hsz HFO ⊢;have HTAB:=zh (((HT.out.ext HE0.out).ext HE2.out).ext HE4.out);have HX:Hid (OW (W0+2) (bb+3) ⟨F+1,F,bb,bb+1,bb+2,q,n,c'⟩ xs w5 (cFl (.slice (some ⟨q,0,none⟩) n c') noH (.slice none 0 0) (.slice none 0 0) 0 0 noT 0 0 (.slice none 0 0) 0) 0):=zh (by
  obtain⟨n1,n2,n3,n4⟩:=HN2.out;obtain⟨_,_,n5,n6,n7⟩:=HN.out;have e1:=HSZ.out;have e2:=HFO.out;exact⟨HOP.out.ext hE5,HF.out.ext hE5,hb0,hb1,⟨0,hb2⟩,HTAB.out.ext hE5,by have:=HT.out.lt;have:=hW0.out;omega,(HB2.out.ext HE4.out).ext hE5,rfl,⟨n1,n2,by show 12≤n;omega,by show n≤900000;omega⟩,
   ⟨by show W0+2≤F+1;omega,by show W0+2≤F;omega,by show W0+2≤bb;omega,by show W0+2≤bb+1;omega,by show W0+2≤bb+2;omega,by show W0+2≤q;omega⟩,
   ⟨by show F+1<bb+3;omega,by show F<bb+3;omega,by show bb<bb+3;omega,by show bb+1<bb+3;omega,by show bb+2<bb+3;omega,by show q<bb+3;omega,by omega⟩,
   ⟨by show F+1≠F;omega,by show F+1≠bb;omega,by show F+1≠bb+1;omega,by show F+1≠bb+2;omega,by show F≠bb;omega,by show F≠bb+1;omega,by show F≠bb+2;omega,by show bb+2≠bb;omega,by show bb+2≠bb+1;omega,by show q≠F+1;omega,by show q≠F;omega,by show q≠bb+2;omega⟩⟩)
 have HFN:=zh hb3;have HBF5:Hid (Blk w5 W0 53 #[.pointer none]):=zh (((HBF.out.ext HE2.out).ext HE4.out).ext hE5);have HBE5:Hid (Blk w5 (W0+1) 49 #[.int .i64 0]):=zh (((HBE.out.ext HE2.out).ext HE4.out).ext hE5);have HE5:Hid (Ext w w5):=zh (zxt (zxt (zxt HE0.out HE2.out) HE4.out) hE5);clear hb0 hb1 hb2 hb3 hE5 hsz HFO HTAB HF HOP HE4 HE2 HE0 HB2 HN2 HBF HBE hbb;have hb32:bb+1+1=bb+2:=rfl;go_wp2_with fail;refine wp_loop_rounds 9 ?_;rw[rounds_succ];have ci:=HFN.out.cell 0;simp only[fns,zzD,zzE,zzF]at ci;have HC:=zh (around_any (W0+2) (bb+3) ⟨F+1,F,bb,bb+1,bb+2,q,n,c'⟩ xs _ 0 w5 HX.out (fun h=>absurd h HH.out));simp only[if_neg HH.out]at HC;go_wp2_with fail;refine(HC.out).mono ?_;rintro e w6 ⟨rfl,hE⟩;have HE6:=zh (zxt HE5.out hE);have HA6:=zh (HBF5.out.ext hE);have HB6:=zh (HBE5.out.ext hE);clear hE ci HC;go_wp2_with fail;refine leaves_cons (f:=51) (args:= #[.pointer (some ⟨W0,0,none⟩),.pointer (some ⟨W0+1,0,none⟩)]) (by simp) (by simp[go_sem]) ?_;refine(catch_err W0 (W0+1) _ 0 5 [] _ HA6.out HB6.out (by omega)).mono ?_;rintro e u' w14 ⟨rfl,rfl,hA,hB,hEE⟩;have c1:=hA.cell 0;have c2:=hB.cell 0;simp only[zzD,zzE,zzF]at c1 c2;simp[Leaves,settle,results,Tryz.results21,go_sem,c1,c2];exact hEE w HE6.out (by rw[←hW0.out];exact zw8 _) (by rw[←hW0.out];omega)
open Trk (Sl Tv Tk TkV Pt Mk cP cM cP_len cM_len ClPost wpList_recs src_row own_empty cloneP_st cloneM_st idx4)
open Log (Hv Ev Sv cH cS cV cS_len cV_len infoS infoE OwnR_mono')
theorem cloneS_st (A:Option Addr) (n c:Nat) (xs:List Sv) (w:World) (h:RowR w A n 3 cS xs) (hnil:A=none→n=0∧c=0) (hn:n≤10000000) (hc:n≤c∧c≤9223372036854775807):
  Calls Tryz.prog 46 #[.slice A n c] w (ClPost w 99 3 cS xs):=by
 have qT:∀(w:World) (a:Option Addr) (n c n' c':Nat),(binOp .eql 23 (.slice a n c) (.slice none n' c')).run Tryz.prog w= .ok (.bool a.isNone) w:=fun w a n c n' c'=>Lib.run_eql_slice_nil w _ _ a n c n' c' Tryz.underlying23
 cases A with
 | none=>
  obtain⟨rfl,rfl⟩:=hnil rfl;have hx:xs=[]:=zw19 h.1;subst hx;clear h hnil;go_enter Tryz.func46,Tryz.ntmps46;go_wp2_with fail;go_ret;exact⟨_,rfl,OwnR.nil _ _ _ _ _,zxr _⟩
 | some a=>
  have HSRC:=zh (src_row (P:=Tryz.prog) (c:=c) Tryz.underlying23 cS_len (h.ext (zxa (zxr w) (.cells #[] 99))) (by intro x u hu;simp[cS]at hu;rcases hu with rfl | rfl | rfl<;>rfl))
  have HO:=zh (own_empty w 99 3 cS);have HE:=zh (zxa (zxr w) (.cells #[] 99));have HSZ:Hid (w.heap.size≤(w.alloc (.cells #[] 99)).heap.size):=zh (by rw[zw22];omega);have HLN:Hid (([]:List Sv).length+xs.length≤100000000):=zh (by rw[h.1];simp;omega);clear h hnil;go_enter Tryz.func46,Tryz.ntmps46;go_wp2_with (at_builtin;refine wpList_recs rfl (.tmp 5) (.tmp 6) 23 99 3 16 _ cS rfl Tryz.underlying23 infoS rfl (by decide) _ _ [] xs rfl rfl HO.out HSZ.out HSRC.out HLN.out ?_;intro v9 w9 hO9 hG9;have HO9:=zh hO9;have HG9:=zh hG9;clear hO9 hG9)
  go_ret;refine⟨_,rfl,HO9.out,ext_grown HE.out HG9.out (fun q e=>?_)⟩;have:=(zw23 HO.out q e).1;omega
theorem cloneE_st (A:Option Addr) (n c:Nat) (xs:List Ev) (w:World) (h:RowR w A n 7 cV xs) (hnil:A=none→n=0∧c=0) (hn:n≤10000000) (hc:n≤c∧c≤9223372036854775807):
  Calls Tryz.prog 47 #[.slice A n c] w (ClPost w 104 7 cV xs):=by
 have qT:∀(w:World) (a:Option Addr) (n c n' c':Nat),(binOp .eql 35 (.slice a n c) (.slice none n' c')).run Tryz.prog w= .ok (.bool a.isNone) w:=fun w a n c n' c'=>Lib.run_eql_slice_nil w _ _ a n c n' c' Tryz.underlying35
 cases A with
 | none=>
  obtain⟨rfl,rfl⟩:=hnil rfl;have hx:xs=[]:=zw19 h.1;subst hx;clear h hnil;go_enter Tryz.func47,Tryz.ntmps47;go_wp2_with fail;go_ret;exact⟨_,rfl,OwnR.nil _ _ _ _ _,zxr _⟩
 | some a=>
  have HSRC:=zh (src_row (P:=Tryz.prog) (c:=c) Tryz.underlying35 cV_len (h.ext (zxa (zxr w) (.cells #[] 104))) (by intro x u hu;simp[cV]at hu;rcases hu with rfl | rfl | rfl | rfl | rfl | rfl | rfl<;>rfl))
  have HO:=zh (own_empty w 104 7 cV);have HE:=zh (zxa (zxr w) (.cells #[] 104));have HSZ:Hid (w.heap.size≤(w.alloc (.cells #[] 104)).heap.size):=zh (by rw[zw22];omega);have HLN:Hid (([]:List Ev).length+xs.length≤100000000):=zh (by rw[h.1];simp;omega);clear h hnil;go_enter Tryz.func47,Tryz.ntmps47;go_wp2_with (at_builtin;refine wpList_recs rfl (.tmp 5) (.tmp 6) 35 104 7 24 _ cV rfl Tryz.underlying35 infoE rfl (by decide) _ _ [] xs rfl rfl HO.out HSZ.out HSRC.out HLN.out ?_;intro v9 w9 hO9 hG9;have HO9:=zh hO9;have HG9:=zh hG9;clear hO9 hG9)
  go_ret;refine⟨_,rfl,HO9.out,ext_grown HE.out HG9.out (fun q e=>?_)⟩;have:=(zw23 HO.out q e).1;omega
def PsPost (w:World) (r:Rc) (e:Ending) (w':World):Prop:=
 ∃(A:Option Addr) (c:Nat) (Al:Option Addr) (cl:Nat) (t:Tv),e= .returned (.agg (cPa r.x (.slice A r.x.starts.length c) (.slice Al r.evs.length cl) r.N r.K t (.slice none 0 0)))∧RowR w' A r.x.starts.length 3 cS r.x.starts∧RowR w' Al r.evs.length 7 cV r.evs∧TkV w' t r.tr∧Ext w w'
theorem parts_st (f:Nat) (xs0:List Nat) (r:Rc) (b3 b4 iA:Nat) (w:World) (hF:FV w f xs0 r b3 b4 iA) (hlo:r.x.starts.length≤10000000∧r.evs.length≤10000000∧(∀c∈r.tr.cams,c.length≤1000000)∧r.tr.marks.length≤1000000):
  Calls Tryz.prog 16 #[.pointer (some ⟨f,0,none⟩)] w (PsPost w r):=by
 obtain⟨ob,A,c,Al,cl,t,Ap,cp,ho,hfb,_,_,_,hR1,hn1,hc1,hc2,hR2,hn2,hd1,hd2,hT,_⟩:=hF.ex;obtain⟨⟨xw,xh,xp,xs,xt,us⟩,evs,N,K,tr,fs⟩:=r;obtain⟨⟨A0,n0,c0⟩,⟨A1,n1,c1⟩,⟨A2,n2,c2⟩,⟨A3,n3,c3⟩,⟨Am,nm,cm⟩⟩:=t;obtain⟨p0,p1,p2,p3,ms⟩:=tr;simp only at hlo hfb hR1 hn1 hc1 hc2 hR2 hn2 hd1 hd2;obtain⟨l1,l2,l3,l4⟩:=hlo;have q0:=hT.1;have e0:p0.length=n0:=q0.1.1;have z0:n0≤10000000:=by have:=l3 p0 (by simp[Trk.Tk.cams]);omega
 have q1:=hT.2.1;have e1:p1.length=n1:=q1.1.1;have z1:n1≤10000000:=by have:=l3 p1 (by simp[Trk.Tk.cams]);omega
 have q2:=hT.2.2.1;have e2:p2.length=n2:=q2.1.1;have z2:n2≤10000000:=by have:=l3 p2 (by simp[Trk.Tk.cams]);omega
 have q3:=hT.2.2.2.1;have e3:p3.length=n3:=q3.1.1;have z3:n3≤10000000:=by have:=l3 p3 (by simp[Trk.Tk.cams]);omega
 have qm:=hT.2.2.2.2;have em:ms.length=nm:=qm.1.1;have zm:nm≤10000000:=by omega
 have HC0:=zh (fun(W:World) (e:Ext w W)=>cloneS_st A us.length c us W (hR1.ext e) hn1 l1 ⟨hc1,hc2⟩);have HC1:=zh (fun(W:World) (e:Ext w W)=>cloneE_st Al evs.length cl evs W (hR2.ext e) hn2 l2 ⟨hd1,hd2⟩);have HC2:=zh (fun(W:World) (e:Ext w W)=>cloneP_st A0 n0 c0 p0 W (q0.1.ext e) q0.2.2.2 z0 ⟨q0.2.1,q0.2.2.1⟩);have HC3:=zh (fun(W:World) (e:Ext w W)=>cloneP_st A1 n1 c1 p1 W (q1.1.ext e) q1.2.2.2 z1 ⟨q1.2.1,q1.2.2.1⟩);have HC4:=zh (fun(W:World) (e:Ext w W)=>cloneP_st A2 n2 c2 p2 W (q2.1.ext e) q2.2.2.2 z2 ⟨q2.2.1,q2.2.2.1⟩);have HC5:=zh (fun(W:World) (e:Ext w W)=>cloneP_st A3 n3 c3 p3 W (q3.1.ext e) q3.2.2.2 z3 ⟨q3.2.1,q3.2.2.1⟩);have HC6:=zh (fun(W:World) (e:Ext w W)=>cloneM_st Am nm cm ms W (qm.1.ext e) qm.2.2.2.1 zm ⟨qm.2.1,qm.2.2.1⟩);have HNL:=zh qm.2.2.2.2;obtain⟨m1,hm1⟩:∃z,us.length=z:=⟨_,rfl⟩;obtain⟨m2,hm2⟩:∃z,evs.length=z:=⟨_,rfl⟩;rw[hm1,hm2]at hfb;rw[hm1]at HC0;rw[hm2]at HC1;have HLS:=zh hm1;have HLE:=zh hm2;have HL0:=zh e0;have HL1:=zh e1;have HL2:=zh e2;have HL3:=zh e3;have HLM:=zh em;clear hF hR1 hn1 hc1 hc2 hR2 hn2 hd1 hd2 hT l1 l2 l3 l4 ho hm1 hm2 q0 q1 q2 q3 qm e0 e1 e2 e3 em z0 z1 z2 z3 zm;go_enter Tryz.func16,Tryz.ntmps16;go_upto_region 3 with fail;have HZ:=zh (Blk.new w 43 zPa);have HE:=zh (zxa (zxr w) (.cells zPa 43));simp only[zPa]at HZ HE;obtain⟨w1,hw1⟩:∃q,q=w.alloc (.cells #[.int .i64 0,.int .i64 0,.int .i64 0,.int .u32 0,.string ⟨#[]⟩,.slice none 0 0,.slice none 0 0,.int .i64 0,.int .i64 0,.slice none 0 0,.slice none 0 0,.slice none 0 0,.slice none 0 0,.slice none 0 0,.slice none 0 0] 43):=⟨_,rfl⟩
 have hs1:Hid (w1.heap.size=w.heap.size+1):=zh (by rw[hw1,zw22]);rw[←hw1]at HZ HE ⊢;have hfx:=hfb.ext HE.out;clear hw1 hfb;have hfc:=fun i=>hfx.cell i;simp only[cFl]at hfc;have HFC:=zh hfc;have f1:=hfc 1;have f2:=hfc 2;have f3:=hfc 3;have f4:=hfc 4;have f5:=hfc 5;have f6:=hfc 6;have f7:=hfc 7;have f8:=hfc 8;have f9:=hfc 9;have f10:=hfc 10;have f11:=hfc 11;have f12:=hfc 12;have f13:=hfc 13;have f14:=hfc 14;have f15:=hfc 15;simp only[zzD,zzE,zzF]at f1 f2 f3 f4 f5 f6 f7 f8 f9 f10 f11 f12 f13 f14 f15;clear hfc hfx HFC;go_upto_region 4 with fail;clear f1 f2 f3 f4 f5 f6 f7 f8 f9 f10 f11 f12 f13 f14 f15;have HB:=zh (Blk.new w1 43 #[.int .i64 xw,.int .i64 xh,.int .i64 xp,.int .u32 (xs:Int),.string xt,.slice A m1 c,.slice Al m2 cl,.int .i64 N,.int .i64 K,.slice A0 n0 c0,.slice A1 n1 c1,.slice A2 n2 c2,.slice A3 n3 c3,.slice Am nm cm,.slice none 0 0]);have HZ1:=zh (HZ.out.alloc (.cells #[.int .i64 xw,.int .i64 xh,.int .i64 xp,.int .u32 (xs:Int),.string xt,.slice A m1 c,.slice Al m2 cl,.int .i64 N,.int .i64 K,.slice A0 n0 c0,.slice A1 n1 c1,.slice A2 n2 c2,.slice A3 n3 c3,.slice Am nm cm,.slice none 0 0] 43));have HE1:=zh (zxa HE.out (.cells #[.int .i64 xw,.int .i64 xh,.int .i64 xp,.int .u32 (xs:Int),.string xt,.slice A m1 c,.slice Al m2 cl,.int .i64 N,.int .i64 K,.slice A0 n0 c0,.slice A1 n1 c1,.slice A2 n2 c2,.slice A3 n3 c3,.slice Am nm cm,.slice none 0 0] 43));have HSZ:Hid (w.heap.size+2≤(w1.alloc (.cells #[.int .i64 xw,.int .i64 xh,.int .i64 xp,.int .u32 (xs:Int),.string xt,.slice A m1 c,.slice Al m2 cl,.int .i64 N,.int .i64 K,.slice A0 n0 c0,.slice A1 n1 c1,.slice A2 n2 c2,.slice A3 n3 c3,.slice Am nm cm,.slice none 0 0] 43)).heap.size):=zh (by rw[zw22];have:=hs1.out;omega)
 obtain⟨W0,hW0⟩:∃q,q=w1.alloc (.cells #[.int .i64 xw,.int .i64 xh,.int .i64 xp,.int .u32 (xs:Int),.string xt,.slice A m1 c,.slice Al m2 cl,.int .i64 N,.int .i64 K,.slice A0 n0 c0,.slice A1 n1 c1,.slice A2 n2 c2,.slice A3 n3 c3,.slice Am nm cm,.slice none 0 0] 43):=⟨_,rfl⟩;rw[←hW0]at HZ1 HB HE1 HSZ ⊢;clear hW0 HZ HE;have HZ:=HZ1;have HE:=HE1;clear HZ1 HE1;obtain⟨s,hs⟩:∃q,q=w.heap.size:=⟨_,rfl⟩;obtain⟨p,hp⟩:∃q,q=w1.heap.size:=⟨_,rfl⟩;rw[←hp]at HB ⊢;rw[←hs]at HZ HSZ ⊢;have HSP:Hid (s=w.heap.size∧p=s+1∧s+2=p+1):=zh ⟨hs,by have:=hs1.out;omega,by have:=hs1.out;omega⟩;clear hs hp hs1;have hc:=fun i=>HB.out.cell i;have hf:=fun i=>HB.out.frozen i;go_wp2_with fail;clear hc hf;refine(HC0.out _ HE.out).mono ?_;rintro e w1 ⟨v,rfl,hO,hE⟩;obtain⟨B0,d0,hv,hl1,hl2,hl3,hl4⟩:=hO.shape;rw[HLS.out]at hv hl1 hl3;subst hv;have HK0:=zh (And.intro hl1 (And.intro (show d0≤9223372036854775807 from hl2) hl3));have HO0:=zh (OwnR_mono' (b':=s+2) hO (by have:=HSP.out;have:=HSZ.out;omega));replace HB:=zh (HB.out.ext hE);replace HZ:=zh (HZ.out.ext hE);replace HE:=zh (zxt HE.out hE);replace HSZ:=zh (zw10 HSZ.out hE.size);clear hO hE hl1 hl2 hl3 hl4;have hc:=fun i=>HB.out.cell i;have hf:=fun i=>HB.out.frozen i;go_wp2_with fail;clear hc hf;replace HB:=zh (HB.out.set_ 5 (.slice B0 m1 d0));replace HZ:=zh (HZ.out.far (p:=⟨p,5,none⟩) (by have:=HSP.out;show s≠p;omega) (.slice B0 m1 d0));replace HE:=zh (ext_set HE.out (p:=⟨p,5,none⟩) (by have:=HSP.out;show w.heap.size≤p;omega) (.slice B0 m1 d0));replace HO0:=zh (HO0.out.grown (gb_set w1 p 5 (.slice B0 m1 d0)) (by have:=HSP.out;omega))
 replace HSZ:Hid (s+2≤(w1.setCell ⟨p,5,none⟩ (.slice B0 m1 d0)).heap.size):=zh (by have:=HSZ.out;have:=HSP.out;simp only[World.setCell,Array.size_modify];omega);obtain⟨V1,hV⟩:∃q,q=w1.setCell ⟨p,5,none⟩ (.slice B0 m1 d0):=⟨_,rfl⟩;rw[←hV]at HB HZ HE HSZ HO0 ⊢;clear hV;simp only[zzA,zzB,zzC]at HB;refine(HC1.out _ HE.out).mono ?_;rintro e w2 ⟨v,rfl,hO,hE⟩;obtain⟨B1,d1,hv,hl1,hl2,hl3,hl4⟩:=hO.shape;rw[HLE.out]at hv hl1 hl3;subst hv;have HK1:=zh (And.intro hl1 (And.intro (show d1≤9223372036854775807 from hl2) hl3));have HO1:=zh (OwnR_mono' (b':=s+2) hO (by have:=HSP.out;have:=HSZ.out;omega));replace HO0:=zh (HO0.out.ext hE);replace HB:=zh (HB.out.ext hE);replace HZ:=zh (HZ.out.ext hE);replace HE:=zh (zxt HE.out hE);replace HSZ:=zh (zw10 HSZ.out hE.size);clear hO hE hl1 hl2 hl3 hl4;have hc:=fun i=>HB.out.cell i;have hf:=fun i=>HB.out.frozen i;go_wp2_with fail;refine wp_loop_rounds 5 ?_;clear hc hf;replace HB:=zh (HB.out.set_ 6 (.slice B1 m2 d1));replace HZ:=zh (HZ.out.far (p:=⟨p,6,none⟩) (by have:=HSP.out;show s≠p;omega) (.slice B1 m2 d1));replace HE:=zh (ext_set HE.out (p:=⟨p,6,none⟩) (by have:=HSP.out;show w.heap.size≤p;omega) (.slice B1 m2 d1));replace HO0:=zh (HO0.out.grown (gb_set w2 p 6 (.slice B1 m2 d1)) (by have:=HSP.out;omega));replace HO1:=zh (HO1.out.grown (gb_set w2 p 6 (.slice B1 m2 d1)) (by have:=HSP.out;omega));replace HSZ:Hid (s+2≤(w2.setCell ⟨p,6,none⟩ (.slice B1 m2 d1)).heap.size):=zh (by have:=HSZ.out;have:=HSP.out;simp only[World.setCell,Array.size_modify];omega)
 obtain⟨V2,hV⟩:∃q,q=w2.setCell ⟨p,6,none⟩ (.slice B1 m2 d1):=⟨_,rfl⟩;rw[←hV]at HB HZ HE HSZ HO0 HO1 ⊢;clear hV;simp only[zzA,zzB,zzC]at HB;rw[rounds_succ];have hc:=fun i=>HB.out.cell i;have hf:=fun i=>HB.out.frozen i;have hix:=(idx4 (.slice A0 n0 c0) (.slice A1 n1 c1) (.slice A2 n2 c2) (.slice A3 n3 c3) V2).1;go_wp2_with fail;clear hc hf hix;refine(HC2.out _ HE.out).mono ?_;rintro e w3 ⟨v,rfl,hO,hE⟩;obtain⟨B2,d2,hv,hl1,hl2,hl3,hl4⟩:=hO.shape;rw[HL0.out]at hv hl1 hl3;subst hv;have HK2:=zh (And.intro hl1 (And.intro (show d2≤9223372036854775807 from hl2) hl3));have HO2:=zh (OwnR_mono' (b':=s+2) hO (by have:=HSP.out;have:=HSZ.out;omega));replace HO0:=zh (HO0.out.ext hE);replace HO1:=zh (HO1.out.ext hE);replace HB:=zh (HB.out.ext hE);replace HZ:=zh (HZ.out.ext hE);replace HE:=zh (zxt HE.out hE);replace HSZ:=zh (zw10 HSZ.out hE.size);clear hO hE hl1 hl2 hl3 hl4;have hc:=fun i=>HB.out.cell i;have hf:=fun i=>HB.out.frozen i;go_wp2_with fail;clear hc hf;replace HB:=zh (HB.out.set_ 9 (.slice B2 n0 d2));replace HZ:=zh (HZ.out.far (p:=⟨p,9,none⟩) (by have:=HSP.out;show s≠p;omega) (.slice B2 n0 d2));replace HE:=zh (ext_set HE.out (p:=⟨p,9,none⟩) (by have:=HSP.out;show w.heap.size≤p;omega) (.slice B2 n0 d2));replace HO0:=zh (HO0.out.grown (gb_set w3 p 9 (.slice B2 n0 d2)) (by have:=HSP.out;omega));replace HO1:=zh (HO1.out.grown (gb_set w3 p 9 (.slice B2 n0 d2)) (by have:=HSP.out;omega));replace HO2:=zh (HO2.out.grown (gb_set w3 p 9 (.slice B2 n0 d2)) (by have:=HSP.out;omega));replace HSZ:Hid (s+2≤(w3.setCell ⟨p,9,none⟩ (.slice B2 n0 d2)).heap.size):=zh (by have:=HSZ.out;have:=HSP.out;simp only[World.setCell,Array.size_modify];omega)
 obtain⟨V3,hV⟩:∃q,q=w3.setCell ⟨p,9,none⟩ (.slice B2 n0 d2):=⟨_,rfl⟩;rw[←hV]at HB HZ HE HSZ HO0 HO1 HO2 ⊢;clear hV;simp only[zzA,zzB,zzC]at HB;rw[rounds_succ];have hc:=fun i=>HB.out.cell i;have hf:=fun i=>HB.out.frozen i;have hix:=(idx4 (.slice A0 n0 c0) (.slice A1 n1 c1) (.slice A2 n2 c2) (.slice A3 n3 c3) V3).2.1;go_wp2_with fail;clear hc hf hix;refine(HC3.out _ HE.out).mono ?_;rintro e w4 ⟨v,rfl,hO,hE⟩;obtain⟨B3,d3,hv,hl1,hl2,hl3,hl4⟩:=hO.shape;rw[HL1.out]at hv hl1 hl3;subst hv;have HK3:=zh (And.intro hl1 (And.intro (show d3≤9223372036854775807 from hl2) hl3));have HO3:=zh (OwnR_mono' (b':=s+2) hO (by have:=HSP.out;have:=HSZ.out;omega));replace HO0:=zh (HO0.out.ext hE);replace HO1:=zh (HO1.out.ext hE);replace HO2:=zh (HO2.out.ext hE);replace HB:=zh (HB.out.ext hE);replace HZ:=zh (HZ.out.ext hE);replace HE:=zh (zxt HE.out hE);replace HSZ:=zh (zw10 HSZ.out hE.size);clear hO hE hl1 hl2 hl3 hl4;have hc:=fun i=>HB.out.cell i;have hf:=fun i=>HB.out.frozen i;go_wp2_with fail;clear hc hf;replace HB:=zh (HB.out.set_ 10 (.slice B3 n1 d3));replace HZ:=zh (HZ.out.far (p:=⟨p,10,none⟩) (by have:=HSP.out;show s≠p;omega) (.slice B3 n1 d3));replace HE:=zh (ext_set HE.out (p:=⟨p,10,none⟩) (by have:=HSP.out;show w.heap.size≤p;omega) (.slice B3 n1 d3));replace HO0:=zh (HO0.out.grown (gb_set w4 p 10 (.slice B3 n1 d3)) (by have:=HSP.out;omega));replace HO1:=zh (HO1.out.grown (gb_set w4 p 10 (.slice B3 n1 d3)) (by have:=HSP.out;omega));replace HO2:=zh (HO2.out.grown (gb_set w4 p 10 (.slice B3 n1 d3)) (by have:=HSP.out;omega));replace HO3:=zh (HO3.out.grown (gb_set w4 p 10 (.slice B3 n1 d3)) (by have:=HSP.out;omega))
 replace HSZ:Hid (s+2≤(w4.setCell ⟨p,10,none⟩ (.slice B3 n1 d3)).heap.size):=zh (by have:=HSZ.out;have:=HSP.out;simp only[World.setCell,Array.size_modify];omega);obtain⟨V4,hV⟩:∃q,q=w4.setCell ⟨p,10,none⟩ (.slice B3 n1 d3):=⟨_,rfl⟩;rw[←hV]at HB HZ HE HSZ HO0 HO1 HO2 HO3 ⊢;clear hV;simp only[zzA,zzB,zzC]at HB;rw[rounds_succ];have hc:=fun i=>HB.out.cell i;have hf:=fun i=>HB.out.frozen i;have hix:=(idx4 (.slice A0 n0 c0) (.slice A1 n1 c1) (.slice A2 n2 c2) (.slice A3 n3 c3) V4).2.2.1;go_wp2_with fail;clear hc hf hix;refine(HC4.out _ HE.out).mono ?_;rintro e w5 ⟨v,rfl,hO,hE⟩;obtain⟨B4,d4,hv,hl1,hl2,hl3,hl4⟩:=hO.shape;rw[HL2.out]at hv hl1 hl3;subst hv;have HK4:=zh (And.intro hl1 (And.intro (show d4≤9223372036854775807 from hl2) hl3));have HO4:=zh (OwnR_mono' (b':=s+2) hO (by have:=HSP.out;have:=HSZ.out;omega));replace HO0:=zh (HO0.out.ext hE);replace HO1:=zh (HO1.out.ext hE);replace HO2:=zh (HO2.out.ext hE);replace HO3:=zh (HO3.out.ext hE);replace HB:=zh (HB.out.ext hE);replace HZ:=zh (HZ.out.ext hE);replace HE:=zh (zxt HE.out hE);replace HSZ:=zh (zw10 HSZ.out hE.size);clear hO hE hl1 hl2 hl3 hl4;have hc:=fun i=>HB.out.cell i;have hf:=fun i=>HB.out.frozen i;go_wp2_with fail;clear hc hf;replace HB:=zh (HB.out.set_ 11 (.slice B4 n2 d4));replace HZ:=zh (HZ.out.far (p:=⟨p,11,none⟩) (by have:=HSP.out;show s≠p;omega) (.slice B4 n2 d4));replace HE:=zh (ext_set HE.out (p:=⟨p,11,none⟩) (by have:=HSP.out;show w.heap.size≤p;omega) (.slice B4 n2 d4));replace HO0:=zh (HO0.out.grown (gb_set w5 p 11 (.slice B4 n2 d4)) (by have:=HSP.out;omega));replace HO1:=zh (HO1.out.grown (gb_set w5 p 11 (.slice B4 n2 d4)) (by have:=HSP.out;omega));replace HO2:=zh (HO2.out.grown (gb_set w5 p 11 (.slice B4 n2 d4)) (by have:=HSP.out;omega));replace HO3:=zh (HO3.out.grown (gb_set w5 p 11 (.slice B4 n2 d4)) (by have:=HSP.out;omega));replace HO4:=zh (HO4.out.grown (gb_set w5 p 11 (.slice B4 n2 d4)) (by have:=HSP.out;omega))
 replace HSZ:Hid (s+2≤(w5.setCell ⟨p,11,none⟩ (.slice B4 n2 d4)).heap.size):=zh (by have:=HSZ.out;have:=HSP.out;simp only[World.setCell,Array.size_modify];omega);obtain⟨V5,hV⟩:∃q,q=w5.setCell ⟨p,11,none⟩ (.slice B4 n2 d4):=⟨_,rfl⟩;rw[←hV]at HB HZ HE HSZ HO0 HO1 HO2 HO3 HO4 ⊢;clear hV;simp only[zzA,zzB,zzC]at HB;rw[rounds_succ];have hc:=fun i=>HB.out.cell i;have hf:=fun i=>HB.out.frozen i;have hix:=(idx4 (.slice A0 n0 c0) (.slice A1 n1 c1) (.slice A2 n2 c2) (.slice A3 n3 c3) V5).2.2.2;go_wp2_with fail;clear hc hf hix;refine(HC5.out _ HE.out).mono ?_;rintro e w6 ⟨v,rfl,hO,hE⟩;obtain⟨B5,d5,hv,hl1,hl2,hl3,hl4⟩:=hO.shape;rw[HL3.out]at hv hl1 hl3;subst hv;have HK5:=zh (And.intro hl1 (And.intro (show d5≤9223372036854775807 from hl2) hl3));have HO5:=zh (OwnR_mono' (b':=s+2) hO (by have:=HSP.out;have:=HSZ.out;omega));replace HO0:=zh (HO0.out.ext hE);replace HO1:=zh (HO1.out.ext hE);replace HO2:=zh (HO2.out.ext hE);replace HO3:=zh (HO3.out.ext hE);replace HO4:=zh (HO4.out.ext hE);replace HB:=zh (HB.out.ext hE);replace HZ:=zh (HZ.out.ext hE);replace HE:=zh (zxt HE.out hE);replace HSZ:=zh (zw10 HSZ.out hE.size);clear hO hE hl1 hl2 hl3 hl4;have hc:=fun i=>HB.out.cell i;have hf:=fun i=>HB.out.frozen i;go_wp2_with fail;clear hc hf;replace HB:=zh (HB.out.set_ 12 (.slice B5 n3 d5));replace HZ:=zh (HZ.out.far (p:=⟨p,12,none⟩) (by have:=HSP.out;show s≠p;omega) (.slice B5 n3 d5));replace HE:=zh (ext_set HE.out (p:=⟨p,12,none⟩) (by have:=HSP.out;show w.heap.size≤p;omega) (.slice B5 n3 d5));replace HO0:=zh (HO0.out.grown (gb_set w6 p 12 (.slice B5 n3 d5)) (by have:=HSP.out;omega));replace HO1:=zh (HO1.out.grown (gb_set w6 p 12 (.slice B5 n3 d5)) (by have:=HSP.out;omega));replace HO2:=zh (HO2.out.grown (gb_set w6 p 12 (.slice B5 n3 d5)) (by have:=HSP.out;omega));replace HO3:=zh (HO3.out.grown (gb_set w6 p 12 (.slice B5 n3 d5)) (by have:=HSP.out;omega));replace HO4:=zh (HO4.out.grown (gb_set w6 p 12 (.slice B5 n3 d5)) (by have:=HSP.out;omega));replace HO5:=zh (HO5.out.grown (gb_set w6 p 12 (.slice B5 n3 d5)) (by have:=HSP.out;omega))
 replace HSZ:Hid (s+2≤(w6.setCell ⟨p,12,none⟩ (.slice B5 n3 d5)).heap.size):=zh (by have:=HSZ.out;have:=HSP.out;simp only[World.setCell,Array.size_modify];omega);obtain⟨V6,hV⟩:∃q,q=w6.setCell ⟨p,12,none⟩ (.slice B5 n3 d5):=⟨_,rfl⟩;rw[←hV]at HB HZ HE HSZ HO0 HO1 HO2 HO3 HO4 HO5 ⊢;clear hV;simp only[zzA,zzB,zzC]at HB;rw[rounds_succ];have hc:=fun i=>HB.out.cell i;have hf:=fun i=>HB.out.frozen i;go_wp2_with fail;clear hc hf;refine(HC6.out _ HE.out).mono ?_;rintro e w7 ⟨v,rfl,hO,hE⟩;obtain⟨B6,d6,hv,hl1,hl2,hl3,hl4⟩:=hO.shape;rw[HLM.out]at hv hl1 hl3;subst hv;have HK6:=zh (And.intro hl1 (And.intro (show d6≤9223372036854775807 from hl2) hl3));have HO6:=zh (OwnR_mono' (b':=s+2) hO (by have:=HSP.out;have:=HSZ.out;omega));replace HO0:=zh (HO0.out.ext hE);replace HO1:=zh (HO1.out.ext hE);replace HO2:=zh (HO2.out.ext hE);replace HO3:=zh (HO3.out.ext hE);replace HO4:=zh (HO4.out.ext hE);replace HO5:=zh (HO5.out.ext hE);replace HB:=zh (HB.out.ext hE);replace HZ:=zh (HZ.out.ext hE);replace HE:=zh (zxt HE.out hE);replace HSZ:=zh (zw10 HSZ.out hE.size);clear hO hE hl1 hl2 hl3 hl4;have HY:=zh (HB.out.set_ 13 (.slice B6 nm d6));simp only[zzA,zzB,zzC]at HY;have HX:=zh (HZ.out.far (p:=⟨p,13,none⟩) (by have:=HSP.out;show s≠p;omega) (.slice B6 nm d6));replace HE:=zh (ext_set HE.out (p:=⟨p,13,none⟩) (by have:=HSP.out;show w.heap.size≤p;omega) (.slice B6 nm d6));replace HO0:=zh (HO0.out.grown (gb_set w7 p 13 (.slice B6 nm d6)) (by have:=HSP.out;omega));replace HO1:=zh (HO1.out.grown (gb_set w7 p 13 (.slice B6 nm d6)) (by have:=HSP.out;omega));replace HO2:=zh (HO2.out.grown (gb_set w7 p 13 (.slice B6 nm d6)) (by have:=HSP.out;omega));replace HO3:=zh (HO3.out.grown (gb_set w7 p 13 (.slice B6 nm d6)) (by have:=HSP.out;omega));replace HO4:=zh (HO4.out.grown (gb_set w7 p 13 (.slice B6 nm d6)) (by have:=HSP.out;omega));replace HO5:=zh (HO5.out.grown (gb_set w7 p 13 (.slice B6 nm d6)) (by have:=HSP.out;omega));replace HO6:=zh (HO6.out.grown (gb_set w7 p 13 (.slice B6 nm d6)) (by have:=HSP.out;omega))
 obtain⟨w8,hw8,hb8,hg8⟩:=set15 HX.out (.int .i64 xw) (.int .i64 xh) (.int .i64 xp) (.int .u32 (xs:Int)) (.string xt) (.slice B0 m1 d0) (.slice B1 m2 d1) (.int .i64 N) (.int .i64 K) (.slice B2 n0 d2) (.slice B3 n1 d3) (.slice B4 n2 d4) (.slice B5 n3 d5) (.slice B6 nm d6) (.slice none 0 0);have HB8:=zh hb8;have HG8:=zh hg8;replace hw8:=zh hw8;clear hb8 hg8;have hc:=fun i=>HB.out.cell i;have hf:=fun i=>HB.out.frozen i;have gc:=fun i=>HZ.out.cell i;have gf:=fun i=>HZ.out.frozen i;have hne:s≠p:=by have:=HSP.out;omega
 have hne2:p≠s:=by have:=HSP.out;omega
 go_wp2_with fail;rw[←hw8.out];clear hw8 hc hf gc gf;replace HE:=zh (ext_grown HE.out HG8.out (fun q e=>by cases e;have:=HSP.out;omega));replace HO0:=zh (HO0.out.grown HG8.out (by omega));replace HO1:=zh (HO1.out.grown HG8.out (by omega));replace HO2:=zh (HO2.out.grown HG8.out (by omega));replace HO3:=zh (HO3.out.grown HG8.out (by omega));replace HO4:=zh (HO4.out.grown HG8.out (by omega));replace HO5:=zh (HO5.out.grown HG8.out (by omega));replace HO6:=zh (HO6.out.grown HG8.out (by omega));refine bodyPost_ret (results_cell_row Tryz.results16 _ _ s 43 _ (0,0) _ rfl HB8.out Tryz.underlying43 rfl (by kernel_rfl)) rfl ?_;refine⟨B0,d0,B1,d1,⟨⟨B2,n0,d2⟩,⟨B3,n1,d3⟩,⟨B4,n2,d4⟩,⟨B5,n3,d5⟩,⟨B6,nm,d6⟩⟩,?_,?_,?_,⟨?_,?_,?_,?_,?_⟩,HE.out⟩
 ·simp only[cPa,HLS.out,HLE.out]
 ·have h:=HO0.out;rw[←HLS.out]at h;exact OwnR.row cS_len h
 ·have h:=HO1.out;rw[←HLE.out]at h;exact OwnR.row cV_len h
 ·exact⟨OwnR.row cP_len HO2.out,HK2.out.1,HK2.out.2.1,HK2.out.2.2⟩
 ·exact⟨OwnR.row cP_len HO3.out,HK3.out.1,HK3.out.2.1,HK3.out.2.2⟩
 ·exact⟨OwnR.row cP_len HO4.out,HK4.out.1,HK4.out.2.1,HK4.out.2.2⟩
 ·exact⟨OwnR.row cP_len HO5.out,HK5.out.1,HK5.out.2.1,HK5.out.2.2⟩
 ·exact⟨OwnR.row cM_len HO6.out,HK6.out.1,HK6.out.2.1,HK6.out.2.2,HNL.out⟩
open Trk (Sl Tv Tk TkV)
open Log (Hv Ev cH cS cV)
theorem same20 (x:Hv) (evs:List Ev) (N K:Int) (tr:Tk) (ts:List ByteArray) (A:Option Addr) (c:Nat) (Al:Option Addr) (cl:Nat) (t:Tv) (p:Pv) (w:World) (hA:RowR w A x.starts.length 3 cS x.starts) (hL:RowR w Al evs.length 7 cV evs) (hT:TkV w t tr) (h:RfP w p x evs tr ts)
  (hr:∀c∈tr.cams,∀p∈c,(-2147483648≤p.x∧p.x≤2147483647)∧ -2147483648≤p.y∧p.y≤2147483647) (hl:(∀c∈tr.cams,c.length≤1000000)∧tr.marks.length≤1000000) (hl2:x.starts.length≤1000000∧evs.length≤1000000):
  Calls Tryz.prog 50 #[.agg (cPa x (.slice A x.starts.length c) (.slice Al evs.length cl) N K t (.slice none 0 0)),.agg (cPa x (.slice p.A x.starts.length p.c) (.slice p.Al evs.length p.cl) N K p.t (.slice p.Af ts.length p.cf))] w fun e w'=>e= .returned (.bool true)∧Ext w w':=by
 have HS:=zh (fun(W:World) (e:Ext w W)=>Log.same_st x A p.A x.starts.length c p.c W (hA.ext e) (h.1.ext e) hl2.1);have HTS:=zh (fun(W:World) (e:Ext w W)=>Trk.same_tr t p.t tr W (hT.ext e) (h.2.2.1.ext e) hr hl);have HB1:=zh hL;have HB2:=zh h.2.1;have HE0:=zh (zxa (zxa (zxr w) (.cells (cPa x (.slice A x.starts.length c) (.slice Al evs.length cl) N K t (.slice none 0 0)) 43)) (.cells (cPa x (.slice p.A x.starts.length p.c) (.slice p.Al evs.length p.cl) N K p.t (.slice p.Af ts.length p.cf)) 34));have HH1:=zh ((Blk.new w 43 (cPa x (.slice A x.starts.length c) (.slice Al evs.length cl) N K t (.slice none 0 0))).alloc (.cells (cPa x (.slice p.A x.starts.length p.c) (.slice p.Al evs.length p.cl) N K p.t (.slice p.Af ts.length p.cf)) 34));have HH2:=zh (Blk.new1 w (.cells (cPa x (.slice A x.starts.length c) (.slice Al evs.length cl) N K t (.slice none 0 0)) 43) 34 (cPa x (.slice p.A x.starts.length p.c) (.slice p.Al evs.length p.cl) N K p.t (.slice p.Af ts.length p.cf)));obtain⟨hl3,hl4⟩:=hl2;clear hA hL hT h hr hl hl3;obtain⟨⟨A0,n0,c0⟩,⟨A1,n1,c1⟩,⟨A2,n2,c2⟩,⟨A3,n3,c3⟩,⟨Am,nm,cm⟩⟩:=t;obtain⟨B,d,Bl,dl,⟨⟨B0,m0,d0⟩,⟨B1,m1,d1⟩,⟨B2,m2,d2⟩,⟨B3,m3,d3⟩,⟨Bm,mm,dm⟩⟩,Bf,df⟩:=p;obtain⟨xw,xh,xp,xs,xt,us⟩:=x;simp only[cPa,cH,Tv.cells]at HS HTS HE0 HH1 HH2 ⊢;obtain⟨q1,hq1⟩:∃z,us.length=z:=⟨_,rfl⟩;obtain⟨m,hm⟩:∃z,evs.length=z:=⟨_,rfl⟩;obtain⟨mf,hmf⟩:∃z,ts.length=z:=⟨_,rfl⟩;rw[hq1,hm,hmf]at HE0 HH1 HH2 ⊢;rw[hq1]at HS;rw[hm]at HB1 HB2 hl4;have HLEN:=zh hm;clear hq1 hm hmf;go_enter Tryz.func50,Tryz.ntmps50
 go_upto_region 1 with fail;obtain⟨w0,hw0⟩:∃q,q=(w.alloc (.cells #[.int .i64 xw,.int .i64 xh,.int .i64 xp,.int .u32 (xs:Int),.string xt,.slice A q1 c,.slice Al m cl,.int .i64 N,.int .i64 K,.slice A0 n0 c0,.slice A1 n1 c1,.slice A2 n2 c2,.slice A3 n3 c3,.slice Am nm cm,.slice none 0 0] 43)).alloc (.cells #[.int .i64 xw,.int .i64 xh,.int .i64 xp,.int .u32 (xs:Int),.string xt,.slice B q1 d,.slice Bl m dl,.int .i64 N,.int .i64 K,.slice B0 m0 d0,.slice B1 m1 d1,.slice B2 m2 d2,.slice B3 m3 d3,.slice Bm mm dm,.slice Bf mf df] 34):=⟨_,rfl⟩;rw[←hw0]at HE0 HH1 HH2 ⊢;clear hw0;generalize w.heap.size=hb at*;have h1:=fun i=>HH1.out.cell i;have h2:=fun i=>HH2.out.cell i;go_wp2_with fail;refine(HS.out _ HE0.out).mono ?_;rintro e w1 ⟨rfl,hE⟩;replace HE0:=zh (zxt HE0.out hE);replace HH1:=zh (HH1.out.ext hE);replace HH2:=zh (HH2.out.ext hE);clear h1 h2 hE HS;have h1:=fun i=>HH1.out.cell i;have h2:=fun i=>HH2.out.cell i;go_wp2_with fail;refine(HTS.out _ HE0.out).mono ?_;rintro e w2 ⟨rfl,hE⟩;replace HE0:=zh (zxt HE0.out hE);replace HH1:=zh (HH1.out.ext hE);replace HH2:=zh (HH2.out.ext hE);clear h1 h2 hE HTS;have h1:=fun i=>HH1.out.cell i;have h2:=fun i=>HH2.out.cell i;go_wp2_with fail;clear h1 h2
 go_loopg [5] m (fun gh iv wr=>∃k,k+gh=m∧iv= .int .i64 ((k:Nat):Int)∧Ext w2 wr)
 case atStart=>exact⟨0,by omega,rfl,zxr _⟩
 case round=>
  obtain⟨k,hk,rfl,hE⟩:=hrel;obtain⟨wi,rfl⟩:∃wi:World,wi=wr:=⟨_,rfl⟩;obtain⟨gh,rfl⟩:∃gh:Nat,gh=gk:=⟨_,rfl⟩;have HE:=zh hE;have a6:=kc hE (HH1.out.cell 6);have d6':=kc hE (HH2.out.cell 6);clear hE;have y1:(0:Int)≤(k:Int):=by omega
  by_cases hlt:k<m
  ·have hke:k<evs.length:=by rw[HLEN.out];exact hlt
   obtain⟨b1,o1,rfl,hbw1,hc1⟩:=HB1.out.2 (by omega);obtain⟨b2,o2,rfl,hbw2,hc2⟩:=HB2.out.2 (by omega);have hEE:=zxt HE0.out HE.out;have q1':=fun i hi=>(hEE.cell (p:=⟨b1,o1+k*7+i,none⟩) hbw1).trans (hc1 k hke i hi);have q2':=fun i hi=>(hEE.cell (p:=⟨b2,o2+k*7+i,none⟩) hbw2).trans (hc2 k hke i hi);generalize evs[k]=u at q1' q2';obtain⟨x0,x1,x2,x3,x4,x5,x6⟩:=u;have g0:=q1' 0 (by omega);have g1:=q1' 1 (by omega);have g2:=q1' 2 (by omega);have g3:=q1' 3 (by omega);have g4:=q1' 4 (by omega);have g5:=q1' 5 (by omega);have g6:=q1' 6 (by omega);have k0:=q2' 0 (by omega);have k1:=q2' 1 (by omega);have k2:=q2' 2 (by omega);have k3:=q2' 3 (by omega);have k4:=q2' 4 (by omega);have k5:=q2' 5 (by omega);have k6:=q2' 6 (by omega);simp only[cV,Nat.add_zero,List.getElem?_cons_zero,List.getElem?_cons_succ]at g0 g1 g2 g3 g4 g5 g6 k0 k1 k2 k3 k4 k5 k6;have y2:(k:Int)<(m:Int):=by omega
   clear hc1 hc2 q1' q2' hke hEE;go_wp2_with fail
   (refine wp_still (by kernel_rfl) (by kernel_rfl) ?_;repeat still_step);refine wpStill_nil ?_;go_wp2_with fail
   go_roundg (gh-1)
   case measure=>omega
   case rel=>exact⟨k+1,by omega,by go_num,zxd HE.out⟩
  ·obtain rfl:gh=0:=by omega
   obtain rfl:k=m:=by omega
   have y2:¬(k:Int)<(k:Int):=by omega
   go_wp2_with fail;go_ret;exact⟨rfl,zxt HE0.out HE.out⟩
open Grid (okm)
open Log (Hv Sv cS cH mayH mayB walkB)
theorem walkB_at {T:ByteArray} {t:Nat} (h:t<T.size):walkB T (t:Int)=((T[t].toNat:Int)==0):=by
 unfold walkB;rw[dif_pos ⟨by omega,by simpa using h⟩];rfl
theorem walkB_no {T:ByteArray} {t:Int} (h:t<0∨(T.size:Int)≤t):walkB T t=false:=by
 unfold walkB;rw[dif_neg];omega
def ARel (w0:World) (us:List Sv) (xp:Int) (xt:ByteArray) (R:Bool) (m gh:Nat) (iv:Value) (wr:World):Prop:=
 ∃(k:Nat) (tk:List Int),k+gh=m∧iv= .int .i64 (k:Int)∧(∀z,z∈tk↔∃j,∃h:j<us.length,j<k∧us[j].tile=z)∧Ext w0 wr∧R=mayB xp xt tk (us.drop k)
theorem rmay17 (x:Hv) (A:Option Addr) (m c:Nat) (w:World) (hB:RowR w A m 3 cS x.starts) (hf:∀u∈x.starts,u.fits) (hs:x.tiles.size≤5000) (hm:m≤1000000)
  (hw1: -9223372036854775808≤x.w) (hw2:x.w≤9223372036854775807) (hh1: -9223372036854775808≤x.h) (hh2:x.h≤9223372036854775807):
  Calls Tryz.prog 35 #[.agg (cH x (.slice A m c))] w fun e w'=>e= .returned (.bool (decide (mayH x)))∧Ext w w':=by
 generalize hR:decide (mayH x)=R;replace hR:=zh hR;obtain⟨xw,xh,xp,xs,xt,us⟩:=x;simp only at*;have HB:=zh hB;have HLEN:=zh hB.1;have HF:=zh hf;have HMY:Hid (∀W,Calls Tryz.prog 67 #[.int .i64 xw,.int .i64 xh,.string xt] W fun e W'=>e= .returned (.bool (decide (okm xw xh xt)))∧W=W'):=zh (fun W=>Grid.may_any xw xh xt W hs hw1 hw2 hh1 hh2);clear hB hf hw1 hw2 hh1 hh2;generalize hob:decide (okm xw xh xt)=ob at HMY;have HOB:=zh hob;clear hob;unfold cH;simp only;have HE0:=zh (zxa (zxr w) (.cells #[.int .i64 xw,.int .i64 xh,.int .i64 xp,.int .u32 (xs:Int),.string xt,.slice A m c] 25));have HH0:=zh (Blk.new w 25 #[.int .i64 xw,.int .i64 xh,.int .i64 xp,.int .u32 (xs:Int),.string xt,.slice A m c]);go_enter Tryz.func35,Tryz.ntmps35;go_upto_region 1 with fail;obtain⟨w0,hw0⟩:∃q,q=w.alloc (.cells #[.int .i64 xw,.int .i64 xh,.int .i64 xp,.int .u32 (xs:Int),.string xt,.slice A m c] 25):=⟨_,rfl⟩;rw[←hw0]at HE0 HH0 ⊢;clear hw0;generalize w.heap.size=hb at*;have HDC:Hid (∀W,Ext w0 W→W.cell? ⟨hb,2,none⟩=some (.int .i64 xp)∧W.cell? ⟨hb,4,none⟩=some (.string xt)∧W.cell? ⟨hb,5,none⟩=some (.slice A m c)):=zh (fun W e=>⟨kc e (HH0.out.cell 2),kc e (HH0.out.cell 4),kc e (HH0.out.cell 5)⟩);have d0:=HH0.out.cell 0;have d1:=HH0.out.cell 1;simp only[zzD,zzE,zzF]at d0 d1;obtain⟨d2,d4,d5⟩:=HDC.out w0 (zxr _);go_wp2_with fail;refine(HMY.out _).mono ?_;rintro e w1 ⟨rfl,rfl⟩
 cases ob with
 | false=>
  have HRF:Hid (R=false):=zh (by rw[←hR.out];exact zw14 (fun h=>of_decide_eq_false HOB.out h.1));go_wp2_with fail;go_ret;exact⟨by rw[HRF.out];rfl,HE0.out⟩
 | true=>
 by_cases hp1:xp<1
 ·have HRF:Hid (R=false):=zh (by rw[←hR.out];exact zw14 (fun h=>by have:=h.2.1;simp only at this;omega))
  go_wp2_with fail;go_ret;exact⟨by rw[HRF.out];rfl,HE0.out⟩
 by_cases hp4:4<xp
 ·have HRF:Hid (R=false):=zh (by rw[←hR.out];exact zw14 (fun h=>by have:=h.2.2.1;simp only at this;omega))
  go_wp2_with fail;go_ret;exact⟨by rw[HRF.out];rfl,HE0.out⟩
 by_cases hm8:128<m
 ·have HRF:Hid (R=false):=zh (by rw[←hR.out];exact zw14 (fun h=>by have:=h.2.2.2.1;have h2:=HLEN.out;simp only at this h2;omega))
  have hm8':(128:Int)<(m:Int):=by omega
  go_wp2_with fail;go_ret;exact⟨by rw[HRF.out];rfl,HE0.out⟩
 have HRR:Hid (R=mayB xp xt [] (us.drop 0)):=zh (by
  rw[←hR.out,zw28];by_cases hb:mayB xp xt [] us=true
  ·rw[hb];exact zw15 ⟨of_decide_eq_true HOB.out,by simp only;omega,by simp only;omega,by have h2:=HLEN.out;simp only at h2 ⊢;omega,hb⟩
  ·rw[Bool.eq_false_iff.2 hb];exact zw14 (fun h=>hb h.2.2.2.2))
 have hm9:¬(128:Int)<(m:Int):=by omega
 go_wp2_with fail;clear d0 d1 d2 d4 d5
 go_loopg [3] m (fun gh iv wr=>ARel w0 us xp xt R m gh iv wr)
 case atStart=>exact⟨0,[],by omega,rfl,fun z=>⟨fun h=>(by cases h),fun⟨j,_,h,_⟩=>absurd h (by omega)⟩,zxr _,HRR.out⟩
 case round=>
  obtain⟨k,tk,hk,rfl,htk,hE,hRk⟩:=hrel;obtain⟨wi,rfl⟩:∃wi:World,wi=wr:=⟨_,rfl⟩;obtain⟨gh,rfl⟩:∃gh:Nat,gh=gk:=⟨_,rfl⟩;have HE:=zh hE;have HRK:=zh hRk;have HTK:=zh htk;clear hE hRk htk HRR hR;have y1:(0:Int)≤(k:Int):=by omega
  obtain⟨d2,d4,d5⟩:=HDC.out wi HE.out;by_cases hlt:k<m
  ·have y2:(k:Int)<(m:Int):=by omega
   have hke:k<us.length:=by rw[HLEN.out];exact hlt
   obtain⟨b,o,rfl,hbw,hc⟩:=HB.out.2 (by omega);have HEI:=zh (zxt HE0.out HE.out);have hq:=fun j hj=>(HEI.out.cell (p:=⟨b,o+k*3+j,none⟩) hbw).trans (hc k hke j hj);have HALL:Hid (∀j (hj:j<us.length),∀W,Ext w W→W.cell? ⟨b,o+j*3+2,none⟩=some (.int .i64 us[j].tile)):=zh (fun j hj W e=>kc e (hc j hj 2 (by omega)));have hd:us.drop k=us[k]::us.drop (k+1):=zw20 hke;have HTN:Hid (∀z,z∈us[k].tile::tk↔∃j,∃h:j<us.length,j<k+1∧us[j].tile=z):=zh (fun z=>by
    rw[zw30,HTK.out z];constructor
    ·rintro (rfl | ⟨j,h,h1,h2⟩)
     ·exact⟨k,hke,by omega,rfl⟩
     ·exact⟨j,h,by omega,h2⟩
    ·rintro ⟨j,h,h1,h2⟩
     by_cases hj:j=k
     ·subst hj;exact .inl h2.symm
     ·exact .inr ⟨j,h,by omega,h2⟩)
   have hf1:=(HF.out _ (zw25 hke)).1;generalize us[k]=u at hq hd HTN hf1;have HR1:Hid (R=mayB xp xt tk (u::us.drop (k+1))):=zh (by rw[HRK.out,hd]);obtain⟨u1,u2,u3⟩:=u;have a0:=hq 0 (by omega);have a1:=hq 1 (by omega);have a2:=hq 2 (by omega);simp only[cS,Nat.add_zero,List.getElem?_cons_zero,List.getElem?_cons_succ]at a0 a1 a2 HTN hf1;have zw:IntKind.i64.wrap (u1:Int)=(u1:Int):=IntWalk.i64_in _ (by omega);rw[mayB]at HR1;simp only at HR1;clear hc hq hd HRK;have HHX:=zh (Blk.new wi 99 #[.int .u8 (u1:Int),.int .u8 (u2:Int),.int .i64 u3]);have HEX:=zh (zxa HE.out (.cells #[.int .u8 (u1:Int),.int .u8 (u2:Int),.int .i64 u3] 99));go_upto_region 7 with fail;obtain⟨wx,hwx⟩:∃q,q=wi.alloc (.cells #[.int .u8 (u1:Int),.int .u8 (u2:Int),.int .i64 u3] 99):=⟨_,rfl⟩;rw[←hwx]at HHX HEX ⊢;clear hwx a0 a1 a2 d2 d4 d5;generalize wi.heap.size=xb at*;have x0:=HHX.out.cell 0;have x1:=HHX.out.cell 1;have x2:=HHX.out.cell 2;simp only[zzD,zzE,zzF]at x0 x1 x2;obtain⟨d2,d4,d5⟩:=HDC.out wx HEX.out;have HFE:=zh (zxt HE0.out HEX.out);by_cases q1:xp≤(u1:Int)
   ·have HRF:Hid (R=false):=zh (by rw[HR1.out,zw14 (show ¬(u1:Int)<xp by omega),zw51])
    go_wp2_with fail;go_ret;exact⟨by rw[HRF.out];rfl,HFE.out⟩
   by_cases q2:u2<1
   ·have HRF:Hid (R=false):=zh (by rw[HR1.out,zw14 (show ¬1≤u2 by omega),zw51,Bool.and_false])
    have q2':(u2:Int)<1:=by omega
    go_wp2_with fail;go_ret;exact⟨by rw[HRF.out];rfl,HFE.out⟩
   by_cases q3:5<u2
   ·have HRF:Hid (R=false):=zh (by rw[HR1.out,zw14 (show ¬u2≤5 by omega)];simp)
    have q2':¬(u2:Int)<1:=by omega
    have q3':(5:Int)<(u2:Int):=by omega
    go_wp2_with fail;go_ret;exact⟨by rw[HRF.out];rfl,HFE.out⟩
   have q2':¬(u2:Int)<1:=by omega
   have q3':¬(5:Int)<(u2:Int):=by omega
   have HR2:Hid (R=(walkB xt u3 && (!decide (u3∈tk) && mayB xp xt (u3::tk) (us.drop (k+1))))):=zh (by
    rw[HR1.out,zw15 (show(u1:Int)<xp by omega),zw15 (show 1≤u2 by omega),zw15 (show u2≤5 by omega)];rfl)
   clear HR1 q2 q3;by_cases q4:u3<0
   ·have HRF:Hid (R=false):=zh (by rw[HR2.out,walkB_no (.inl q4),zw51])
    go_wp2_with fail;go_ret;exact⟨by rw[HRF.out];rfl,HFE.out⟩
   by_cases q5:(xt.size:Int)≤u3
   ·have HRF:Hid (R=false):=zh (by rw[HR2.out,walkB_no (.inr q5),zw51])
    go_wp2_with fail;go_ret;exact⟨by rw[HRF.out];rfl,HFE.out⟩
   obtain⟨t,rfl⟩:∃q:Nat,u3=(q:Int):=⟨u3.toNat,by omega⟩;have htt:t<xt.size:=by omega
   have r1:(0:Int)≤(t:Int):=by omega
   have r2:(t:Int)<(xt.size:Int):=by omega
   have HWB:=zh (walkB_at htt);by_cases q6:xt[t].toNat=0
   rotate_left
   ·have hz1:((xt[t].toNat:Int)==0)=false:=zw12.2 (by omega)
    have hz2:((xt[t].toNat:Int) != 0)=true:=by simp[bne,hz1]
    have HRF:Hid (R=false):=zh (by rw[HR2.out,HWB.out,hz1,zw51]);clear q6;go_wp2_with fail;go_ret;exact⟨by rw[HRF.out];rfl,HFE.out⟩
   have hz1:((xt[t].toNat:Int)==0)=true:=beq_iff_eq.2 (by omega);have hz2:((xt[t].toNat:Int) != 0)=false:=by simp[bne,hz1]
   have HR3:Hid (R=(!decide ((t:Int)∈tk) && mayB xp xt ((t:Int)::tk) (us.drop (k+1)))):=zh (by rw[HR2.out,HWB.out,hz1,zw50]);clear HR2 q6 HWB;go_wp2_with fail;clear x0 x1 x2 d2 d4 d5 hz1 hz2
   go_loopg [5] k (fun gi iv wr=>∃j:Nat,j+gi=k∧iv= .int .i64 (j:Int)∧(∀i (h:i<us.length),i<j→us[i].tile≠(t:Int))∧Ext wx wr)
   case atStart=>exact⟨0,by omega,rfl,fun i _ h=>absurd h (by omega),zxr _⟩
   case round=>
    obtain⟨j,hj,rfl,hpre,hE⟩:=hrel;obtain⟨wj,rfl⟩:∃wi:World,wi=wr:=⟨_,rfl⟩;obtain⟨gi,rfl⟩:∃gh:Nat,gh=gk:=⟨_,rfl⟩;have HEJ:=zh hE;have HPRE:=zh hpre;clear hE hpre;have y3:(0:Int)≤(j:Int):=by omega
    by_cases hjk:j<k
    ·have y4:(j:Int)<(k:Int):=by omega
     have y5:(j:Int)<(m:Int):=by omega
     have hje:j<us.length:=by omega
     have a2:=HALL.out j hje wj (zxt HFE.out HEJ.out);have x2:=kc HEJ.out (HHX.out.cell 2);have d5:=(HDC.out wj (zxt HEX.out HEJ.out)).2.2;have HMM:Hid (us[j].tile=(t:Int)→(t:Int)∈tk):=zh (fun h=>(HTK.out _).2 ⟨j,hje,hjk,h⟩);have HPN:Hid (us[j].tile≠(t:Int)→∀i (h:i<us.length),i<j+1→us[i].tile≠(t:Int)):=zh (fun hn i h hi=>by
      by_cases e:i=j
      ·subst e;exact hn
      ·exact HPRE.out i h (by omega))
     generalize us[j].tile=q at a2 HMM HPN;clear hke hje;by_cases he:q=(t:Int)
     ·have HRF:Hid (R=false):=zh (by rw[HR3.out,zw15 (HMM.out he),Bool.not_true,zw51])
      have he':(q==(t:Int))=true:=beq_iff_eq.2 he;clear HMM HPN;go_wp2_with fail
      (refine wp_still (by kernel_rfl) (by kernel_rfl) ?_;repeat still_step);refine wpStill_nil ?_;go_wp2_with fail;go_ret;exact⟨by rw[HRF.out];rfl,zxt HFE.out (zxd HEJ.out)⟩
     ·have HPX:=zh (HPN.out he)
      have he':(q==(t:Int))=false:=zw12.2 he;clear HMM HPN;go_wp2_with fail
      (refine wp_still (by kernel_rfl) (by kernel_rfl) ?_;repeat still_step);refine wpStill_nil ?_;go_wp2_with fail
      go_roundg (gi-1)
      case measure=>omega
      case rel=>exact⟨j+1,by omega,by go_num,HPX.out,zxd HEJ.out⟩
    ·obtain rfl:gi=0:=by omega
     obtain rfl:j=k:=by omega
     have y4:¬(j:Int)<(j:Int):=by omega
     have HR4:Hid (R=mayB xp xt ((t:Int)::tk) (us.drop (j+1))):=zh (by
      rw[HR3.out,zw14,Bool.not_false,zw50];intro h;obtain⟨i,h1,h2,h3⟩:=(HTK.out _).1 h;exact HPRE.out i h1 h2 h3)
     clear HR3;go_wp2_with fail
     go_roundg (gh-1)
     case measure=>omega
     case rel=>exact⟨j+1,(t:Int)::tk,by omega,by go_num,HTN.out,zxt HEX.out HEJ.out,HR4.out⟩
  ·obtain rfl:gh=0:=by omega
   have y2:¬(k:Int)<(m:Int):=by omega
   have HRT:Hid (R=true):=zh (by rw[HRK.out,zw21 (by rw[HLEN.out];omega),mayB]);go_wp2_with fail;go_ret;exact⟨by rw[HRT.out];rfl,zxt HE0.out HE.out⟩
open Trk (Sl Tv Tk mayT RfV)
open Log (Hv Ev cH cV mayH putL)
instance (r:Rc):Decidable (mayR r):=by unfold mayR;infer_instance
theorem rpV_at (T:Option (List Nat)):∃s ec,rpV T= .tuple #[.string s,.int .i64 ec]∧(ec==0)=T.isSome:=by
 cases T with
 | none=>exact⟨_,_,rfl,rfl⟩
 | some L=>exact⟨_,_,rfl,rfl⟩
theorem rmay20 (p:Pv) (x:Hv) (evs:List Ev) (N KI:Int) (tr:Tk) (ts:List ByteArray) (w:World) (h:RfP w p x evs tr ts) (hl:Lit x evs tr ts) (hsf:∀u∈x.starts,u.fits) (hef:∀e∈evs,e.fits)
  (hw: -9223372036854775808≤x.w∧x.w≤9223372036854775807∧ -9223372036854775808≤x.h∧x.h≤9223372036854775807) (hN: -9223372036854775808≤N∧N≤9223372036854775807) (hcl:evs.length≤p.cl∧p.cl≤9223372036854775807):
  Calls Tryz.prog 10 #[.agg (cPa x (.slice p.A x.starts.length p.c) (.slice p.Al evs.length p.cl) N KI p.t (.slice p.Af ts.length p.cf))] w fun e w'=>e= .returned (.bool (decide (mayR ⟨x,evs,N,KI,tr,ts.map natsOf⟩)))∧Ext w w':=by
 obtain⟨l1,l2,l3,l4,l5,l6⟩:=hl;have HE0:=zh (zxa (zxr w) (.cells (cPa x (.slice p.A x.starts.length p.c) (.slice p.Al evs.length p.cl) N KI p.t (.slice p.Af ts.length p.cf)) 34));have HH0:=zh (Blk.new w 34 (cPa x (.slice p.A x.starts.length p.c) (.slice p.Al evs.length p.cl) N KI p.t (.slice p.Af ts.length p.cf)));have HM17:=zh (fun(W:World) (e:Ext w W)=>rmay17 x p.A x.starts.length p.c W (h.1.ext e) hsf (by omega) (by omega) hw.1 hw.2.1 hw.2.2.1 hw.2.2.2);have HM19:=zh (fun(W:World) (e:Ext w W)=>Trk.rmay_tr p.t tr N W (h.2.2.1.ext e) hN.1 hN.2);have HPU:=zh (fun(W:World) (e:Ext w W)=>rput17 p.Al evs.length p.cl evs N W (h.2.1.ext e) hef (by omega) hcl.1 hcl.2);have HP:=zh h.2.2.2;have HSZ:=zh l6;obtain⟨R,hR⟩:∃q,q=decide (mayR ⟨x,evs,N,KI,tr,ts.map natsOf⟩):=⟨_,rfl⟩;rw[←hR];have HRF:Hid (¬mayR ⟨x,evs,N,KI,tr,ts.map natsOf⟩→R=false):=zh (fun h=>by rw[hR];exact zw14 h);have HRT:Hid (mayH x→mayT N tr=true→1≤KI→KI≤256→(ts.length:Int)=N+1→R=(putL N evs).isSome):=zh (fun a1 a2 a3 a4 a5=>by
  rw[hR]
  cases hq:(putL N evs).isSome with
  | true=>exact zw15 ⟨a1,hq,a2,a3,a4,fun f hf=>(by obtain⟨s,hs,rfl⟩:=List.mem_map.1 hf;rw[natsOf_len];have:=l6 s hs;omega),by simpa using a5⟩
  | false=>exact zw14 (fun h=>by have:=h.2.1;rw[hq]at this;cases this))
 have HRH:Hid (mayR ⟨x,evs,N,KI,tr,ts.map natsOf⟩→mayH x∧mayT N tr=true∧1≤KI∧KI≤256∧(ts.length:Int)=N+1∧0≤N∧N≤4096):=zh (fun h=>by
  obtain⟨a1,a2,a3,a4,a5,a6,a7⟩:=h;have a8:=a3;unfold mayT at a8;simp only[zw48,zw49]at a8;exact⟨a1,a3,a4,a5,by simpa using a7,a8.1.1,a8.1.2⟩)
 clear h hR hsf hef hw hN hcl l6 l5;generalize hbh:decide (mayH x)=bh at HM17;have HBH:=zh hbh;generalize hbt:mayT N tr=bt at HM19 HRT HRH;generalize hT:putL N evs=T at HPU HRT;clear hbh hbt hT;obtain⟨A,c,Al,cl,⟨⟨A0,n0,c0⟩,⟨A1,n1,c1⟩,⟨A2,n2,c2⟩,⟨A3,n3,c3⟩,⟨Am,nm,cm⟩⟩,Af,cf⟩:=p;obtain⟨xw,xh,xp,xs,xt,us⟩:=x;simp only[cPa,Tv.cells,cH]at HE0 HH0 HM17 HM19 ⊢;simp only at l1 l2;obtain⟨q1,hq1⟩:∃q,us.length=q:=⟨_,rfl⟩;obtain⟨q2,hq2⟩:∃q,evs.length=q:=⟨_,rfl⟩;obtain⟨m,hm⟩:∃q,ts.length=q:=⟨_,rfl⟩;rw[hq1,hq2,hm]at HE0 HH0 ⊢;rw[hq1]at HM17;simp only at HPU;rw[hq2]at HPU;rw[hm]at l4 HRT HRH;have HM:=zh hm;clear hq1 hq2 hm l1 l2 l3;have hm9:m≤9223372036854775807:=by omega
 go_enter Tryz.func10,Tryz.ntmps10;go_upto_region 1 with fail;obtain⟨w0,hw0⟩:∃q,q=w.alloc (.cells #[.int .i64 xw,.int .i64 xh,.int .i64 xp,.int .u32 (xs:Int),.string xt,.slice A q1 c,.slice Al q2 cl,.int .i64 N,.int .i64 KI,.slice A0 n0 c0,.slice A1 n1 c1,.slice A2 n2 c2,.slice A3 n3 c3,.slice Am nm cm,.slice Af m cf] 34):=⟨_,rfl⟩;rw[←hw0]at HE0 HH0 ⊢;clear hw0;generalize w.heap.size=hb at*;have HC:=zh (fun(W:World) (e:Ext w0 W)=>(⟨kc e (HH0.out.cell 6),kc e (HH0.out.cell 7),kc e (HH0.out.cell 8),kc e (HH0.out.cell 9),kc e (HH0.out.cell 10),kc e (HH0.out.cell 11),kc e (HH0.out.cell 12),kc e (HH0.out.cell 13),kc e (HH0.out.cell 14)⟩:W.cell? ⟨hb,6,none⟩=some (.slice Al q2 cl)∧W.cell? ⟨hb,7,none⟩=some (.int .i64 N)∧W.cell? ⟨hb,8,none⟩=some (.int .i64 KI)∧W.cell? ⟨hb,9,none⟩=some (.slice A0 n0 c0)∧W.cell? ⟨hb,10,none⟩=some (.slice A1 n1 c1)∧W.cell? ⟨hb,11,none⟩=some (.slice A2 n2 c2)∧W.cell? ⟨hb,12,none⟩=some (.slice A3 n3 c3)∧W.cell? ⟨hb,13,none⟩=some (.slice Am nm cm)∧W.cell? ⟨hb,14,none⟩=some (.slice Af m cf)));have d0:=HH0.out.cell 0;have d1:=HH0.out.cell 1;have d2:=HH0.out.cell 2;have d3:=HH0.out.cell 3;have d4:=HH0.out.cell 4;have d5:=HH0.out.cell 5;simp only[zzD,zzE,zzF]at d0 d1 d2 d3 d4 d5;go_wp2_with fail;refine(HM17.out _ HE0.out).mono ?_;rintro e w1 ⟨rfl,hE⟩;have HE:=zh hE;clear hE d0 d1 d2 d3 d4 d5
 cases bh with
 | false=>
  have HF:Hid (R=false):=zh (HRF.out (fun h=>of_decide_eq_false HBH.out (HRH.out h).1));go_wp2_with fail;go_ret;exact⟨by rw[HF.out];rfl,zxt HE0.out HE.out⟩
 | true=>
 obtain⟨d6,d7,d8,d9,d10,d11,d12,d13,d14⟩:=HC.out w1 HE.out;by_cases g1:N<0
 ·have HF:Hid (R=false):=zh (HRF.out (fun h=>by have:=(HRH.out h).2.2.2.2.2;omega))
  go_wp2_with fail;go_ret;exact⟨by rw[HF.out];rfl,zxt HE0.out HE.out⟩
 by_cases g2:4096<N
 ·have HF:Hid (R=false):=zh (HRF.out (fun h=>by have:=(HRH.out h).2.2.2.2.2;omega))
  go_wp2_with fail;go_ret;exact⟨by rw[HF.out];rfl,zxt HE0.out HE.out⟩
 by_cases g3:KI<1
 ·have HF:Hid (R=false):=zh (HRF.out (fun h=>by have:=(HRH.out h).2.2.1;omega))
  go_wp2_with fail;go_ret;exact⟨by rw[HF.out];rfl,zxt HE0.out HE.out⟩
 by_cases g4:256<KI
 ·have HF:Hid (R=false):=zh (HRF.out (fun h=>by have:=(HRH.out h).2.2.2.1;omega))
  go_wp2_with fail;go_ret;exact⟨by rw[HF.out];rfl,zxt HE0.out HE.out⟩
 go_wp2_with fail;refine(HM19.out _ (zxt HE0.out HE.out)).mono ?_;rintro e w2 ⟨rfl,hE⟩;replace HE:=zh (zxt HE.out hE);clear hE d6 d7 d8 d9 d10 d11 d12 d13 d14;obtain⟨d6,d7,_,_,_,_,_,_,d14⟩:=HC.out w2 HE.out
 cases bt with
 | false=>
  have HF:Hid (R=false):=zh (HRF.out (fun h=>by have:=(HRH.out h).2.1;cases this));go_wp2_with fail;go_ret;exact⟨by rw[HF.out];rfl,zxt HE0.out HE.out⟩
 | true=>
 by_cases g5:(m:Int)=N+1
 rotate_left
 ·have HF:Hid (R=false):=zh (HRF.out (fun h=>g5 (HRH.out h).2.2.2.2.1))
  have z1:((m:Int)==N+1)=false:=zw12.2 g5;have z2:((m:Int) != N+1)=true:=by simp[bne,z1]
  go_wp2_with fail;go_ret;exact⟨by rw[HF.out];rfl,zxt HE0.out HE.out⟩
 have HR:Hid (R=T.isSome):=zh (HRT.out (of_decide_eq_true HBH.out) rfl (by omega) (by omega) g5);have z1:((m:Int)==N+1)=true:=beq_iff_eq.2 g5;have z2:((m:Int) != N+1)=false:=by simp[bne,z1]
 go_wp2_with fail;refine(HPU.out _ (zxt HE0.out HE.out)).mono ?_;rintro e w3 ⟨hE,rfl⟩;replace HE:=zh (zxt HE.out hE);obtain⟨s,ec,hv,hec⟩:=rpV_at T;rw[hv];rw[←hec]at HR;clear hE d6 d7 d14 hv hec HRT HRH HRF z1 z2 HBH HM17 HM19 HPU;have d14:=(HC.out w3 HE.out).2.2.2.2.2.2.2.2;go_wp2_with fail
 go_loopg [5] m (fun gh iv wr=>∃(k:Nat),k+gh=m∧iv= .int .i64 (k:Int)∧wr=w3)
 case atStart=>exact⟨0,by omega,rfl,rfl⟩
 case round=>
  obtain⟨k,hk,rfl,rfl⟩:=hrel;obtain⟨gh,rfl⟩:∃gh:Nat,gh=gk:=⟨_,rfl⟩;have y1:(0:Int)≤(k:Int):=by omega
  by_cases hlt:k<m
  ·have y2:(k:Int)<(m:Int):=by omega
   have hkl:k<ts.length:=by rw[HM.out];exact hlt
   obtain⟨bs,os,hAf,hbw,hcell⟩:=HP.out.2 (by show 0<ts.length;omega)
   try simp only at hAf
   subst hAf;have hst:=kc (zxt HE0.out HE.out) (hcell k hkl 0 (by omega));have hts:=HSZ.out _ (zw25 hkl);generalize ts[k]=T at hst hts;simp only[cT,List.getElem?_cons_zero,Nat.mul_one,Nat.add_zero]at hst;have hts':¬(131072:Int)<(T.size:Int):=by omega
   clear hcell;go_wp2_with fail
   go_roundg (gh-1)
   case measure=>omega
   case rel=>exact⟨k+1,by omega,by go_num,rfl⟩
  ·obtain rfl:gh=0:=by omega
   have y2:¬(k:Int)<(m:Int):=by omega
   go_wp2_with fail;go_ret;exact⟨by rw[HR.out];rfl,zxt HE0.out HE.out⟩
end Go.Proofs.YtidnboeihkeljaaGreatDoor.Fil
