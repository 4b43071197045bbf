/- Law 20: the known recording, as the program has it. -/
import Derived.Test.YtidnboeihkeljaaGreatDoorF25
import Derived.Test.YtidnboeihkeljaaGreatDoorTrkS
set_option maxHeartbeats 16000000
set_option maxRecDepth 100000
set_option linter.all false
open Go.ChangeShapes Go.WideShapes Go.ChangeAt Go.RowKit
namespace Go.Proofs.YtidnboeihkeljaaGreatDoor.Fil
open Wire
open Rec
open Trk (Sl Tv Tk TkV mayT encT takeT RfV Room)
open Log (Hv Ev En cH cS cV mayH putL encH OwnR_mono' OwnR_keep)
theorem set15 {w:World} {g:Nat} {t:TypeId} {z0 z1 z2 z3 z4 z5 z6 z7 z8 z9 z10 z11 z12 z13 z14:Value} (h:Blk w g t #[z0,z1,z2,z3,z4,z5,z6,z7,z8,z9,z10,z11,z12,z13,z14]) (c0 c1 c2 c3 c4 c5 c6 c7 c8 c9 c10 c11 c12 c13 c14:Value):∃w',w'=(((((((((((((((w.setCell ⟨g,0,none⟩ c0).setCell ⟨g,1,none⟩ c1).setCell ⟨g,2,none⟩ c2).setCell ⟨g,3,none⟩ c3).setCell ⟨g,4,none⟩ c4).setCell ⟨g,5,none⟩ c5).setCell ⟨g,6,none⟩ c6).setCell ⟨g,7,none⟩ c7).setCell ⟨g,8,none⟩ c8).setCell ⟨g,9,none⟩ c9).setCell ⟨g,10,none⟩ c10).setCell ⟨g,11,none⟩ c11).setCell ⟨g,12,none⟩ c12).setCell ⟨g,13,none⟩ c13).setCell ⟨g,14,none⟩ c14)∧Blk w' g t #[c0,c1,c2,c3,c4,c5,c6,c7,c8,c9,c10,c11,c12,c13,c14]∧w.grownBy w' (some g):=by
  have h1:=Blk.set_ h 0 c0;simp only[zzA,zzB,zzC]at h1;have h2:=Blk.set_ h1 1 c1;simp only[zzA,zzB,zzC]at h2;have h3:=Blk.set_ h2 2 c2;simp only[zzA,zzB,zzC]at h3;have h4:=Blk.set_ h3 3 c3;simp only[zzA,zzB,zzC]at h4;have h5:=Blk.set_ h4 4 c4;simp only[zzA,zzB,zzC]at h5;have h6:=Blk.set_ h5 5 c5;simp only[zzA,zzB,zzC]at h6;have h7:=Blk.set_ h6 6 c6;simp only[zzA,zzB,zzC]at h7;have h8:=Blk.set_ h7 7 c7;simp only[zzA,zzB,zzC]at h8;have h9:=Blk.set_ h8 8 c8;simp only[zzA,zzB,zzC]at h9;have h10:=Blk.set_ h9 9 c9;simp only[zzA,zzB,zzC]at h10;have h11:=Blk.set_ h10 10 c10;simp only[zzA,zzB,zzC]at h11;have h12:=Blk.set_ h11 11 c11;simp only[zzA,zzB,zzC]at h12;have h13:=Blk.set_ h12 12 c12;simp only[zzA,zzB,zzC]at h13;have h14:=Blk.set_ h13 13 c13;simp only[zzA,zzB,zzC]at h14;have h15:=Blk.set_ h14 14 c14;simp only[zzA,zzB,zzC]at h15;exact⟨_,rfl,h15,(gb_trans (gb_trans (gb_trans (gb_trans (gb_trans (gb_trans (gb_trans (gb_trans (gb_trans (gb_trans (gb_trans (gb_trans (gb_trans (gb_trans (gb_set w g 0 c0) (gb_set _ g 1 c1)) (gb_set _ g 2 c2)) (gb_set _ g 3 c3)) (gb_set _ g 4 c4)) (gb_set _ g 5 c5)) (gb_set _ g 6 c6)) (gb_set _ g 7 c7)) (gb_set _ g 8 c8)) (gb_set _ g 9 c9)) (gb_set _ g 10 c10)) (gb_set _ g 11 c11)) (gb_set _ g 12 c12)) (gb_set _ g 13 c13)) (gb_set _ g 14 c14))⟩
def zPa:Array Value:= #[.int .i64 0,.int .i64 0,.int .i64 0,.int .u32 0,.string ⟨#[]⟩,.slice none 0 0,.slice none 0 0,.int .i64 0,.int .i64 0,.slice none 0 0,.slice none 0 0,.slice none 0 0,.slice none 0 0,.slice none 0 0,.slice none 0 0]
theorem known_st (w : World) : Calls Tryz.prog 24 #[] w fun e w' => ∃ g, e = .returned (.agg #[.int .i64 4, .int .i64 4, .int .i64 1, .int .u32 0, .string ⟨#[0, 0, 0, 0, 0, 0, 0, 0, 0, 0, 0, 0, 0, 0, 0, 0]⟩, .slice none 0 0, .slice none 0 0, .int .i64 2, .int .i64 2, .slice none 0 0, .slice none 0 0, .slice none 0 0, .slice none 0 0, .slice none 0 0, .slice (some ⟨g, 0, none⟩) 3 3]) ∧
    Blk w' g 9 #[.string ⟨#[97,98,99]⟩,.string ⟨#[97,98,100]⟩,.string ⟨#[120]⟩]∧Ext w w':=by
  go_enter Tryz.func24,Tryz.ntmps24;go_wp2_with fail;have hb:=((Blk.new w 34 #[.int .i64 4,.int .i64 4,.int .i64 1,.int .u32 0,.string ⟨#[0,0,0,0,0,0,0,0,0,0,0,0,0,0,0,0]⟩,.slice none 0 0,.slice none 0 0,.int .i64 2,.int .i64 2,.slice none 0 0,.slice none 0 0,.slice none 0 0,.slice none 0 0,.slice none 0 0,.slice (some ⟨w.heap.size+1+1,0,none⟩) 3 3]).alloc (.cells #[.int .i64 4,.int .i64 4,.int .i64 1,.int .u32 0,.string ⟨#[0,0,0,0,0,0,0,0,0,0,0,0,0,0,0,0]⟩,.slice none 0 0] 25)).alloc (.cells #[.string ⟨#[97,98,99]⟩,.string ⟨#[97,98,100]⟩,.string ⟨#[120]⟩] 9);have hs:=Blk.new ((w.alloc (.cells #[.int .i64 4,.int .i64 4,.int .i64 1,.int .u32 0,.string ⟨#[0,0,0,0,0,0,0,0,0,0,0,0,0,0,0,0]⟩,.slice none 0 0,.slice none 0 0,.int .i64 2,.int .i64 2,.slice none 0 0,.slice none 0 0,.slice none 0 0,.slice none 0 0,.slice none 0 0,.slice (some ⟨w.heap.size+1+1,0,none⟩) 3 3] 34)).alloc (.cells #[.int .i64 4,.int .i64 4,.int .i64 1,.int .u32 0,.string ⟨#[0,0,0,0,0,0,0,0,0,0,0,0,0,0,0,0]⟩,.slice none 0 0] 25)) 9 #[.string ⟨#[97,98,99]⟩,.string ⟨#[97,98,100]⟩,.string ⟨#[120]⟩];simp only[zw22]at hs;refine bodyPost_ret (results_cell_row Tryz.results24 _ _ w.heap.size 34 _ (0,0) _ rfl hb Tryz.underlying34 rfl (by kernel_rfl)) rfl ?_;exact⟨_,rfl,hs,zxa (zxa (zxa (zxr _) _) _) _⟩
def cT (s:ByteArray):List Value:=[.string s]
theorem cT_len (s:ByteArray):(cT s).length=1:=rfl
def RfP (w:World) (p:Pv) (x:Hv) (evs:List Ev) (tr:Tk) (ts:List ByteArray):Prop:=
  RowR w p.A x.starts.length 3 cS x.starts∧RowR w p.Al evs.length 7 cV evs∧RfV w p.t tr∧RowR w p.Af ts.length 1 cT ts
def FsW (wl wr:World) (g:Nat) (cs:Value→Array Value) (ts:List ByteArray) (i:Nat) (fv:Value):Prop:=
  ∃ss:List Sl,Blk wr g 43 (cs fv)∧OwnR wl.heap.size wr 48 1 cF fv ss∧ss.length=i∧wl.grownBy wr (some g)∧g<wl.heap.size∧
    ∀j (h:j<ss.length),BsV wr ss[j] (natsOf (ts.getD j ⟨#[]⟩))∧∀a,ss[j].A=some a→wl.heap.size≤a.block∧a.block<wr.heap.size∧fv.ownBlock≠some a.block
theorem infoBs:(Tryz.prog.info? 48).map (fun i=>(i.zero,i.size,i.bytes))=some (some (.slice none 0 0),1,24):=by kernel_rfl
section
variable {wl wr w' : World} {g : Nat} {cs : Value → Array Value} {ts : List ByteArray} {i : Nat} {fv : Value}
theorem FsW.ext (h:FsW wl wr g cs ts i fv) (e:Ext wr w'):FsW wl w' g cs ts i fv:=by
  obtain⟨ss,h1,h2,h3,h4,h5,h6⟩:=h;refine⟨ss,h1.ext e,h2.ext e,h3,gb_trans h4 (gb_ext e _),h5,fun j hj=>⟨(h6 j hj).1.ext e,fun a ha=>?_⟩⟩;obtain⟨q1,q2,q3⟩:=(h6 j hj).2 a ha;exact⟨q1,zw9 q2 e.size,q3⟩
theorem bsv_grown {w w':World} {s:Sl} {f:List Nat} {row:Option Nat} (h:BsV w s f) (hg:w.grownBy w' row) (hne:∀a,s.A=some a→some a.block≠row):BsV w' s f:=⟨h.1.kept hg hne,h.2⟩
theorem FsW.gb (h:FsW wl wr g cs ts i fv):wl.grownBy wr (some g):=by obtain⟨_,_,_,_,h4,_⟩:=h;exact h4
theorem FsW.ob (h:FsW wl wr g cs ts i fv) (q:Nat) (e:fv.ownBlock=some q):q<wr.heap.size:=by obtain⟨_,_,h2,_⟩:=h;exact(zw23 h2 q e).2
theorem FsW.c14 (h:FsW wl wr g cs ts i fv) (hc:(cs fv)[14]? =some fv):wr.cell? ⟨g,14,none⟩=some fv:=by obtain⟨_,h1,_⟩:=h;exact(h1.cell 14).trans hc
theorem FsW.push (h : FsW wl wr g cs ts i fv) (s : Sl) (hs : BsV wr s (natsOf (ts.getD i ⟨#[]⟩))) (hsA : ∀ a, s.A = some a → wl.heap.size ≤ a.block ∧ a.block < wr.heap.size ∧ fv.ownBlock ≠ some a.block) {vx : Value} (hsrc : Src Tryz.prog 1 41 vx 1 (cF s) wr) (hi : i ≤ 2000000) (hcs : ∀ v, (cs fv).setIfInBounds 14 v = cs v) :
    ∃fv' wq,(Builtin.append_ #[41,41] 41 #[fv,vx]).run Tryz.prog wr= .ok fv' wq∧Blk wq g 43 (cs fv)∧(∃A n c,fv'= .slice A n c)∧wl.grownBy wq (some g)∧FsW wl (wq.setCell ⟨g,14,none⟩ fv') g cs ts (i+1) fv':=by
  obtain⟨ss,h1,h2,h3,h4,h5,h6⟩:=h;obtain⟨i0,hi0,hq⟩:=Option.map_eq_some_iff.1 infoBs;simp only[Prod.mk.injEq]at hq;obtain⟨hz0,hz1,hz2⟩:=hq;obtain⟨fv',wq,r1,r2,r3⟩:=run_app_own2 (P:=Tryz.prog) 41 41 41 48 i0 (.slice none 0 0) 1 24 Tryz.underlying41 hi0 hz0 hz1 hz2 rfl wl.heap.size fv ss.length (ss.flatMap cF) h2 vx 1 (cF s) hsrc (by unfold maxLen;omega) (by omega) h4.size;have hob:∀q,fv.ownBlock=some q→wl.heap.size≤q:=fun q e=>(zw23 h2 q e).1;have hgf:some g≠fv.ownBlock:=fun e=>by have:=hob g e.symm;omega
  have hb:Blk wq g 43 (cs fv):=(r3.1.block g h1.lt hgf).trans h1;have hO:OwnR wl.heap.size wq 48 1 cF fv' (ss++[s]):=by
    unfold OwnR;rw[zw0,List.flatMap_append,List.flatMap_cons,List.flatMap_nil,zw18];exact r2
  have hob':∀q,fv'.ownBlock=some q→wl.heap.size≤q:=fun q e=>(zw23 hO q e).1;have hkeep:∀(u:Sl) (f:List Nat),BsV wr u f→(∀a,u.A=some a→wl.heap.size≤a.block∧a.block<wr.heap.size∧fv.ownBlock≠some a.block)→BsV (wq.setCell ⟨g,14,none⟩ fv') u f∧∀a,u.A=some a→wl.heap.size≤a.block∧a.block<(wq.setCell ⟨g,14,none⟩ fv').heap.size∧fv'.ownBlock≠some a.block:=by
    intro u f hu ha;refine⟨bsv_grown (bsv_grown hu r3.1 (fun a e=>Ne.symm (ha a e).2.2)) (gb_set wq g 14 fv') (fun a e=>by have:=(ha a e).1;intro q;cases q;omega),fun a e=>?_⟩;obtain⟨q1,q2,q3⟩:=ha a e;refine⟨q1,by have:=r3.1.size;simp[World.setCell];omega,fun q=>?_⟩;rcases r3.2 with k | k
    · exact q3 (k▸q)
    · have:=k _ q;omega
  refine⟨fv',wq,r1,hb,?_,⟨r3.1.os.trans h4.os,r3.1.tape.trans h4.tape,r3.1.output.trans h4.output,zw10 h4.size r3.1.size,fun q hq hne=>(r3.1.block q (zw9 hq h4.size) (fun e=>by have:=hob q e.symm;omega)).trans (h4.block q hq hne)⟩,ss++[s],?_,?_,by rw[zw0,h3];rfl,?_,h5,fun j hj=>?_⟩
  · obtain⟨a1,a2,e,_⟩:=hO.shape
    exact⟨a1,_,a2,e⟩
  · have:=hb.set_ 14 fv'
    rwa [hcs]at this
  · exact zw24 hO (gb_set wq g 14 fv') (by
      cases hq:fv'.ownBlock with
      | none=>exact .inl rfl
      | some q=>exact .inr (fun e=>by have:=hob' q hq;cases e;omega))
  · refine⟨r3.1.os.trans h4.os,r3.1.tape.trans h4.tape,r3.1.output.trans h4.output,by have:=r3.1.size;have:=h4.size;simp[World.setCell];omega,fun q hq hne=>?_⟩
    have e1:(wq.setCell ⟨g,14,none⟩ fv').heap[q]? =wq.heap[q]? :=zw46 wq ⟨g,14,none⟩ fv' q (fun e=>hne (by rw[e]));exact(e1.trans (r3.1.block q (zw9 hq h4.size) (fun e=>by have:=hob q e.symm;omega))).trans (h4.block q hq hne)
  · rw[zw0]at hj
    simp only[zw3,zw26]at hj;by_cases hjs:j<ss.length
    · rw[List.getElem_append_left hjs]
      exact hkeep _ _ (h6 j hjs).1 (h6 j hjs).2
    · obtain rfl:j=ss.length:=by omega
      rw[List.getElem_append_right (zw8 _)];simp only[Nat.sub_self,List.getElem_cons_zero];rw[h3];exact hkeep s _ hs hsA
end
def O2Post (w:World) (p:Pv) (x:Hv) (evs:List Ev) (N K:Int) (tr:Tk) (ts:List ByteArray) (e:Ending) (w':World):Prop:=
  Ext w w'∧∃(p':Pv) (b:Bool),e= .returned (.tuple #[.agg (p'.cells ⟨x,evs,N,K,tr,ts.map natsOf⟩),.bool b])∧(b=true→PaV w' p' ⟨x,evs,N,K,tr,ts.map natsOf⟩∧∀c∈tr.cams,∀q∈c,Trk.Within q)∧((∀c∈tr.cams,∀q∈c,Trk.Within q)→b=true)
def ckR (wB wx:World) (w0:Nat) (x:Hv) (sv:Value) (N K:Int) (t:Tv) (evs:List Ev) (s6:Value):Prop:=
  ∃(g:Nat) (A:Option Addr) (n c:Nat),s6= .pointer (some ⟨g,0,none⟩)∧Blk wx g 43 (cPa x sv (.slice A n c) N K t (.slice none 0 0))∧OwnR w0 wx 104 7 cV (.slice A n c) evs∧(∀q,(Value.slice A n c).ownBlock=some q→q≠g)∧Ext wB wx∧wB.heap.size≤g∧g<wx.heap.size
theorem of_parts (p : Pv) (x : Hv) (evs : List Ev) (N KI : Int) (tr : Tk) (ts : List ByteArray) (w : World) (h : RfP w p x evs tr ts) (hz : Room tr) (hl : evs.length ≤ 2000000) (ht : ts.length ≤ 2000000) (hs : ∀ s ∈ ts, s.size ≤ 100000000000) :
    Calls Tryz.prog 6 #[.agg (cPa x (.slice p.A x.starts.length p.c) (.slice p.Al evs.length p.cl) N KI p.t (.slice p.Af ts.length p.cf))] w (O2Post w p x evs N KI tr ts):=by
  have HE0:=zh (zxa (zxa (zxr w) (.cells (cPa x (.slice p.A x.starts.length p.c) (.slice p.Al evs.length p.cl) N KI p.t (.slice p.Af ts.length p.cf)) 34)) (.cells zPa 43));have HH0:=zh ((Blk.new w 34 (cPa x (.slice p.A x.starts.length p.c) (.slice p.Al evs.length p.cl) N KI p.t (.slice p.Af ts.length p.cf))).alloc (.cells zPa 43));have HR0:=zh (Blk.new1 w (.cells (cPa x (.slice p.A x.starts.length p.c) (.slice p.Al evs.length p.cl) N KI p.t (.slice p.Af ts.length p.cf)) 34) 43 zPa);have HOF:=zh (fun(w':World) (e:Ext w w')=>Trk.of_tr2 p.t tr w' (h.2.2.1.ext e) hz);have HLG:=zh (fun(w':World) (e:Ext w w')=>Log.of_law p.Al evs.length p.cl evs w' (h.2.1.ext e) hl);have HP:=zh h;have HSZ:=zh hs;obtain⟨A,c,Al,cl,⟨⟨A0,n0,c0⟩,⟨A1,n1,c1⟩,⟨A2,n2,c2⟩,⟨A3,n3,c3⟩,⟨Am,nm,cm⟩⟩,Af,cf⟩:=p;obtain⟨xw,xh,xp,xs,xt,us⟩:=x;simp only[cPa,zPa,Tv.cells]at HE0 HH0 HR0 HOF HLG ⊢;obtain⟨q1,hq1⟩:∃q,us.length=q:=⟨_,rfl⟩;obtain⟨q2,hq2⟩:∃q,evs.length=q:=⟨_,rfl⟩;obtain⟨m,hm⟩:∃q,ts.length=q:=⟨_,rfl⟩;rw[hq1,hq2,hm]at HE0 HH0 HR0 ⊢;rw[hq2]at HLG;rw[hm]at ht;replace hq1:=zh hq1;replace hq2:=zh hq2;replace hm:=zh hm;clear h hz hl hs;go_enter Tryz.func6,Tryz.ntmps6;go_upto_region 1 with fail;obtain⟨wA,hwA⟩:∃q,q=(w.alloc (.cells #[.int .i64 xw,.int .i64 xh,.int .i64 xp,.int .u32 (xs:Int),.string xt,.slice A q1 c,.slice Al q2 cl,.int .i64 N,.int .i64 KI,.slice A0 n0 c0,.slice A1 n1 c1,.slice A2 n2 c2,.slice A3 n3 c3,.slice Am nm cm,.slice Af m cf] 34)).alloc (.cells #[.int .i64 0,.int .i64 0,.int .i64 0,.int .u32 0,.string ⟨#[]⟩,.slice none 0 0,.slice none 0 0,.int .i64 0,.int .i64 0,.slice none 0 0,.slice none 0 0,.slice none 0 0,.slice none 0 0,.slice none 0 0,.slice none 0 0] 43):=⟨_,rfl⟩
  rw[←hwA]at HE0 HH0 HR0 ⊢;clear hwA;obtain⟨hb,hhb⟩:∃q,q=w.heap.size:=⟨_,rfl⟩;rw[←hhb]at HH0 HR0 ⊢;replace hhb:=zh hhb;have HRL:Hid (hb+1<wA.heap.size):=zh HR0.out.lt;have hh:=fun i=>HH0.out.cell i;go_wp2_with fail;refine(HOF.out _ HE0.out).mono ?_;rintro e w1 ⟨hE1,⟨⟨D0,m0,d0⟩,⟨D1,m1,d1⟩,⟨D2,m2,d2⟩,⟨D3,m3,d3⟩,⟨D4,m4,d4⟩⟩,ib,rfl,hT1,hIB⟩;have HIB:=zh hIB;clear hIB;have HE1:=zh hE1;have HT1:=zh hT1;clear hE1 hT1 hh HOF;simp only[Tv.cells];have HTB:=zh (Blk.new w1 40 #[.slice D0 m0 d0,.slice D1 m1 d1,.slice D2 m2 d2,.slice D3 m3 d3,.slice D4 m4 d4]);have HEB:=zh (zxa (zxt HE0.out HE1.out) (.cells #[.slice D0 m0 d0,.slice D1 m1 d1,.slice D2 m2 d2,.slice D3 m3 d3,.slice D4 m4 d4] 40));have HEB1:=zh (zxa (zxr w1) (.cells #[.slice D0 m0 d0,.slice D1 m1 d1,.slice D2 m2 d2,.slice D3 m3 d3,.slice D4 m4 d4] 40));go_upto_region 2 with fail;obtain⟨wB,hwB⟩:∃q,q=w1.alloc (.cells #[.slice D0 m0 d0,.slice D1 m1 d1,.slice D2 m2 d2,.slice D3 m3 d3,.slice D4 m4 d4] 40):=⟨_,rfl⟩;rw[←hwB]at HTB HEB HEB1 ⊢;clear hwB;obtain⟨tb,htb⟩:∃q,q=w1.heap.size:=⟨_,rfl⟩;rw[←htb]at HTB ⊢;clear htb;have HHB:=zh ((HH0.out.ext HE1.out).ext HEB1.out);have HRB:=zh ((HR0.out.ext HE1.out).ext HEB1.out);have HTK:Hid (ib=true→TkV wB ⟨⟨D0,m0,d0⟩,⟨D1,m1,d1⟩,⟨D2,m2,d2⟩,⟨D3,m3,d3⟩,⟨D4,m4,d4⟩⟩ tr∧(∀c∈tr.cams,∀q∈c,Trk.Within q)∧(∀a,(D0=some a∨D1=some a∨D2=some a∨D3=some a)→hb+1<a.block)∧∀a,D4=some a→0<m4→hb+1<a.block):=zh (fun h=>⟨(HT1.out h).1.ext HEB1.out,(HT1.out h).2.1,fun a ha=>zw9 HRL.out ((HT1.out h).2.2.1 a ha),fun a ha h0=>zw9 HRL.out ((HT1.out h).2.2.2 a ha h0)⟩)
  clear HH0 HR0 HE1 HEB1 HT1 HE0
  go_cut [6] (fun s6 wx=>ckR wB wx wB.heap.size ⟨xw,xh,xp,xs,xt,us⟩ (.slice A q1 c) N KI ⟨⟨D0,m0,d0⟩,⟨D1,m1,d1⟩,⟨D2,m2,d2⟩,⟨D3,m3,d3⟩,⟨D4,m4,d4⟩⟩ evs s6)
  case first=>
    have HEW:=zh (zxd HEB.out);have HH2:=zh (HHB.out.ext (zxd (zxr wB)));have HT2:=zh (HTB.out.ext (zxd (zxr wB)));have HDD:Hid (Ext wB wB.drew):=zh (zxd (zxr wB));generalize hwd:wB.drew=wd at HEW HH2 HT2 HDD;have HE:=zh (zxr wd);have MKS:=zh (fun(W:World) (e:Ext wd W)=>(⟨kc e (HH2.out.cell 0),kc e (HH2.out.cell 1),kc e (HH2.out.cell 2),kc e (HH2.out.cell 3),kc e (HH2.out.cell 4),kc e (HH2.out.cell 5),kc e (HH2.out.cell 6),kc e (HH2.out.cell 7),kc e (HH2.out.cell 8),kc e (HT2.out.cell 0),kc e (HT2.out.cell 1),kc e (HT2.out.cell 2),kc e (HT2.out.cell 3),kc e (HT2.out.cell 4)⟩:W.cell? ⟨hb,0,none⟩=some (.int .i64 xw)∧W.cell? ⟨hb,1,none⟩=some (.int .i64 xh)∧W.cell? ⟨hb,2,none⟩=some (.int .i64 xp)∧W.cell? ⟨hb,3,none⟩=some (.int .u32 (xs:Int))∧W.cell? ⟨hb,4,none⟩=some (.string xt)∧W.cell? ⟨hb,5,none⟩=some (.slice A q1 c)∧W.cell? ⟨hb,6,none⟩=some (.slice Al q2 cl)∧W.cell? ⟨hb,7,none⟩=some (.int .i64 N)∧W.cell? ⟨hb,8,none⟩=some (.int .i64 KI)∧W.cell? ⟨tb,0,none⟩=some (.slice D0 m0 d0)∧W.cell? ⟨tb,1,none⟩=some (.slice D1 m1 d1)∧W.cell? ⟨tb,2,none⟩=some (.slice D2 m2 d2)∧W.cell? ⟨tb,3,none⟩=some (.slice D3 m3 d3)∧W.cell? ⟨tb,4,none⟩=some (.slice D4 m4 d4)));have HS:=zh (MKS.out _ HE.out);refine zw38 (S:=fun W=>W.cell? ⟨hb,0,none⟩=some (.int .i64 xw)∧W.cell? ⟨hb,1,none⟩=some (.int .i64 xh)∧W.cell? ⟨hb,2,none⟩=some (.int .i64 xp)∧W.cell? ⟨hb,3,none⟩=some (.int .u32 (xs:Int))∧W.cell? ⟨hb,4,none⟩=some (.string xt)∧W.cell? ⟨hb,5,none⟩=some (.slice A q1 c)∧W.cell? ⟨hb,6,none⟩=some (.slice Al q2 cl)∧W.cell? ⟨hb,7,none⟩=some (.int .i64 N)∧W.cell? ⟨hb,8,none⟩=some (.int .i64 KI)∧W.cell? ⟨tb,0,none⟩=some (.slice D0 m0 d0)∧W.cell? ⟨tb,1,none⟩=some (.slice D1 m1 d1)∧W.cell? ⟨tb,2,none⟩=some (.slice D2 m2 d2)∧W.cell? ⟨tb,3,none⟩=some (.slice D3 m3 d3)∧W.cell? ⟨tb,4,none⟩=some (.slice D4 m4 d4)) hmxF (by rw[hwd];exact HS.out) (fun _=>?_)
    rw[hwd]
    iterate 9
     refine zqT (v:=?_) HS.out rfl ?_ ?_;rotate_left
     · intro w' hSw;obtain⟨s0,s1,s2,s3,s4,s5,s6,s7,s8,s9,s10,s11,s12,s13⟩:=hSw;go_simp;try rfl
     (try simp only[Act.put,zzA,zzB,zzC])
    refine zw41 (rs:=[4,11]) (by kernel_rfl) (by simp) ?_;refine zqC rfl (fun K hK=>?_) (zqC rfl (fun K hK=>?_) zw42)
    · go_simp
      refine(HLG.out _ (zxt HEW.out HE.out)).mono ?_;rintro e w5 ⟨lv,rfl,hO,hE⟩;obtain⟨A7,n7,c7,hlv⟩:∃A1 n1 c1,lv= .slice A1 n1 c1:=by obtain⟨a1,a2,e,_⟩:=hO.shape;exact⟨a1,_,a2,e⟩
      subst hlv;have HO:=zh (OwnR_mono' hO (zw10 HDD.out.size HE.out.size));replace HE:=zh (zxt HE.out hE);clear hO hE;have HS:=zh (MKS.out _ HE.out)
      (try go_wp2_with fail)
      refine hK.out _ _ HS.out fun _=>?_;clear hK K
      (try simp only[Act.put,zzA,zzB,zzC])
      (refine zqT (v:=?_) HS.out rfl ?_ ?_);rotate_left
      · intro w' hSw;obtain⟨s0,s1,s2,s3,s4,s5,s6,s7,s8,s9,s10,s11,s12,s13⟩:=hSw;go_simp;try rfl
      (try simp only[Act.put,zzA,zzB,zzC])
      refine zqO (i:=11) (by kernel_rfl) rfl fun K hK=>?_;have HB:=zh (Blk.new w5 43 #[.int .i64 0,.int .i64 0,.int .i64 0,.int .u32 0,.string ⟨#[]⟩,.slice none 0 0,.slice none 0 0,.int .i64 0,.int .i64 0,.slice none 0 0,.slice none 0 0,.slice none 0 0,.slice none 0 0,.slice none 0 0,.slice none 0 0]);obtain⟨gg,hgg⟩:∃q,q=w5.heap.size:=⟨_,rfl⟩;have HGL:Hid (wd.heap.size≤gg):=zh (by rw[hgg];exact HE.out.size);have HOF7:Hid (∀q,(Value.slice A7 n7 c7).ownBlock=some q→q≠gg):=zh (fun q h e=>by have:=(zw23 HO.out q h).2;omega);replace HO:=zh (HO.out.ext (zxa (zxr w5) (.cells #[.int .i64 0,.int .i64 0,.int .i64 0,.int .u32 0,.string ⟨#[]⟩,.slice none 0 0,.slice none 0 0,.int .i64 0,.int .i64 0,.slice none 0 0,.slice none 0 0,.slice none 0 0,.slice none 0 0,.slice none 0 0,.slice none 0 0] 43)));replace HE:=zh (zxa HE.out (.cells #[.int .i64 0,.int .i64 0,.int .i64 0,.int .u32 0,.string ⟨#[]⟩,.slice none 0 0,.slice none 0 0,.int .i64 0,.int .i64 0,.slice none 0 0,.slice none 0 0,.slice none 0 0,.slice none 0 0,.slice none 0 0,.slice none 0 0] 43));have HS:=zh (MKS.out _ HE.out);go_simp;obtain⟨w9,hw9⟩:∃q,q=w5.alloc (.cells #[.int .i64 0,.int .i64 0,.int .i64 0,.int .u32 0,.string ⟨#[]⟩,.slice none 0 0,.slice none 0 0,.int .i64 0,.int .i64 0,.slice none 0 0,.slice none 0 0,.slice none 0 0,.slice none 0 0,.slice none 0 0,.slice none 0 0] 43):=⟨_,rfl⟩;rw[←hw9]at HB HE HS ⊢;rw[←hw9]at HO;rw[←hgg]at HB ⊢;clear hw9 hgg;refine hK.out _ _ HS.out fun _=>?_;clear hK K
      (try simp only[Act.put,zzA,zzB,zzC])
      refine zqO (i:=12) (by kernel_rfl) rfl fun K hK=>?_;have z0:=HB.out.frozen 0;have z1:=HB.out.frozen 1;have z2:=HB.out.frozen 2;have z3:=HB.out.frozen 3;have z4:=HB.out.frozen 4;have z5:=HB.out.frozen 5;have z6:=HB.out.frozen 6;have z7:=HB.out.frozen 7;have z8:=HB.out.frozen 8;have z9:=HB.out.frozen 9;have z10:=HB.out.frozen 10;have z11:=HB.out.frozen 11;have z12:=HB.out.frozen 12;have z13:=HB.out.frozen 13;have z14:=HB.out.frozen 14;have y0:=HB.out.cell 0;have y1:=HB.out.cell 1;have y2:=HB.out.cell 2;have y3:=HB.out.cell 3;have y4:=HB.out.cell 4;have y5:=HB.out.cell 5;have y6:=HB.out.cell 6;have y7:=HB.out.cell 7;have y8:=HB.out.cell 8;have y9:=HB.out.cell 9;have y10:=HB.out.cell 10;have y11:=HB.out.cell 11;have y12:=HB.out.cell 12;have y13:=HB.out.cell 13;have y14:=HB.out.cell 14;simp only[zzD,zzE,zzF]at y0 y1 y2 y3 y4 y5 y6 y7 y8 y9 y10 y11 y12 y13 y14;obtain⟨w8,hw8,hb8,hg8⟩:=set15 HB.out (.int .i64 xw) (.int .i64 xh) (.int .i64 xp) (.int .u32 (xs:Int)) (.string xt) (.slice A q1 c) (.slice A7 n7 c7) (.int .i64 N) (.int .i64 KI) (.slice D0 m0 d0) (.slice D1 m1 d1) (.slice D2 m2 d2) (.slice D3 m3 d3) (.slice D4 m4 d4) (.slice none 0 0);have HB8:=zh hb8;have HG8:=zh hg8;replace hw8:=zh hw8;clear hb8 hg8;go_simp;rw[←hw8.out];clear hw8 z0 y0 z1 y1 z2 y2 z3 y3 z4 y4 z5 y5 z6 y6 z7 y7 z8 y8 z9 y9 z10 y10 z11 y11 z12 y12 z13 y13 z14 y14;replace HE:=zh (ext_grown HE.out HG8.out (fun q e=>by cases e;exact HGL.out));have HS:=zh (MKS.out _ HE.out);replace HO:=zh (zw24 HO.out HG8.out (by cases hq:(Value.slice A7 n7 c7).ownBlock with | none=>exact .inl rfl | some q=>exact .inr (fun e=>HOF7.out q hq (zw13 e))))
      refine hK.out _ _ HS.out fun _=>?_;clear hK K
      (try simp only[Act.put,zzA,zzB,zzC])
      refine zw39 (by kernel_rfl) ?_ _;go_wp2_with fail;go_meet;exact⟨_,_,_,_,rfl,HB8.out,HO.out,HOF7.out,zxt HDD.out HE.out,zw10 HDD.out.size HGL.out,HB8.out.lt⟩
    · have HB:=zh (Blk.new wd 43 #[.int .i64 0,.int .i64 0,.int .i64 0,.int .u32 0,.string ⟨#[]⟩,.slice none 0 0,.slice none 0 0,.int .i64 0,.int .i64 0,.slice none 0 0,.slice none 0 0,.slice none 0 0,.slice none 0 0,.slice none 0 0,.slice none 0 0])
      obtain⟨gg,hgg⟩:∃q,q=wd.heap.size:=⟨_,rfl⟩;have HGL:Hid (wd.heap.size≤gg):=zh (by rw[hgg];exact HE.out.size);replace HE:=zh (zxa HE.out (.cells #[.int .i64 0,.int .i64 0,.int .i64 0,.int .u32 0,.string ⟨#[]⟩,.slice none 0 0,.slice none 0 0,.int .i64 0,.int .i64 0,.slice none 0 0,.slice none 0 0,.slice none 0 0,.slice none 0 0,.slice none 0 0,.slice none 0 0] 43));have HS:=zh (MKS.out _ HE.out);go_simp;obtain⟨w9,hw9⟩:∃q,q=wd.alloc (.cells #[.int .i64 0,.int .i64 0,.int .i64 0,.int .u32 0,.string ⟨#[]⟩,.slice none 0 0,.slice none 0 0,.int .i64 0,.int .i64 0,.slice none 0 0,.slice none 0 0,.slice none 0 0,.slice none 0 0,.slice none 0 0,.slice none 0 0] 43):=⟨_,rfl⟩;rw[←hw9]at HB HE HS ⊢;rw[←hgg]at HB ⊢;clear hw9 hgg;refine hK.out _ _ HS.out fun _=>?_;clear hK K
      (try simp only[Act.put,zzA,zzB,zzC])
      refine zqO (i:=4) (by kernel_rfl) rfl fun K hK=>?_;go_simp;refine(HLG.out _ (zxt HEW.out HE.out)).mono ?_;rintro e w5 ⟨lv,rfl,hO,hE⟩;obtain⟨A7,n7,c7,hlv⟩:∃A1 n1 c1,lv= .slice A1 n1 c1:=by obtain⟨a1,a2,e,_⟩:=hO.shape;exact⟨a1,_,a2,e⟩
      subst hlv;have HOF7:Hid (∀q,(Value.slice A7 n7 c7).ownBlock=some q→q≠gg):=zh (fun q h e=>by have:=(zw23 hO q h).1;have:=HB.out.lt;omega);replace HB:=zh (HB.out.ext hE);have HO:=zh (OwnR_mono' hO (zw10 HDD.out.size HE.out.size));replace HE:=zh (zxt HE.out hE);clear hO hE;have HS:=zh (MKS.out _ HE.out)
      (try go_wp2_with fail)
      refine hK.out _ _ HS.out fun _=>?_;clear hK K
      (try simp only[Act.put,zzA,zzB,zzC])
      (refine zqT (v:=?_) HS.out rfl ?_ ?_);rotate_left
      · intro w' hSw;obtain⟨s0,s1,s2,s3,s4,s5,s6,s7,s8,s9,s10,s11,s12,s13⟩:=hSw;go_simp;try rfl
      (try simp only[Act.put,zzA,zzB,zzC])
      refine zqO (i:=12) (by kernel_rfl) rfl fun K hK=>?_;have z0:=HB.out.frozen 0;have z1:=HB.out.frozen 1;have z2:=HB.out.frozen 2;have z3:=HB.out.frozen 3;have z4:=HB.out.frozen 4;have z5:=HB.out.frozen 5;have z6:=HB.out.frozen 6;have z7:=HB.out.frozen 7;have z8:=HB.out.frozen 8;have z9:=HB.out.frozen 9;have z10:=HB.out.frozen 10;have z11:=HB.out.frozen 11;have z12:=HB.out.frozen 12;have z13:=HB.out.frozen 13;have z14:=HB.out.frozen 14;have y0:=HB.out.cell 0;have y1:=HB.out.cell 1;have y2:=HB.out.cell 2;have y3:=HB.out.cell 3;have y4:=HB.out.cell 4;have y5:=HB.out.cell 5;have y6:=HB.out.cell 6;have y7:=HB.out.cell 7;have y8:=HB.out.cell 8;have y9:=HB.out.cell 9;have y10:=HB.out.cell 10;have y11:=HB.out.cell 11;have y12:=HB.out.cell 12;have y13:=HB.out.cell 13;have y14:=HB.out.cell 14;simp only[zzD,zzE,zzF]at y0 y1 y2 y3 y4 y5 y6 y7 y8 y9 y10 y11 y12 y13 y14;obtain⟨w8,hw8,hb8,hg8⟩:=set15 HB.out (.int .i64 xw) (.int .i64 xh) (.int .i64 xp) (.int .u32 (xs:Int)) (.string xt) (.slice A q1 c) (.slice A7 n7 c7) (.int .i64 N) (.int .i64 KI) (.slice D0 m0 d0) (.slice D1 m1 d1) (.slice D2 m2 d2) (.slice D3 m3 d3) (.slice D4 m4 d4) (.slice none 0 0);have HB8:=zh hb8;have HG8:=zh hg8;replace hw8:=zh hw8;clear hb8 hg8;go_simp;rw[←hw8.out];clear hw8 z0 y0 z1 y1 z2 y2 z3 y3 z4 y4 z5 y5 z6 y6 z7 y7 z8 y8 z9 y9 z10 y10 z11 y11 z12 y12 z13 y13 z14 y14;replace HE:=zh (ext_grown HE.out HG8.out (fun q e=>by cases e;exact HGL.out));have HS:=zh (MKS.out _ HE.out);replace HO:=zh (zw24 HO.out HG8.out (by cases hq:(Value.slice A7 n7 c7).ownBlock with | none=>exact .inl rfl | some q=>exact .inr (fun e=>HOF7.out q hq (zw13 e))))
      refine hK.out _ _ HS.out fun _=>?_;clear hK K
      (try simp only[Act.put,zzA,zzB,zzC])
      refine zw39 (by kernel_rfl) ?_ _;go_wp2_with fail;go_meet;exact⟨_,_,_,_,rfl,HB8.out,HO.out,HOF7.out,zxt HDD.out HE.out,zw10 HDD.out.size HGL.out,HB8.out.lt⟩
  case rest=>
    obtain⟨g,A7,n7,c7,rfl,hb,hO,hof,hE,hgl,hgs⟩:=hcut;have HB:=zh hb;have HO:=zh hO;have HOF7:=zh hof;have HE:=zh hE;have HGL:=zh hgl;have HGS:=zh hgs;clear hb hO hof hE hgl hgs;have HREL:Hid (∃fv,FsW wc wc g (fun v=>cPa ⟨xw,xh,xp,xs,xt,us⟩ (.slice A q1 c) (.slice A7 n7 c7) N KI ⟨⟨D0,m0,d0⟩,⟨D1,m1,d1⟩,⟨D2,m2,d2⟩,⟨D3,m3,d3⟩,⟨D4,m4,d4⟩⟩ v) ts 0 fv):=zh ⟨.slice none 0 0,[],HB.out,OwnR.nil _ _ _ _ _,rfl,⟨rfl,rfl,rfl,zw8 _,fun _ _ _=>rfl⟩,HGS.out,fun j h=>absurd h (by simp)⟩;go_wp2_with fail
    go_loopg [7] m (fun gh iv wr=>∃(i:Nat) (fv:Value),i+gh=m∧iv= .int .i64 (i:Int)∧FsW wc wr g (fun v=>cPa ⟨xw,xh,xp,xs,xt,us⟩ (.slice A q1 c) (.slice A7 n7 c7) N KI ⟨⟨D0,m0,d0⟩,⟨D1,m1,d1⟩,⟨D2,m2,d2⟩,⟨D3,m3,d3⟩,⟨D4,m4,d4⟩⟩ v) ts i fv)
    case atStart=>
      obtain⟨fv,hfv⟩:=HREL.out;exact⟨0,fv,by omega,rfl,hfv⟩
    case round=>
      obtain⟨i,fv,hi,rfl,hx⟩:=hrel;obtain⟨wi,rfl⟩:∃wi:World,wi=wr:=⟨_,rfl⟩;obtain⟨gh,rfl⟩:∃gh:Nat,gh=gk:=⟨_,rfl⟩;have HX:=zh hx;clear hx HREL;have HEI:Hid (Ext wB wi):=zh (by obtain⟨_,_,_,_,h4,_⟩:=HX.out;exact ext_grown HE.out h4 (fun q e=>by cases e;exact HGL.out));have y1:(0:Int)≤(i:Int):=by omega
      have d14:=(HHB.out.ext HEI.out).cell 14;simp only[zzD,zzE,zzF]at d14;by_cases hlt:i<m
      · have y2:(i:Int)<(m:Int):=by omega
        have hil:i<ts.length:=by rw[hm.out];exact hlt
        obtain⟨bs,os,hAf,hbw,hcell⟩:=HP.out.2.2.2.2 (by show 0<ts.length;omega);simp only at hAf;subst hAf;have hst:=kc (zxt HEB.out HEI.out) (hcell i hil 0 (by omega));have hstB:=kc HEB.out (hcell i hil 0 (by omega));have HTS0:=zh (HSZ.out _ (zw25 hil));have HTI0:Hid (ts.getD i ⟨#[]⟩=ts[i]):=zh (by rw[zw5,zw6 hil];rfl);generalize ts[i]=T at hst hstB HTS0 HTI0;simp only[cT,List.getElem?_cons_zero,Nat.mul_one,Nat.add_zero]at hst hstB;have HTS:=HTS0;have HTI:=HTI0;clear hcell HTS0 HTI0;have HSS:Hid (∀W,wc.grownBy W (some g)→W.cell? ⟨hb,14,none⟩=some (.slice (some ⟨bs,os,none⟩) m cf)∧W.cell? ⟨bs,os+i,none⟩=some (.string T)):=zh (fun W hG=>by
          have hEW:Ext wB W:=ext_grown HE.out hG (fun q e=>by cases e;exact HGL.out);have h1:=HHB.out.cell 14;have h2:=(hEW.cell (p:=⟨hb,14,none⟩) HHB.out.lt).trans h1;exact⟨h2,(hEW.cell (p:=⟨bs,os+i,none⟩) (zw9 hbw HEB.out.size)).trans hstB⟩)
        go_upto_region 6 with fail;have HFS:=zh (HX.out.ext (zxd (zxr wi)));clear d14 hst;generalize hwd:wi.drew=wd at HFS;have HOB:Hid (wc.heap.size≤wd.heap.size∧∀q,fv.ownBlock=some q→q<wd.heap.size):=zh ⟨HFS.out.gb.size,HFS.out.ob⟩;have HS:=zh (HSS.out _ HFS.out.gb);refine zw38 (S:=fun W=>W.cell? ⟨hb,14,none⟩=some (.slice (some ⟨bs,os,none⟩) m cf)∧W.cell? ⟨bs,os+i,none⟩=some (.string T)) hmxF (by rw[hwd];exact HS.out) (fun _=>?_);rw[hwd]
        (refine zqK (i:=0) (v:=?_) rfl (Or.inl ⟨by rfl,?_⟩) HS.out ?_);rotate_left
        · (intro w' hSw;obtain⟨s0,s1⟩:=hSw;go_simp;try rfl)
        (try simp only[Act.put,zzA,zzB,zzC])
        (refine zqK (i:=2) (v:=?_) rfl (Or.inl ⟨by rfl,?_⟩) HS.out ?_);rotate_left
        · (intro w' hSw;obtain⟨s0,s1⟩:=hSw;go_simp;try rfl)
        (try simp only[Act.put,zzA,zzB,zzC])
        (refine zqK (i:=3) (v:=?_) rfl (Or.inl ⟨by rfl,?_⟩) HS.out ?_);rotate_left
        · (intro w' hSw;obtain⟨s0,s1⟩:=hSw;go_simp;try rfl)
        (try simp only[Act.put,zzA,zzB,zzC])
        (refine zqK (i:=4) (v:=?_) rfl (Or.inl ⟨by rfl,?_⟩) HS.out ?_);rotate_left
        · (intro w' hSw;obtain⟨s0,s1⟩:=hSw;go_simp;try rfl)
        (try simp only[Act.put,zzA,zzB,zzC])
        (refine zqK (i:=5) (v:=?_) rfl (Or.inl ⟨by rfl,?_⟩) HS.out ?_);rotate_left
        · (intro w' hSw;obtain⟨s0,s1⟩:=hSw;go_simp;try rfl)
        (try simp only[Act.put,zzA,zzB,zzC])
        (refine zqK (i:=6) (v:=?_) rfl (Or.inl ⟨by rfl,?_⟩) HS.out ?_);rotate_left
        · (intro w' hSw;obtain⟨s0,s1⟩:=hSw;go_simp;try rfl)
        (try simp only[Act.put,zzA,zzB,zzC])
        refine zw41 (rs:=[1,7]) (by kernel_rfl) (by simp) ?_;refine zqC rfl (fun K hK=>?_) (zqC rfl (fun K hK=>?_) zw42)
        · have c14:=HFS.out.c14 rfl
          go_simp;clear c14;refine hK.out _ _ HS.out fun _=>?_;clear hK K
          (try simp only[Act.put,zzA,zzB,zzC])
          refine zqO (i:=7) (by kernel_rfl) rfl fun K hK=>?_;obtain⟨c9,w9,hcv,hc1,hc2,hB9,hE9⟩:=Com.conv_text wd T HTS.out;have HSB:Hid (BsV w9 ⟨some ⟨wd.heap.size,0,none⟩,T.size,c9⟩ (natsOf T)):=zh ⟨hB9,hc1,hc2,fun e=>by cases e⟩;have HE9:=zh hE9;replace HFS:=zh (HFS.out.ext hE9);have HS:=zh (HSS.out _ HFS.out.gb);go_simp;clear hcv hc1 hc2 hB9 hE9;refine hK.out _ _ HS.out fun _=>?_;clear hK K
          (try simp only[Act.put,zzA,zzB,zzC])
          refine zqO (i:=8) (by kernel_rfl) rfl fun K hK=>?_;have HSRC:=zh (src_rec (P:=Tryz.prog) (e':=48) Tryz.underlying41 w9 (cF ⟨some ⟨wd.heap.size,0,none⟩,T.size,c9⟩) rfl (by intro u hu;simp[cF]at hu;subst hu;rfl) 1);have hea:=zxa (zxr w9) (.cells (cF ⟨some ⟨wd.heap.size,0,none⟩,T.size,c9⟩).toArray 48);replace HFS:=zh (HFS.out.ext hea);replace HSB:=zh (HSB.out.ext hea);have HSZ9:Hid (wd.heap.size<(w9.alloc (.cells (cF ⟨some ⟨wd.heap.size,0,none⟩,T.size,c9⟩).toArray 48)).heap.size):=zh (by rw[zw22];have:=HE9.out.size;omega);clear hea;have HS:=zh (HSS.out _ HFS.out.gb);simp only[cF]at HSRC HFS HSB HSZ9 HS;go_simp;obtain⟨w8,hw8⟩:∃q,q=w9.alloc (.cells [Value.slice (some ⟨wd.heap.size,0,none⟩) T.size c9].toArray 48):=⟨_,rfl⟩;rw[←hw8]at HSRC HFS HSB HSZ9 HS;skip
          try rw[←hw8]
          clear hw8;skip;refine hK.out _ _ HS.out fun _=>?_;clear hK K
          (try simp only[Act.put,zzA,zzB,zzC])
          refine zqO (i:=9) (by kernel_rfl) rfl fun K hK=>?_;obtain⟨f9,wq,hrun,hbq,⟨A9,n9,c9',hf9⟩,hgq,hst⟩:=HFS.out.push ⟨some ⟨wd.heap.size,0,none⟩,T.size,c9⟩ (by rw[HTI.out];exact HSB.out) (fun a e=>by cases e;exact⟨HOB.out.1,HSZ9.out,fun q=>by have:=HOB.out.2 _ q;exact absurd this (Nat.lt_irrefl _)⟩) HSRC.out (by omega) (fun _=>rfl);subst hf9;have HRUN:=zh hrun;have HBQ:=zh hbq;have HST:=zh hst;have HS:=zh (HSS.out _ hgq);clear hrun hbq hst hgq;refine wanted_append (by rfl) (.tmp 33) (.tmp 40) 41 41 (by rfl) _ _ (by rfl) (by rfl) HRUN.out ?_;refine hK.out _ _ HS.out fun _=>?_;clear hK K
          (try simp only[Act.put,zzA,zzB,zzC])
          (refine zqK (i:=10) (v:=?_) rfl (Or.inl ⟨by rfl,?_⟩) HS.out ?_);rotate_left
          · (intro w' hSw;obtain⟨s0,s1⟩:=hSw;go_simp;try rfl)
          (try simp only[Act.put,zzA,zzB,zzC])
          refine zqO (i:=11) (by kernel_rfl) rfl fun K hK=>?_;have y14:=HBQ.out.cell 14;have z14:=HBQ.out.frozen 14;simp only[cPa,zzD,zzE,zzF]at y14;go_simp;clear y14 z14;have HS:=zh (HSS.out _ HST.out.gb);refine hK.out _ _ HS.out fun _=>?_;clear hK K
          (try simp only[Act.put,zzA,zzB,zzC])
          refine zw39 (by kernel_rfl) ?_ _;go_wp2_with fail
          go_roundg (gh-1)
          case measure=>omega
          case rel=>exact⟨i+1,_,by omega,by go_num,HST.out⟩
        · obtain⟨c9,w9,hcv,hc1,hc2,hB9,hE9⟩:=Com.conv_text wd T HTS.out
          have HSB:Hid (BsV w9 ⟨some ⟨wd.heap.size,0,none⟩,T.size,c9⟩ (natsOf T)):=zh ⟨hB9,hc1,hc2,fun e=>by cases e⟩;have HE9:=zh hE9;replace HFS:=zh (HFS.out.ext hE9);have HS:=zh (HSS.out _ HFS.out.gb);go_simp;clear hcv hc1 hc2 hB9 hE9;refine hK.out _ _ HS.out fun _=>?_;clear hK K
          (try simp only[Act.put,zzA,zzB,zzC])
          refine zw41 (rs:=[1,8]) (by kernel_rfl) (by simp) ?_;refine zqC rfl (fun K hK=>?_) (zqC rfl (fun K hK=>?_) zw42)
          · have c14:=HFS.out.c14 rfl
            go_simp;clear c14;refine hK.out _ _ HS.out fun _=>?_;clear hK K
            (try simp only[Act.put,zzA,zzB,zzC])
            refine zqO (i:=8) (by kernel_rfl) rfl fun K hK=>?_;have HSRC:=zh (src_rec (P:=Tryz.prog) (e':=48) Tryz.underlying41 w9 (cF ⟨some ⟨wd.heap.size,0,none⟩,T.size,c9⟩) rfl (by intro u hu;simp[cF]at hu;subst hu;rfl) 1);have hea:=zxa (zxr w9) (.cells (cF ⟨some ⟨wd.heap.size,0,none⟩,T.size,c9⟩).toArray 48);replace HFS:=zh (HFS.out.ext hea);replace HSB:=zh (HSB.out.ext hea);have HSZ9:Hid (wd.heap.size<(w9.alloc (.cells (cF ⟨some ⟨wd.heap.size,0,none⟩,T.size,c9⟩).toArray 48)).heap.size):=zh (by rw[zw22];have:=HE9.out.size;omega);clear hea;have HS:=zh (HSS.out _ HFS.out.gb);simp only[cF]at HSRC HFS HSB HSZ9 HS;go_simp;obtain⟨w8,hw8⟩:∃q,q=w9.alloc (.cells [Value.slice (some ⟨wd.heap.size,0,none⟩) T.size c9].toArray 48):=⟨_,rfl⟩;rw[←hw8]at HSRC HFS HSB HSZ9 HS;skip
            try rw[←hw8]
            clear hw8;skip;refine hK.out _ _ HS.out fun _=>?_;clear hK K
            (try simp only[Act.put,zzA,zzB,zzC])
            refine zqO (i:=9) (by kernel_rfl) rfl fun K hK=>?_;obtain⟨f9,wq,hrun,hbq,⟨A9,n9,c9',hf9⟩,hgq,hst⟩:=HFS.out.push ⟨some ⟨wd.heap.size,0,none⟩,T.size,c9⟩ (by rw[HTI.out];exact HSB.out) (fun a e=>by cases e;exact⟨HOB.out.1,HSZ9.out,fun q=>by have:=HOB.out.2 _ q;exact absurd this (Nat.lt_irrefl _)⟩) HSRC.out (by omega) (fun _=>rfl);subst hf9;have HRUN:=zh hrun;have HBQ:=zh hbq;have HST:=zh hst;have HS:=zh (HSS.out _ hgq);clear hrun hbq hst hgq;refine wanted_append (by rfl) (.tmp 33) (.tmp 40) 41 41 (by rfl) _ _ (by rfl) (by rfl) HRUN.out ?_;refine hK.out _ _ HS.out fun _=>?_;clear hK K
            (try simp only[Act.put,zzA,zzB,zzC])
            (refine zqK (i:=10) (v:=?_) rfl (Or.inl ⟨by rfl,?_⟩) HS.out ?_);rotate_left
            · (intro w' hSw;obtain⟨s0,s1⟩:=hSw;go_simp;try rfl)
            (try simp only[Act.put,zzA,zzB,zzC])
            refine zqO (i:=11) (by kernel_rfl) rfl fun K hK=>?_;have y14:=HBQ.out.cell 14;have z14:=HBQ.out.frozen 14;simp only[cPa,zzD,zzE,zzF]at y14;go_simp;clear y14 z14;have HS:=zh (HSS.out _ HST.out.gb);refine hK.out _ _ HS.out fun _=>?_;clear hK K
            (try simp only[Act.put,zzA,zzB,zzC])
            refine zw39 (by kernel_rfl) ?_ _;go_wp2_with fail
            go_roundg (gh-1)
            case measure=>omega
            case rel=>exact⟨i+1,_,by omega,by go_num,HST.out⟩
          · have HSRC:=zh (src_rec (P:=Tryz.prog) (e':=48) Tryz.underlying41 w9 (cF ⟨some ⟨wd.heap.size,0,none⟩,T.size,c9⟩) rfl (by intro u hu;simp[cF]at hu;subst hu;rfl) 1)
            have hea:=zxa (zxr w9) (.cells (cF ⟨some ⟨wd.heap.size,0,none⟩,T.size,c9⟩).toArray 48);replace HFS:=zh (HFS.out.ext hea);replace HSB:=zh (HSB.out.ext hea);have HSZ9:Hid (wd.heap.size<(w9.alloc (.cells (cF ⟨some ⟨wd.heap.size,0,none⟩,T.size,c9⟩).toArray 48)).heap.size):=zh (by rw[zw22];have:=HE9.out.size;omega);clear hea;have HS:=zh (HSS.out _ HFS.out.gb);simp only[cF]at HSRC HFS HSB HSZ9 HS;go_simp;obtain⟨w8,hw8⟩:∃q,q=w9.alloc (.cells [Value.slice (some ⟨wd.heap.size,0,none⟩) T.size c9].toArray 48):=⟨_,rfl⟩;rw[←hw8]at HSRC HFS HSB HSZ9 HS;skip
            try rw[←hw8]
            clear hw8;skip;refine hK.out _ _ HS.out fun _=>?_;clear hK K
            (try simp only[Act.put,zzA,zzB,zzC])
            refine zqO (i:=1) (by kernel_rfl) rfl fun K hK=>?_;have c14:=HFS.out.c14 rfl;go_simp;clear c14;refine hK.out _ _ HS.out fun _=>?_;clear hK K
            (try simp only[Act.put,zzA,zzB,zzC])
            refine zqO (i:=9) (by kernel_rfl) rfl fun K hK=>?_;obtain⟨f9,wq,hrun,hbq,⟨A9,n9,c9',hf9⟩,hgq,hst⟩:=HFS.out.push ⟨some ⟨wd.heap.size,0,none⟩,T.size,c9⟩ (by rw[HTI.out];exact HSB.out) (fun a e=>by cases e;exact⟨HOB.out.1,HSZ9.out,fun q=>by have:=HOB.out.2 _ q;exact absurd this (Nat.lt_irrefl _)⟩) HSRC.out (by omega) (fun _=>rfl);subst hf9;have HRUN:=zh hrun;have HBQ:=zh hbq;have HST:=zh hst;have HS:=zh (HSS.out _ hgq);clear hrun hbq hst hgq;refine wanted_append (by rfl) (.tmp 33) (.tmp 40) 41 41 (by rfl) _ _ (by rfl) (by rfl) HRUN.out ?_;refine hK.out _ _ HS.out fun _=>?_;clear hK K
            (try simp only[Act.put,zzA,zzB,zzC])
            (refine zqK (i:=10) (v:=?_) rfl (Or.inl ⟨by rfl,?_⟩) HS.out ?_);rotate_left
            · (intro w' hSw;obtain⟨s0,s1⟩:=hSw;go_simp;try rfl)
            (try simp only[Act.put,zzA,zzB,zzC])
            refine zqO (i:=11) (by kernel_rfl) rfl fun K hK=>?_;have y14:=HBQ.out.cell 14;have z14:=HBQ.out.frozen 14;simp only[cPa,zzD,zzE,zzF]at y14;go_simp;clear y14 z14;have HS:=zh (HSS.out _ HST.out.gb);refine hK.out _ _ HS.out fun _=>?_;clear hK K
            (try simp only[Act.put,zzA,zzB,zzC])
            refine zw39 (by kernel_rfl) ?_ _;go_wp2_with fail
            go_roundg (gh-1)
            case measure=>omega
            case rel=>exact⟨i+1,_,by omega,by go_num,HST.out⟩
      · obtain rfl:gh=0:=by omega
        obtain rfl:i=m:=by omega
        have y2:¬(i:Int)<(i:Int):=by omega
        have HEI8:=zh (zxt HEB.out HEI.out);obtain⟨ss,g1,g2,g3,g4,g5,g6⟩:=HX.out;obtain⟨A8,c8,hfv,_⟩:=g2.shape;have HG1:=zh g1;have HG2:=zh g2;have HG4:=zh g4;have HG6:=zh g6;have HG3:=zh g3;obtain⟨n8,hn8⟩:∃q,ss.length=q:=⟨_,rfl⟩;rw[hn8]at hfv;subst hfv;replace hn8:=zh hn8;have HRW:=zh (HRB.out.ext HEI.out);clear g1 g2 g3 g4 g5 g6;have y0:=HG1.out.cell 0;have y1:=HG1.out.cell 1;have y2:=HG1.out.cell 2;have y3:=HG1.out.cell 3;have y4:=HG1.out.cell 4;have y5:=HG1.out.cell 5;have y6:=HG1.out.cell 6;have y7:=HG1.out.cell 7;have y8:=HG1.out.cell 8;have y9:=HG1.out.cell 9;have y10:=HG1.out.cell 10;have y11:=HG1.out.cell 11;have y12:=HG1.out.cell 12;have y13:=HG1.out.cell 13;have y14:=HG1.out.cell 14;simp only[cPa,zzD,zzE,zzF]at y0 y1 y2 y3 y4 y5 y6 y7 y8 y9 y10 y11 y12 y13 y14;have r0:=HRW.out.cell 0;have z0:=HRW.out.frozen 0;have r1:=HRW.out.cell 1;have z1:=HRW.out.frozen 1;have r2:=HRW.out.cell 2;have z2:=HRW.out.frozen 2;have r3:=HRW.out.cell 3;have z3:=HRW.out.frozen 3;have r4:=HRW.out.cell 4;have z4:=HRW.out.frozen 4;have r5:=HRW.out.cell 5;have z5:=HRW.out.frozen 5;have r6:=HRW.out.cell 6;have z6:=HRW.out.frozen 6;have r7:=HRW.out.cell 7;have z7:=HRW.out.frozen 7;have r8:=HRW.out.cell 8;have z8:=HRW.out.frozen 8;have r9:=HRW.out.cell 9;have z9:=HRW.out.frozen 9;have r10:=HRW.out.cell 10;have z10:=HRW.out.frozen 10;have r11:=HRW.out.cell 11;have z11:=HRW.out.frozen 11;have r12:=HRW.out.cell 12;have z12:=HRW.out.frozen 12;have r13:=HRW.out.cell 13;have z13:=HRW.out.frozen 13;have r14:=HRW.out.cell 14;have z14:=HRW.out.frozen 14
        simp only[zzD,zzE,zzF]at r0 r1 r2 r3 r4 r5 r6 r7 r8 r9 r10 r11 r12 r13 r14;obtain⟨w8,hw8,hb8,hg8⟩:=set15 HRW.out (.int .i64 xw) (.int .i64 xh) (.int .i64 xp) (.int .u32 (xs:Int)) (.string xt) (.slice A q1 c) (.slice A7 n7 c7) (.int .i64 N) (.int .i64 KI) (.slice D0 m0 d0) (.slice D1 m1 d1) (.slice D2 m2 d2) (.slice D3 m3 d3) (.slice D4 m4 d4) (.slice A8 n8 c8);have HB8:=zh hb8;have HG8:=zh hg8;replace hw8:=zh hw8;clear hb8 hg8;go_wp2_with fail;rw[←hw8.out];clear hw8 y0 r0 z0 y1 r1 z1 y2 r2 z2 y3 r3 z3 y4 r4 z4 y5 r5 z5 y6 r6 z6 y7 r7 z7 y8 r8 z8 y9 r9 z9 y10 r10 z10 y11 r11 z11 y12 r12 z12 y13 r13 z13 y14 r14 z14
        try clear d14
        try clear y2
        obtain⟨a9,c9,e9,_⟩:=HO.out.shape;obtain⟨_,e10,_⟩:=Value.slice.inj e9;subst e10;have hq:=hq1.out;subst hq;have h8:n8=(ts.map natsOf).length:=by rw[zw4,hm.out,←hn8.out,HG3.out]
        subst h8;have hb8:=HB8.out;refine bodyPost_ret (v:= .tuple #[.agg (Pv.cells ⟨A,c,A7,c7,⟨⟨D0,m0,d0⟩,⟨D1,m1,d1⟩,⟨D2,m2,d2⟩,⟨D3,m3,d3⟩,⟨D4,m4,d4⟩⟩,A8,c8⟩ ⟨⟨xw,xh,xp,xs,xt,us⟩,evs,N,KI,tr,ts.map natsOf⟩),.bool ib]) (Log.results_cell2 Tryz.results6 _ _ (hb+1) 43 _ (0,0) _ rfl hb8 _ rfl Tryz.underlying43 rfl (by kernel_rfl)) rfl ?_;have hE8:Ext w w8:=ext_grown HEI8.out HG8.out (fun q e=>by cases e;have:=hhb.out;omega);have hrl:=HRB.out.lt;refine⟨hE8,_,ib,rfl,fun hib=>⟨⟨HP.out.1.ext hE8,?_,?_,?_⟩,(HTK.out hib).2.1⟩,HIB.out⟩
        · have hOi : OwnR wB.heap.size wi 104 7 cV (.slice A7 evs.length c7) evs := zw24 HO.out HG4.out (by
            cases hq:(Value.slice A7 evs.length c7).ownBlock with
            | none=>exact .inl rfl
            | some q=>exact .inr (fun e=>HOF7.out q hq (zw13 e)))
          have hO8:OwnR wB.heap.size w8 104 7 cV (.slice A7 evs.length c7) evs:=hOi.grown HG8.out hrl;exact OwnR.row Log.cV_len hO8
        · obtain⟨k1,k2,k3,k4⟩:=HTK.out hib
          have t1:=k1.ext HEI.out;have hne:∀a,(D0=some a∨D1=some a∨D2=some a∨D3=some a)→some a.block≠some (hb+1):=fun a ha e=>by have:=k3 a ha;have:=zw13 e;omega
          exact⟨⟨t1.1.1.grown HG8.out (fun a ha _=>hne a (.inl ha)),t1.1.2⟩,⟨t1.2.1.1.grown HG8.out (fun a ha _=>hne a (.inr (.inl ha))),t1.2.1.2⟩,⟨t1.2.2.1.1.grown HG8.out (fun a ha _=>hne a (.inr (.inr (.inl ha)))),t1.2.2.1.2⟩,⟨t1.2.2.2.1.1.grown HG8.out (fun a ha _=>hne a (.inr (.inr (.inr ha)))),t1.2.2.2.1.2⟩,⟨t1.2.2.2.2.1.grown HG8.out (fun a ha h0 e=>by have:=k4 a ha h0;have:=zw13 e;omega),t1.2.2.2.2.2⟩⟩
        · have hwc:hb+1<wc.heap.size:=zw9 hrl HE.out.size
          refine⟨ss,?_,rfl,fun j hj=>?_⟩
          · have:=OwnR.row cF_len (HG2.out.grown HG8.out hwc)
            exact this
          · have hjt:j<ts.length:=by rw[hm.out,←HG3.out];exact hj
            have e1:(ts.map natsOf).getD j []=natsOf (ts.getD j ⟨#[]⟩):=by
              rw[zw5,zw5,List.getElem?_map,zw6 hjt];rfl
            rw[e1];exact bsv_grown (HG6.out j hj).1 HG8.out (fun a ha e=>by have:=((HG6.out j hj).2 a ha).1;have:=zw13 e;omega)
end Go.Proofs.YtidnboeihkeljaaGreatDoor.Fil
