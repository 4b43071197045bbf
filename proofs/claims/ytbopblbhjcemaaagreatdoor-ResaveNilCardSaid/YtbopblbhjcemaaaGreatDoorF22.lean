
import Derived.Test.YtbopblbhjcemaaaGreatDoorFilD
import Derived.Test.YtbopblbhjcemaaaGreatDoorTrkG
import Derived.Test.YtbopblbhjcemaaaGreatDoorChkF
set_option maxHeartbeats 16000000
set_option maxRecDepth 100000
set_option linter.all false
open Go.ChangeShapes Go.WideShapes Go.ChangeAt Go.RowKit
namespace Go.Proofs.YtbopblbhjcemaaaGreatDoor.Fil
open Wire
open Rec
open Trk (Sl Tv Tk TkV mayT encT)
open Log (Hv Ev cH cS cV mayH putL encH)
def cF (s:Sl):List Value:=[.slice s.A s.n s.c]
def BsV (w:World) (s:Sl) (f:List Nat):Prop:=Bs w s.A s.n f∧s.n≤s.c∧s.c≤9223372036854775807∧(s.A=none→s.n=0∧s.c=0)
def FrV (w:World) (A:Option Addr) (m:Nat) (fs:List (List Nat)):Prop:=
 ∃ss:List Sl,RowR w A m 1 cF ss∧fs.length=m∧∀i (h:i<ss.length),BsV w ss[i] (fs.getD i [])
def cPa (x:Hv) (sv lv:Value) (N K:Int) (t:Tv) (fv:Value):Array Value:=
 #[.int .i64 x.w,.int .i64 x.h,.int .i64 x.players,.int .u32 (x.seed:Int),.string x.tiles,sv,lv,.int .i64 N,.int .i64 K,.slice t.s0.A t.s0.n t.s0.c,.slice t.s1.A t.s1.n t.s1.c,.slice t.s2.A t.s2.n t.s2.c,.slice t.s3.A t.s3.n t.s3.c,.slice t.sm.A t.sm.n t.sm.c,fv]
structure Rc where
 x:Hv
 evs:List Ev
 N:Int
 K:Int
 tr:Tk
 fs:List (List Nat)
def mayR (r:Rc):Prop:=mayH r.x∧(putL r.N r.evs).isSome=true∧mayT r.N r.tr=true∧1≤r.K∧r.K≤256∧(∀f∈r.fs,f.length≤131072)∧(r.fs.length:Int)=r.N+1
structure Low (r:Rc):Prop where
 tiles:r.x.tiles.size≤4200
 starts:r.x.starts.length≤200
 sfit:∀u∈r.x.starts,u.fits
 seed:r.x.seed<4294967296
 whi: -9223372036854775808≤r.x.w∧r.x.w≤9223372036854775807∧ -9223372036854775808≤r.x.h∧r.x.h≤9223372036854775807
 evs:r.evs.length≤200
 efit:∀e∈r.evs,e.fits
 N: -9223372036854775808≤r.N∧r.N≤9223372036854775807
 K: -9223372036854775808≤r.K∧r.K≤9223372036854775807
 frames:r.fs.length≤40
 frame:∀f∈r.fs,f.length≤500
 small:∀f∈r.fs,∀c∈f,c<256
structure Pv where
 A:Option Addr
 c:Nat
 Al:Option Addr
 cl:Nat
 t:Tv
 Af:Option Addr
 cf:Nat
def Pv.cells (p:Pv) (r:Rc):Array Value:=cPa r.x (.slice p.A r.x.starts.length p.c) (.slice p.Al r.evs.length p.cl) r.N r.K p.t (.slice p.Af r.fs.length p.cf)
def PaV (w:World) (p:Pv) (r:Rc):Prop:=RowR w p.A r.x.starts.length 3 cS r.x.starts∧RowR w p.Al r.evs.length 7 cV r.evs∧TkV w p.t r.tr∧FrV w p.Af r.fs.length r.fs
def allLow (fs:List (List Nat)) (i:Nat):Prop:=∀j,j<i→(fs.getD j []).length≤131072
open Log (Hv Ev cH cS cV mayH putL encH RSt nx va pN pI pF)
theorem must_ok (x:Int) (w:World):Calls Tryz.prog 27 #[.bool true,.int .i64 x] w fun e w'=>e= .returned (.tuple #[])∧w=w':=by
 go_enter Tryz.func27,Tryz.ntmps27;go_wp2_with fail
 go_end0
 exact⟨rfl,rfl⟩
theorem must_bad (x:Int) (w:World):Calls Tryz.prog 27 #[.bool false,.int .i64 x] w fun e w'=>e= .panicked [{v:= .iface 87 (.agg #[.int .i64 x]),recovered:=false}]∧w=w':=by
 go_enter Tryz.func27,Tryz.ntmps27;go_wp2_with fail;exact⟨rfl,rfl,rfl⟩
structure Kp (b D:Nat) (w w':World):Prop where
 os:w'.os=w.os
 tape:w'.tape=w.tape
 output:w'.output=w.output
 size:w.heap.size≤w'.heap.size
 block:∀g,g<w.heap.size→g<b∨D≤g→w'.heap[g]? =w.heap[g]?
section
variable {b D : Nat} {w w' w'' : World}
theorem Kp.rfl' (b D:Nat) (w:World):Kp b D w w:=⟨rfl,rfl,rfl,zw8 _,fun _ _ _=>rfl⟩
theorem Kp.trans (h:Kp b D w w') (k:Kp b D w' w''):Kp b D w w'':=⟨k.os.trans h.os,k.tape.trans h.tape,k.output.trans h.output,zw10 h.size k.size,fun g hg hq=>(k.block g (zw9 hg h.size) hq).trans (h.block g hg hq)⟩
theorem Kp.ext (h:Ext w w'):Kp b D w w':=⟨h.os,h.tape,h.output,h.size,fun g hg _=>h.block g hg⟩
theorem Kp.set {p:Addr} (h1:b≤p.block) (h2:p.block<D) (u:Value):Kp b D w (w.setCell p u):=
 ⟨rfl,rfl,rfl,by simp[World.setCell],fun g hg hq=>zw46 w p u g (by omega)⟩
theorem Kp.row {α:Type} {A:Option Addr} {n k:Nat} {f:α→List Value} {xs:List α} (h:Kp b D w w') (hr:RowR w A n k f xs) (ha:∀a,A=some a→D≤a.block):RowR w' A n k f xs:=by
 refine hr.keep h.size (fun a e hp=>?_);obtain⟨q,o,e1,hq,_⟩:=hr.2 hp;have:=ha a e;obtain rfl:=zw13 (e.symm.trans e1);exact h.block q hq (.inr this)
theorem Kp.bs {A:Option Addr} {n:Nat} {xs:List Nat} (h:Kp b D w w') (hr:Bs w A n xs) (ha:∀a,A=some a→D≤a.block):Bs w' A n xs:=by
 refine⟨hr.1,hr.2.1,fun hp=>?_⟩;obtain⟨q,o,e1,hq,hc⟩:=hr.2.2 hp;have:=ha _ e1;exact⟨q,o,e1,zw9 hq h.size,fun j hj=>(World.cell?_of_block (a:=⟨q,o+j,none⟩) (h.block q hq (.inr this))).trans (hc j hj)⟩
theorem Kp.tk {t:Tv} {x:Tk} (h:Kp b D w w') (ht:TkV w t x) (hn:∀a,(t.s0.A=some a∨t.s1.A=some a∨t.s2.A=some a∨t.s3.A=some a∨t.sm.A=some a)→D≤a.block):TkV w' t x:=
 ⟨⟨h.row ht.1.1 (fun a e=>hn a (.inl e)),ht.1.2⟩,⟨h.row ht.2.1.1 (fun a e=>hn a (.inr (.inl e))),ht.2.1.2⟩,⟨h.row ht.2.2.1.1 (fun a e=>hn a (.inr (.inr (.inl e)))),ht.2.2.1.2⟩,⟨h.row ht.2.2.2.1.1 (fun a e=>hn a (.inr (.inr (.inr (.inl e))))),ht.2.2.2.1.2⟩,⟨h.row ht.2.2.2.2.1 (fun a e=>hn a (.inr (.inr (.inr (.inr e))))),ht.2.2.2.2.2⟩⟩
end
theorem Kp.tab {b D:Nat} {w w':World} (h:Kp b D w w') (ht:Crc.Tab w) (hl:0<b):Crc.Tab w':=fun i hi=>
 (World.cell?_of_block (a:=⟨0,i,none⟩) (h.block _ ht.lt (.inl hl))).trans (ht i hi)
def cFl (bv:Value) (x:Hv) (sv lv:Value) (N K:Int) (t:Tv) (ta te:Int) (pv:Value) (ia:Int):Array Value:=
 #[bv,.int .i64 x.w,.int .i64 x.h,.int .i64 x.players,.int .u32 (x.seed:Int),.string x.tiles,sv,lv,.int .i64 N,.int .i64 K,.slice t.s0.A t.s0.n t.s0.c,.slice t.s1.A t.s1.n t.s1.c,.slice t.s2.A t.s2.n t.s2.c,.slice t.s3.A t.s3.n t.s3.c,.slice t.sm.A t.sm.n t.sm.c,.slice none 0 0,.int .i64 ta,.int .i64 te,pv,.int .i64 ia]
structure Ob5 where
 O:Nat
 F:Nat
 bo:Nat
 bf:Nat
 be:Nat
 q:Nat
 n:Nat
 c:Nat
structure OW (b D:Nat) (o:Ob5) (xs:List Nat) (w:World) (cs:Array Value) (at_:Nat):Prop where
 op:Blk w o.O 92 #[.pointer (some ⟨o.F,0,none⟩),.int .i64 (at_:Int)]
 fl:Blk w o.F 73 cs
 bo:Blk w o.bo 89 #[.pointer (some ⟨o.O,0,none⟩)]
 bf:Blk w o.bf 30 #[.pointer (some ⟨o.F,0,none⟩)]
 be:∃x:Int,Blk w o.be 23 #[.int .i64 x]
 tab:Crc.Tab w
 tlt:0<b
 bytes:Bs w (some ⟨o.q,0,none⟩) o.n xs
 cell:cs[0]? =some (.slice (some ⟨o.q,0,none⟩) o.n o.c)
 nc:o.n≤o.c∧o.c≤9223372036854775807∧12≤o.n∧o.n≤900000
 low:b≤o.O∧b≤o.F∧b≤o.bo∧b≤o.bf∧b≤o.be∧b≤o.q
 high:o.O<D∧o.F<D∧o.bo<D∧o.bf<D∧o.be<D∧o.q<D∧D≤w.heap.size
 apart:o.O≠o.F∧o.O≠o.bo∧o.O≠o.bf∧o.O≠o.be∧o.F≠o.bo∧o.F≠o.bf∧o.F≠o.be∧o.be≠o.bo∧o.be≠o.bf∧o.q≠o.O∧o.q≠o.F∧o.q≠o.be
section
variable {b D : Nat} {o : Ob5} {xs : List Nat} {w w' : World} {cs : Array Value} {at_ : Nat}
theorem OW.ext (h:OW b D o xs w cs at_) (e:Ext w w'):OW b D o xs w' cs at_:=
 ⟨h.op.ext e,h.fl.ext e,h.bo.ext e,h.bf.ext e,(by obtain⟨x,hx⟩:=h.be;exact⟨x,hx.ext e⟩),h.tab.ext e,h.tlt,h.bytes.ext e,h.cell,h.nc,h.low,⟨h.high.1,h.high.2.1,h.high.2.2.1,h.high.2.2.2.1,h.high.2.2.2.2.1,h.high.2.2.2.2.2.1,zw10 h.high.2.2.2.2.2.2 e.size⟩,h.apart⟩
theorem bs_far {A:Option Addr} {n:Nat} (h:Bs w A n xs) {p:Addr} (hp:∀a,A=some a→a.block≠p.block) (u:Value):Bs (w.setCell p u) A n xs:=by
 refine⟨h.1,h.2.1,fun hn=>?_⟩;obtain⟨q,o,e,hq,hc⟩:=h.2.2 hn;exact⟨q,o,e,by simpa [World.setCell]using hq,fun j hj=>(World.cell?_of_block (a:=⟨q,o+j,none⟩) (zw46 w p u q (hp _ e))).trans (hc j hj)⟩
theorem OW.move (h:OW b D o xs w cs at_) (a':Nat):OW b D o xs (w.setCell ⟨o.O,1,none⟩ (.int .i64 (a':Int))) cs a':=by
 obtain⟨r1,r2,r3,r4,r5,r6,r7,r8,r9,r10,r11,r12⟩:=h.apart;exact⟨h.op.set_ 1 _,h.fl.far (p:=⟨o.O,1,none⟩) (Ne.symm r1) _,h.bo.far (p:=⟨o.O,1,none⟩) (Ne.symm r2) _,h.bf.far (p:=⟨o.O,1,none⟩) (Ne.symm r3) _,(by obtain⟨x,hx⟩:=h.be;exact⟨x,hx.far (p:=⟨o.O,1,none⟩) (Ne.symm r4) _⟩),
  (Kp.set (p:=⟨o.O,1,none⟩) h.low.1 h.high.1 _).tab h.tab h.tlt,h.tlt,bs_far h.bytes (p:=⟨o.O,1,none⟩) (fun a e=>by cases e;exact r10) _,h.cell,h.nc,h.low,(by have:=h.high;simpa [World.setCell]using this),h.apart⟩
theorem OW.file (h:OW b D o xs w cs at_) (i:Nat) (hi:0<i) (u:Value) {cs':Array Value} (hc:cs.setIfInBounds i u=cs'):OW b D o xs (w.setCell ⟨o.F,i,none⟩ u) cs' at_:=by
 obtain⟨r1,r2,r3,r4,r5,r6,r7,r8,r9,r10,r11,r12⟩:=h.apart;subst hc;refine⟨h.op.far (p:=⟨o.F,i,none⟩) r1 _,h.fl.set_ i _,h.bo.far (p:=⟨o.F,i,none⟩) (Ne.symm r5) _,h.bf.far (p:=⟨o.F,i,none⟩) (Ne.symm r6) _,(by obtain⟨x,hx⟩:=h.be;exact⟨x,hx.far (p:=⟨o.F,i,none⟩) (Ne.symm r7) _⟩),
  (Kp.set (p:=⟨o.F,i,none⟩) h.low.2.1 h.high.2.1 _).tab h.tab h.tlt,h.tlt,bs_far h.bytes (p:=⟨o.F,i,none⟩) (fun a e=>by cases e;exact r11) _,?_,h.nc,h.low,(by have:=h.high;simpa [World.setCell]using this),h.apart⟩
 rw[Array.getElem?_setIfInBounds,if_neg (by omega)];exact h.cell
theorem OW.err (h:OW b D o xs w cs at_) (x:Int):OW b D o xs (w.setCell ⟨o.be,0,none⟩ (.int .i64 x)) cs at_∧Blk (w.setCell ⟨o.be,0,none⟩ (.int .i64 x)) o.be 23 #[.int .i64 x]:=by
 obtain⟨r1,r2,r3,r4,r5,r6,r7,r8,r9,r10,r11,r12⟩:=h.apart;obtain⟨y,hy⟩:=h.be;refine⟨⟨h.op.far (p:=⟨o.be,0,none⟩) r4 _,h.fl.far (p:=⟨o.be,0,none⟩) r7 _,h.bo.far (p:=⟨o.be,0,none⟩) (Ne.symm r8) _,h.bf.far (p:=⟨o.be,0,none⟩) (Ne.symm r9) _,⟨x,hy.set_ 0 _⟩,
  (Kp.set (p:=⟨o.be,0,none⟩) h.low.2.2.2.2.1 h.high.2.2.2.2.1 _).tab h.tab h.tlt,h.tlt,bs_far h.bytes (p:=⟨o.be,0,none⟩) (fun a e=>by cases e;exact r12) _,h.cell,h.nc,h.low,(by have:=h.high;simpa [World.setCell]using this),h.apart⟩,hy.set_ 0 _⟩
theorem OW.kmove (h:OW b D o xs w cs at_) (i:Nat) (u:Value):Kp b D w (w.setCell ⟨o.O,i,none⟩ u):=Kp.set (p:=⟨o.O,i,none⟩) h.low.1 h.high.1 u
theorem OW.kfile (h:OW b D o xs w cs at_) (i:Nat) (u:Value):Kp b D w (w.setCell ⟨o.F,i,none⟩ u):=Kp.set (p:=⟨o.F,i,none⟩) h.low.2.1 h.high.2.1 u
theorem OW.kerr (h:OW b D o xs w cs at_) (i:Nat) (u:Value):Kp b D w (w.setCell ⟨o.be,i,none⟩ u):=Kp.set (p:=⟨o.be,i,none⟩) h.low.2.2.2.2.1 h.high.2.2.2.2.1 u
end
def Stp (b D:Nat) (o:Ob5) (xs:List Nat) (cs:Array Value) (next:Nat) (w:World) (e:Ending) (w':World):Prop:=e= .returned (.tuple #[])∧OW b D o xs w' cs next∧Kp b D w w'
theorem take_ok (b D : Nat) (o : Ob5) (xs : List Nat) (cs : Array Value) (at_ kind : Nat) (zs : List Nat) (next : Nat) (w : World) (h : OW b D o xs w cs at_) (ht : Chk.takeAt xs (at_ : Int) 2097152 = .ok kind zs next) (hz : 0 < zs.length) :
    Calls Tryz.prog 57 #[.pointer (some ⟨o.O,0,none⟩),.int .u8 (kind:Int)] w fun e w'=>∃g' o' c',e= .returned (.slice (some ⟨g',o',none⟩) zs.length c')∧Bs w' (some ⟨g',o',none⟩) zs.length zs∧D≤g'∧OW b D o xs w' cs next∧Kp b D w w':=by
  have HT:=zh (fun(w':World) (e:Ext w w')=>Chk.take (some ⟨o.q,0,none⟩) o.n o.c xs (at_:Int) 2097152 w' (h.tab.ext e) (h.bytes.ext e) (fun h=>by cases h) h.nc.1 h.nc.2.1 (by have:=h.nc.2.2.2;omega));rw[ht]at HT;have HW:=zh h;have HZ:=zh hz;obtain⟨O,F,bo,bf,be,q,n,c⟩:=o;simp only at HT ⊢;clear h ht hz;go_enter Tryz.func57,Tryz.ntmps57;go_upto_region 1 with fail;have HX:=zh (HW.out.ext (zxd (zxr w)));have HE:=zh (zxd (zxr w));have HS:=zh (And.intro (HX.out.op.cell 0) (And.intro (HX.out.op.cell 1) ((HX.out.fl.cell 0).trans HX.out.cell)));simp only[zzD,zzE,zzF]at HS;refine zw38 (S:=fun W=>W.cell? ⟨O,0,none⟩=some (.pointer (some ⟨F,0,none⟩))∧W.cell? ⟨O,1,none⟩=some (.int .i64 (at_:Int))∧W.cell? ⟨F,0,none⟩=some (.slice (some ⟨q,0,none⟩) n c)) hmxF HS.out (fun _=>?_);generalize w.drew=w1 at*
  iterate 11
   refine zqT (v:=?_) HS.out rfl ?_ ?_;rotate_left
   · intro w' hSw;obtain⟨s0,s1,s2⟩:=hSw;go_simp;try with_reducible rfl
   (try simp only[Act.put,zzA,zzB,zzC])
  refine zqO (i:=11) (by kernel_rfl) rfl fun K hK=>?_;go_simp;refine(HT.out _ HE.out).mono ?_;rintro e w2 ⟨hE,A',c',rfl,hB,hfr⟩;have hA:∃g' o',A'=some ⟨g',o',none⟩:=by
    obtain⟨g',o',e,_⟩:=hB.2.2 HZ.out;exact⟨g',o',e⟩
  obtain⟨g',o',rfl⟩:=hA;have HB:=zh hB;have HD:Hid (D≤g'):=zh (zw10 HX.out.high.2.2.2.2.2.2 (hfr HZ.out _ rfl));replace HX:=zh (HX.out.ext hE);replace HE:=zh (zxt HE.out hE);clear hB hfr hE;have HS:=zh (And.intro (HX.out.op.cell 0) (And.intro (HX.out.op.cell 1) ((HX.out.fl.cell 0).trans HX.out.cell)));simp only[zzD,zzE,zzF]at HS
  (try go_wp2_with fail)
  refine hK.out _ _ HS.out fun _=>?_;clear hK K
  (try simp only[Act.put,zzA,zzB,zzC])
  iterate 9
   refine zqT (v:=?_) HS.out rfl ?_ ?_;rotate_left
   · intro w' hSw;obtain⟨s0,s1,s2⟩:=hSw;go_simp;try with_reducible rfl
   (try simp only[Act.put,zzA,zzB,zzC])
  refine zw39 (by kernel_rfl) ?_ _;have HL:Hid (zs.length=zs.length):=zh rfl;obtain⟨nz,hnz⟩:∃q,zs.length=q:=⟨_,rfl⟩;rw[hnz]at HB ⊢;clear HT HS HL;go_wp2_with fail;refine(must_ok _ _).mono ?_;rintro e w3 ⟨rfl,rfl⟩;go_wp2_with fail;refine(must_ok _ _).mono ?_;rintro e w3 ⟨rfl,rfl⟩;have f0:=HX.out.op.cell 1;have f1:=HX.out.op.frozen 1;simp only[zzD,zzE,zzF]at f0;have HM:=zh (HX.out.move next);have HK:=zh ((Kp.ext HE.out).trans (HX.out.kmove 1 (.int .i64 (next:Int))));have HB2:=zh ((HX.out.kmove 1 (.int .i64 (next:Int))).bs HB.out (fun a e=>by cases e;exact HD.out));go_wp2_with fail;go_ret;subst hnz;exact⟨_,_,_,rfl,HB2.out,HD.out,HM.out,HK.out⟩
theorem skip_ok (b D : Nat) (o : Ob5) (xs : List Nat) (cs : Array Value) (at_ kind : Nat) (hw sz : Nat) (bd : List Nat) (next : Nat) (w : World) (h : OW b D o xs w cs at_) (ht : Chk.readAt xs (at_ : Int) = .ok kind hw sz bd next) :
    Calls Tryz.prog 67 #[.pointer (some ⟨o.O,0,none⟩),.int .u8 (kind:Int)] w (Stp b D o xs cs next w):=by
  have HT:=zh (fun(w':World) (e:Ext w w')=>Chk.skip (some ⟨o.q,0,none⟩) o.n o.c xs (at_:Int) w' (h.tab.ext e) (h.bytes.ext e) (fun h=>by cases h) h.nc.1 h.nc.2.1 (by have:=h.nc.2.2.2;omega));rw[ht]at HT;have HW:=zh h;obtain⟨O,F,bo,bf,be,q,n,c⟩:=o;simp only at HT ⊢;clear h ht;go_enter Tryz.func67,Tryz.ntmps67;go_upto_region 0 with fail;have HX:=zh (HW.out.ext (zxd (zxr w)));have HE:=zh (zxd (zxr w));have HS:=zh (And.intro (HX.out.op.cell 0) (And.intro (HX.out.op.cell 1) ((HX.out.fl.cell 0).trans HX.out.cell)));simp only[zzD,zzE,zzF]at HS;refine zw38 (S:=fun W=>W.cell? ⟨O,0,none⟩=some (.pointer (some ⟨F,0,none⟩))∧W.cell? ⟨O,1,none⟩=some (.int .i64 (at_:Int))∧W.cell? ⟨F,0,none⟩=some (.slice (some ⟨q,0,none⟩) n c)) hmxF HS.out (fun _=>?_);generalize w.drew=w1 at*
  iterate 11
   refine zqT (v:=?_) HS.out rfl ?_ ?_;rotate_left
   · intro w' hSw;obtain⟨s0,s1,s2⟩:=hSw;go_simp;try with_reducible rfl
   (try simp only[Act.put,zzA,zzB,zzC])
  refine zqO (i:=11) (by kernel_rfl) rfl fun K hK=>?_;go_simp;refine(HT.out _ HE.out).mono ?_;rintro e w2 ⟨hE,rfl⟩;replace HX:=zh (HX.out.ext hE);replace HE:=zh (zxt HE.out hE);clear hE;have HS:=zh (And.intro (HX.out.op.cell 0) (And.intro (HX.out.op.cell 1) ((HX.out.fl.cell 0).trans HX.out.cell)));simp only[zzD,zzE,zzF]at HS
  (try go_wp2_with fail)
  refine hK.out _ _ HS.out fun _=>?_;clear hK K
  (try simp only[Act.put,zzA,zzB,zzC])
  iterate 7
   refine zqT (v:=?_) HS.out rfl ?_ ?_;rotate_left
   · intro w' hSw;obtain⟨s0,s1,s2⟩:=hSw;go_simp;try with_reducible rfl
   (try simp only[Act.put,zzA,zzB,zzC])
  refine zw39 (by kernel_rfl) ?_ _;clear HT HS;go_wp2_with fail;refine(must_ok _ _).mono ?_;rintro e w3 ⟨rfl,rfl⟩;go_wp2_with fail;refine(must_ok _ _).mono ?_;rintro e w3 ⟨rfl,rfl⟩;have f0:=HX.out.op.cell 1;have f1:=HX.out.op.frozen 1;simp only[zzD,zzE,zzF]at f0;have HM:=zh (HX.out.move next);have HK:=zh ((Kp.ext HE.out).trans (HX.out.kmove 1 (.int .i64 (next:Int))));go_wp2_with fail
  go_end0
  exact⟨rfl,HM.out,HK.out⟩
theorem rnum20 (n:Nat) (h:n≤9223372036854775807) (w:World):Calls Tryz.prog 75 #[.int .i64 (n:Int)] w fun e w'=>e= .returned (.string (strOf (vb n)))∧Ext w w':=by
 have HV:=zh (fun W=>Wire.refVarint n (by omega) W);have hw:IntKind.u64.wrap (n:Int)=(n:Int):=by rw[IntKind.wrap_u64];omega
 go_enter Tryz.func75,Tryz.ntmps75;go_wp2_with fail;refine(HV.out _).mono ?_;rintro e w1 ⟨rfl,hE⟩;go_wp2_with fail;go_ret;exact⟨rfl,hE⟩
def IRel (w:World) (ls:List Nat) (m gh:Nat) (sv lv iv:Value) (wr:World):Prop:=
 ∃(i last:Nat) (P:List Nat),i+gh=m∧iv= .int .i64 (i:Int)∧lv= .int .i64 (last:Int)∧sv= .string (strOf P)∧P++idx last (ls.drop i)=idx 0 ls∧up last (ls.drop i)∧P.length≤10*i∧Ext w wr
theorem rindex (A:Option Addr) (m c:Nat) (ls:List Nat) (w:World) (hB:RowR w A m 1 cN ls) (hu:up 0 ls) (hm:m≤1000000):
  Calls Tryz.prog 116 #[.slice A m c] w fun e w'=>e= .returned (.string (strOf (idx 0 ls)))∧Ext w w':=by
 have hlen:ls.length=m:=hB.1;have HB:=zh hB;have HU:=zh hu;have HLEN:=zh hlen;clear hB hu hlen;go_enter Tryz.func116,Tryz.ntmps116;go_wp2_with fail
 go_loopg [3,4,5] m (fun gh sv lv iv wr=>IRel w ls m gh sv lv iv wr)
 case atStart=>exact⟨0,0,[],by omega,rfl,rfl,rfl,rfl,HU.out,by simp,zxr _⟩
 case round=>
  obtain⟨i,last,P,hi,rfl,rfl,rfl,hP,hup,hpl,hE⟩:=hrel;obtain⟨wi,rfl⟩:∃wi:World,wi=wr:=⟨_,rfl⟩;obtain⟨gh,rfl⟩:∃gh:Nat,gh=gk:=⟨_,rfl⟩;have HPP:=zh hP;have HE:=zh hE;have y1:(0:Int)≤(i:Int):=by omega
  by_cases hlt:i<m
  ·have y2:(i:Int)<(m:Int):=by omega
   have hil:i<ls.length:=by rw[HLEN.out];exact hlt
   obtain⟨bs,os,rfl,hbw,hcell⟩:=HB.out.2 (by omega);have hst:=kc hE (hcell i hil 0 (by omega));have hdr:ls.drop i=ls[i]::ls.drop (i+1):=zw20 hil;rw[hdr]at hup;have hnx:P++(vb (ls[i]-last)++idx ls[i] (ls.drop (i+1)))=idx 0 ls:=by rw[←hP,hdr];rfl
   generalize ls[i]=a at hst hup hnx;obtain⟨u1,u2,u3⟩:=hup;obtain⟨d,rfl⟩:∃d,a=last+d:=⟨a-last,by omega⟩;rw[zw44]at hnx;have HNX:=zh hnx;have HUP:=zh u3;have HPL:=zh hpl;have HVL:Hid ((vb d).length≤10):=zh (vb_ten (by omega));have HN:=zh (fun W=>rnum20 d (by omega) W);simp only[cN,List.getElem?_cons_zero,Nat.mul_one,Nat.add_zero]at hst;have hsub:((last+d:Nat):Int)-(last:Int)=(d:Int):=by omega
   have HSA:Hid (strOf P++strOf (vb d)=strOf (P++vb d)):=zh (strOf_app _ _).symm;obtain⟨S,hS⟩:∃S,S=strOf P:=⟨_,rfl⟩;obtain⟨V,hV⟩:∃V,V=strOf (vb d):=⟨_,rfl⟩;have hq:¬9223372036854775807<S.size+V.size:=by rw[hS,hV,strOf_size,strOf_size];have:=HVL.out;omega
   rw[←hS,←hV]at HSA;rw[←hS];rw[←hV]at HN;clear hcell hdr hP hnx u3 hpl hS hV hil hE;obtain⟨a,ha⟩:∃a,a=last+d:=⟨_,rfl⟩;rw[←ha]at hst hsub HNX HUP u1 u2;replace ha:=zh ha;have hst2:=hst;go_wp2_with fail
   try rw[hsub]
   refine(HN.out _).mono ?_;rintro e w1 ⟨rfl,hE1⟩;have hst3:=kc hE1 hst2;have HE1:=zh (zxt HE.out hE1);clear hst hst2 hE1;go_wp2_with fail
   go_roundg (gh-1)
   case measure=>omega
   case rel=>exact⟨i+1,a,P++vb d,by omega,by go_num,rfl,by rw[HSA.out],by rw[zw7];exact HNX.out,HUP.out,by rw[zw0];have:=HVL.out;have:=HPL.out;omega,HE1.out⟩
  ·obtain rfl:gh=0:=by omega
   have y2:¬(i:Int)<(m:Int):=by omega
   have hf:P=idx 0 ls:=by
    rw[←hP,zw21 (by rw[HLEN.out];omega)];simp[idx]
   subst hf;obtain⟨S,hS⟩:∃S,S=strOf (idx 0 ls):=⟨_,rfl⟩;rw[←hS];have HS:=zh hS;clear hE hS;go_wp2_with fail;go_ret;exact⟨by rw[←HS.out];rfl,HE.out⟩
theorem up_most:∀(l:List Nat) (last:Nat),up last l→∀a∈l,a≤1000000000
 | [],_,_,a,h=>by cases h
 | b::l,last,hu,a,h=>by
  rcases zw30.1 h with rfl | h
  ·exact hu.2.1
  ·exact up_most l b hu.2.2 a h
theorem rfoot (A:Option Addr) (m c:Nat) (ls X:List Nat) (w:World) (hB:RowR w A m 1 cN ls) (hu:up 0 ls) (hm:m≤50) (hx:X.length≤800000) (hxs:∀j,X.getD j 0<256):
  Calls Tryz.prog 78 #[.string (strOf X),.slice A m c] w fun e w'=>e= .returned (.string (strOf (foot X ls)))∧Ext w w':=by
 have hil:(idx 0 ls).length≤500:=by
  have:=idx_len ls 0 (fun a ha=>by have:=up_most ls 0 hu a ha;omega);have:=hB.1;omega
 have HX:=zh (rindex A m c ls w hB hu (by omega));have hc7:=chunk_max 7 (xs:=idx 0 ls) (by omega);have HPC:=zh (fun W=>Chk.refPutC 7 (by decide) (strOf (idx 0 ls)) W (by rw[strOf_size];omega));have hni:natsOf (strOf (idx 0 ls))=idx 0 ls:=nats_strOf (small_mem (idx_small ls 0));rw[hni]at HPC;obtain⟨C7,hC7⟩:∃q,q=Chk.chunk 7 (idx 0 ls):=⟨_,rfl⟩;have HCS:Hid (∀j,C7.getD j 0<256):=zh (by rw[hC7];exact small_mem (Chk.chunk_small (show(7:Nat)<256 by decide) (small_mem (idx_small ls 0))));obtain⟨T,hT⟩:∃q,q=X++C7++fx X.length:=⟨_,rfl⟩;have HFT:Hid (strOf (foot X ls)=strOf T++strOf (fx (Chk.crc T))):=zh (by rw[←strOf_app,hT,hC7];rfl);rw[←hC7]at hc7 HPC;have HTS:Hid (∀j,T.getD j 0<256):=zh (by
  rw[hT];refine small_mem (fun z hz=>?_);rcases zw16.1 hz with hz | hz
  ·rcases zw16.1 hz with hz | hz
   ·exact mem_small hxs z hz
   ·exact mem_small HCS.out z hz
  ·exact fx_mem (by omega) z hz)
 have hTl:T.length≤810000:=by rw[hT,zw0,zw0,fx_len];omega
 have HTL:=zh hTl;have HSA:Hid (strOf X++strOf C7++strOf (fx X.length)=strOf T):=zh (by rw[←strOf_app,←strOf_app,hT]);have HF1:=zh (fun W=>Wire.refFixed X.length (by omega) W);have HF2:=zh (fun W=>Wire.refFixed (Chk.crc T) (Chk.crc_lt _) W);have hx4:(strOf (fx X.length)).size=4:=by rw[strOf_size];rfl
 have hk4:(strOf (fx (Chk.crc T))).size=4:=by rw[strOf_size];rfl
 have hxl:(strOf X).size=X.length:=strOf_size X;have hcl:(strOf C7).size=C7.length:=strOf_size C7;have htl:(strOf T).size=T.length:=strOf_size T;have HNT:Hid (natsOf (strOf T)=T):=zh (nats_strOf HTS.out);rw[←hxl]at HF1;clear hC7 hni HCS hT;obtain⟨SX,hSX⟩:∃q,q=strOf X:=⟨_,rfl⟩;obtain⟨S7,hS7⟩:∃q,q=strOf C7:=⟨_,rfl⟩;obtain⟨SI,hSI⟩:∃q,q=strOf (idx 0 ls):=⟨_,rfl⟩;obtain⟨SF,hSF⟩:∃q,q=strOf (fx X.length):=⟨_,rfl⟩;obtain⟨ST,hST⟩:∃q,q=strOf T:=⟨_,rfl⟩;obtain⟨SK,hSK⟩:∃q,q=strOf (fx (Chk.crc T)):=⟨_,rfl⟩;rw[←hSX]at HSA HF1 hxl ⊢;rw[hxl,←hSF]at HF1;rw[←hSF]at HSA hx4;rw[←hS7]at HSA HPC hcl;rw[←hSI]at HX HPC;rw[←hST]at HSA HFT htl HNT;rw[←hSK]at HF2 hk4 HFT;have q1:¬9223372036854775807<SX.size+S7.size:=by omega
 have q2:¬9223372036854775807<SX.size+S7.size+SF.size:=by omega
 have q3:¬9223372036854775807<ST.size+SK.size:=by omega
 have q4:IntKind.u32.wrap (SX.size:Int)=(SX.size:Int):=by rw[IntKind.wrap_u32];omega
 have HZ:Hid (ST.size≤810000):=zh (by omega);have HTT:=zh htl;rw[←hxl]at HF1;clear hSX hS7 hSI hSF hST hSK hx4 hk4 hxl hcl htl hil hc7 hTl hxs hu hB;go_enter Tryz.func78,Tryz.ntmps78;go_wp2_with fail;refine(HX.out).mono ?_;rintro e w1 ⟨rfl,hE⟩;have HE:=zh hE;clear hE;go_wp2_with fail;refine(HPC.out _).mono ?_;rintro e w2 ⟨rfl,hE⟩;replace HE:=zh (zxt HE.out hE);clear hE;go_wp2_with fail;refine(HF1.out _).mono ?_;rintro e w3 ⟨rfl,hE⟩;replace HE:=zh (zxt HE.out hE);clear hE;go_upto_region 2 with fail;rw[HSA.out];obtain⟨c3,w4,hcv,hc1,hc2,hB3,hE3⟩:=Com.conv_text w3 ST (by have:=HZ.out;omega);rw[HNT.out]at hB3;have HCS:=zh (Crc.rsum (some ⟨w3.heap.size,0,none⟩) ST.size c3 T w4 hB3 (by have:=HZ.out;omega));replace HE:=zh (zxt HE.out hE3);clear hB3 hE3 q1 q2;generalize w3.heap.size=G at*;go_wp2_with fail;refine(HCS.out).mono ?_;rintro e w5 ⟨rfl,rfl⟩;clear hcv;go_wp2_with fail;refine(HF2.out _).mono ?_;rintro e w5 ⟨rfl,hE5⟩;replace HE:=zh (zxt HE.out hE5);clear hE5;go_wp2_with fail;go_ret;exact⟨by rw[HFT.out];rfl,HE.out⟩
end Go.Proofs.YtbopblbhjcemaaaGreatDoor.Fil
