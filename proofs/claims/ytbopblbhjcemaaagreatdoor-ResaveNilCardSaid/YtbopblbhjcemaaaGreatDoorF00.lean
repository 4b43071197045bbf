
import Derived.ProofKit
import Derived.OpenShut
import Derived.Lib.Hide
import Derived.BigQuiet
import Derived.Deep.RegionHeld
import Derived.Deep.AppendSrc
import Derived.Deep.Onto
import Derived.Test.YtbopblbhjcemaaaGreatDoorRows
import Derived.WalkLawsBesides
import Derived.StillTailTactics
set_option maxHeartbeats 16000000
set_option maxRecDepth 100000
set_option linter.all false
open Go.ChangeShapes Go.WideShapes Go.ChangeAt Go.RowKit
namespace Go.Proofs.YtbopblbhjcemaaaGreatDoor
abbrev zzA:=@List.setIfInBounds_toArray
abbrev zzB:=@List.set_cons_zero
abbrev zzC:=@List.set_cons_succ
abbrev zzD:=@List.getElem?_toArray
abbrev zzE:=@List.getElem?_cons_zero
abbrev zzF:=@List.getElem?_cons_succ
abbrev zw0:=@List.length_append
abbrev zw1:=@List.length_drop
abbrev zw2:=@List.length_take
abbrev zw3:=@List.length_cons
abbrev zw4:=@List.length_map
abbrev zw5:=@List.getD_eq_getElem?_getD
abbrev zw6:=@List.getElem?_eq_getElem
abbrev zw7:=@List.append_assoc
abbrev zw8:=@Nat.le_refl
abbrev zw9:=@Nat.lt_of_lt_of_le
abbrev zw10:=@Nat.le_trans
abbrev zw11:=@Nat.lt_of_le_of_lt
abbrev zw12:=@beq_eq_false_iff_ne
abbrev zw13:=@Option.some.inj
abbrev zw14:=@decide_eq_false
abbrev zw15:=@decide_eq_true
abbrev zw16:=@List.mem_append
abbrev zw17:=@List.nil_append
abbrev zw18:=@List.append_nil
abbrev zw19:=@List.eq_nil_of_length_eq_zero
abbrev zw20:=@List.drop_eq_getElem_cons
abbrev zw21:=@List.drop_eq_nil_of_le
abbrev zw22:=@World.size_alloc
abbrev zw23:=@World.ownsRow.lt
abbrev zw24:=@World.ownsRow.kept
abbrev zw25:=@List.getElem_mem
abbrev zw26:=@List.length_nil
abbrev zw27:=@List.length_singleton
abbrev zw28:=@List.drop_zero
abbrev zw29:=@List.take_zero
abbrev zw30:=@List.mem_cons
abbrev zw31:=@List.drop_drop
abbrev zw32:=@List.getElem?_append_left
abbrev zw33:=@List.getElem?_append_right
abbrev zw34:=@Nat.mul_le_mul_right
abbrev zw35:=@Int.toNat_natCast
abbrev zw36:=@List.take_append_getElem
abbrev zw37:=@List.length_range
abbrev zw38:=@wp_region_held_drew
abbrev zw39:=@wpAnyH_done
abbrev zw40:=@wpAnyH_take
abbrev zw41:=@wpAnyH_ready
abbrev zw42:=@AllReadyH.nil
abbrev zw43:=@ByteArray.size_append
abbrev zw44:=@Nat.add_sub_cancel_left
abbrev zw45:=@World.cell?_alloc_lt
abbrev zw46:=@Below.heap_setCell
abbrev zw47:=@Below.heap_alloc
abbrev zw48:=@Bool.and_eq_true
abbrev zw49:=@decide_eq_true_iff
abbrev zw50:=@Bool.true_and
abbrev zw51:=@Bool.false_and
abbrev zw52:=@List.mem_singleton
abbrev zw53:=@ByteArray.append_assoc
abbrev zw54:=@DataW.trod_int
abbrev zw55:=@DataW.trod_struct
theorem zh {p:Prop} (h:p):RowKit.Hid p:=Lib.hid h
theorem tq {P:Program} {ops:Array Oper} {Q:Exit→Act→World→Prop} {md:Region.Mode} {S:World→Prop} {i:Nat} {oi:Oper} {v:Value} {fuel:Nat} {listed:Array Bool} {a:Act} {w:World} (hS:S w) (hy:∀w,S w→(execOp a.eval oi).run P w= .ok (.value v) w)
 (h:wpAnyH P md ops Q S fuel (listed.setIfInBounds i true) (a.put oi.dst v) w) (hi:ops[i]? =some oi:=by rfl) (hs:Region.noSelect ops=true:=by kernel_rfl) (hf:Region.free md ops listed i=true:=by kernel_rfl) (hr:(Region.ready md ops listed).contains i=true:=by kernel_rfl)
 (hQ:∀c a w,Q (.panic c) (a.put oi.dst v) w→Q (.panic c) a w:=by exact fun _ _ _ h=>h) (hw:Region.wanted oi (yielded ops a.tmps)=true:=by rfl):wpAnyH P md ops Q S (fuel+1) listed a w:=
 zw40 hi hs hf hr hQ (.inl ⟨hw,hy⟩) hS h
def zqcalm (o:Oper):Bool:=match o.op with
 | .store .. | .alloc .. | .buildSlice .. | .box .. | .select .. | .makeMap .. | .makeSlice .. | .makeFunc .. | .insert .. =>false
 | .call c=>(match c.callee with | .builtin .len=>true | _=>false)
 | _=>true
def zqisL:List Bool→Nat→Bool
 | [],_=>false
 | b::_,0=>b
 | _::l,n+1=>zqisL l n
theorem zqisL_eq:∀(l:List Bool) (n:Nat),zqisL l n=l.getD n false
 | [],_=>rfl
 | _::_,0=>rfl
 | _::l,n+1=>zqisL_eq l n
def zqbinL (md:Region.Mode) (L:List Bool):List Edge→Bool
 | []=>true
 | e::l=>match Region.binds md e with
  | false=>zqbinL md L l
  | true=>match zqisL L e.on with
   | true=>zqbinL md L l
   | false=>false
def zqnx (md:Region.Mode) (L:List Bool):List Oper→List Bool→List Nat→Option (Nat × Oper)
 | o::os,b::bs,k::ks=>match b with
  | true=>zqnx md L os bs ks
  | false=>match zqcalm o with
   | false=>zqnx md L os bs ks
   | true=>match zqbinL md L o.after.toList with
    | true=>some (k,o)
    | false=>zqnx md L os bs ks
 | _,_,_=>none
abbrev zqkL:List Nat:=[0,1,2,3,4,5,6,7,8,9,10,11,12,13,14,15,16,17,18,19,20,21,22,23,24,25,26,27,28,29,30,31,32,33,34,35,36,37,38,39,40,41,42,43,44,45,46,47,48,49,50,51,52,53,54,55,56,57,58,59,60,61,62,63]
theorem zqkL_at (j m:Nat) (h:zqkL[j]? =some m):m=j:=by
 have hj:j<64:=by
  rcases Nat.lt_or_ge j zqkL.length with h' | h'
  ·exact h'
  ·rw[List.getElem?_eq_none h']at h;cases h
 have:∀j,j<64→zqkL[j]? =some j:=by decide
 rw[this j hj]at h;exact(zw13 h).symm
theorem zqbinL_all {md:Region.Mode} {L:List Bool}:∀{l:List Edge},zqbinL md L l=true→∀e∈l,Region.binds md e=true→L.getD e.on false=true
 | e::l,h,e',he,hb=>by
  simp only[zqbinL,zqisL_eq]at h;rcases zw30.1 he with rfl | he
  ·rw[hb]at h
   simp only at h
   split at h
   ·assumption
   ·cases h
  ·split at h
   ·exact zqbinL_all h e' he hb
   ·split at h
    ·exact zqbinL_all h e' he hb
    ·cases h
theorem zqnx_at {md:Region.Mode} {L:List Bool} {i:Nat} {o:Oper}:∀{os:List Oper} {bs:List Bool} {ks:List Nat},zqnx md L os bs ks=some (i,o)→∃j:Nat,os[j]? =some o∧bs[j]? =some false∧ks[j]? =some i∧zqbinL md L o.after.toList=true
 | p::os,b::bs,k::ks,h=>by
  have up:zqnx md L os bs ks=some (i,o)→∃j:Nat,(p::os)[j]? =some o∧(b::bs)[j]? =some false∧(k::ks)[j]? =some i∧zqbinL md L o.after.toList=true:=fun h=>by
   obtain⟨j,h1,h2,h3,h4⟩:=zqnx_at h;exact⟨j+1,h1,h2,h3,h4⟩
  simp only[zqnx]at h
  split at h
  ·exact up h
  ·split at h
   ·exact up h
   ·split at h
    ·rename_i hb
     cases h
     exact⟨0,rfl,rfl,rfl,hb⟩
    ·exact up h
theorem zqT {P:Program} {ops:Array Oper} {Q:Exit→Act→World→Prop} {md:Region.Mode} {S:World→Prop} {i:Nat} {oi:Oper} {v:Value} {fuel:Nat} {listed:Array Bool} {a:Act} {w:World} (hS:S w) (hn:zqnx md listed.toList ops.toList listed.toList zqkL=some (i,oi)) (hy:∀w,S w→(execOp a.eval oi).run P w= .ok (.value v) w)
 (h:wpAnyH P md ops Q S fuel (listed.setIfInBounds i true) (a.put oi.dst v) w) (hs:Region.noSelect ops=true:=by kernel_rfl) (hf:Region.free md ops listed i=true:=by kernel_rfl)
 (hQ:∀c a w,Q (.panic c) (a.put oi.dst v) w→Q (.panic c) a w:=by exact fun _ _ _ h=>h) (hw:Region.wanted oi (yielded ops a.tmps)=true:=by rfl):wpAnyH P md ops Q S (fuel+1) listed a w:=by
 obtain⟨j,h1,h2,h3,h4⟩:=zqnx_at hn;obtain rfl:=zqkL_at j i h3;have h1':ops[i]? =some oi:=by simpa using h1
 refine zw40 h1' hs hf ?_ hQ (.inl ⟨hw,hy⟩) hS h;have hm:i∈Region.ready md ops listed:=by
  unfold Region.ready;rw[List.mem_filter,List.mem_range];obtain⟨hi,_⟩:=Array.getElem?_eq_some_iff.1 h1';refine⟨hi,?_⟩;have h2':listed[i]? =some false:=by simpa using h2
  rw[h1'];simp only[Array.getD_eq_getD_getElem?,h2',Option.getD_some,Bool.not_false,zw50,Option.map_some];rw[Array.all_eq_true_iff_forall_mem];intro e he
  cases hb:Region.binds md e with
  | false=>rfl
  | true=>
   have:=zqbinL_all h4 e (by simpa using he) hb
   simpa [zw5]using this
 simpa using hm
def zqopL:List Oper→Nat→Option Oper
 | [],_=>none
 | o::_,0=>some o
 | _::l,n+1=>zqopL l n
theorem zqopL_eq:∀(l:List Oper) (n:Nat),zqopL l n=l[n]?
 | [],_=>by simp[zqopL]
 | _::_,0=>rfl
 | _::l,n+1=>by rw[zqopL,zqopL_eq l n,List.getElem?_cons_succ]
theorem zqC {P:Program} {ops:Array Oper} {Q:Exit→Act→World→Prop} {md:Region.Mode} {S:World→Prop} {fuel:Nat} {listed:Array Bool} {a:Act} {w:World} {i:Nat} {o:Oper} {rs:List Nat} (ho:zqopL ops.toList i=some o)
 (h:∀K':Act→World→Prop,Shut (∀a w,S w→(S w→wpAnyH P md ops Q S fuel (listed.setIfInBounds i true) a w)→K' a w)→if Region.wanted o (yielded ops a.tmps)=true then Oper.wp P o a w K' Q else K' (a.put o.dst undef) w)
 (hs:AllReadyH P md ops Q S fuel listed a w rs):AllReadyH P md ops Q S fuel listed a w (i::rs):=AllReadyH.cons (by rw[zqopL_eq]at ho;simpa using ho) h hs
theorem zqO {P:Program} {ops:Array Oper} {Q:Exit→Act→World→Prop} {md:Region.Mode} {S:World→Prop} {fuel:Nat} {listed:Array Bool} {a:Act} {w:World} {i:Nat} {o:Oper} (hr:Region.ready md ops listed=[i]) (ho:zqopL ops.toList i=some o)
 (h:∀K':Act→World→Prop,Shut (∀a w,S w→(S w→wpAnyH P md ops Q S fuel (listed.setIfInBounds i true) a w)→K' a w)→if Region.wanted o (yielded ops a.tmps)=true then Oper.wp P o a w K' Q else K' (a.put o.dst undef) w):wpAnyH P md ops Q S (fuel+1) listed a w:=
 zw41 hr (by simp) (zqC ho h zw42)
theorem zqK {P:Program} {ops:Array Oper} {Q:Exit→Act→World→Prop} {md:Region.Mode} {S:World→Prop} {i:Nat} {oi:Oper} {v:Value} {fuel:Nat} {listed:Array Bool} {a:Act} {w:World} (hi:zqopL ops.toList i=some oi) (hy:YieldsIf P ops S oi v a) (hS:S w)
 (h:wpAnyH P md ops Q S fuel (listed.setIfInBounds i true) (a.put oi.dst v) w) (hs:Region.noSelect ops=true:=by kernel_rfl) (hf:Region.free md ops listed i=true:=by kernel_rfl) (hr:(Region.ready md ops listed).contains i=true:=by kernel_rfl)
 (hQ:∀c a w,Q (.panic c) (a.put oi.dst v) w→Q (.panic c) a w:=by exact fun _ _ _ h=>h):wpAnyH P md ops Q S (fuel+1) listed a w:=
 zw40 (by rw[zqopL_eq]at hi;simpa using hi) hs hf hr hQ hy hS h
abbrev Ext (w w':World):Prop:=Below w.heap.size w w'
theorem zxr (w:World):Ext w w:=Below.refl _ _
theorem zxt {a b c:World} (h:Ext a b) (k:Ext b c):Ext a c:=h.trans (k.mono h.size)
theorem zxa {a w:World} (h:Ext a w) (o:Obj):Ext a (w.alloc o):=h.alloc h.size o
theorem zxd {a w:World} (h:Ext a w):Ext a w.drew:=h.drew
theorem ext_drewN {a w:World} (h:Ext a w) (n:Nat):Ext a (w.drewN n):=⟨h.os,h.tape,h.output,h.size,h.block⟩
theorem ext_set {a w:World} (h:Ext a w) {p:Addr} (hp:a.heap.size≤p.block) (u:Value):Ext a (w.setCell p u):=h.setCell hp u
theorem ecell {W w1:World} (hb:Ext W w1):(∀b o,b<W.heap.size→w1.cell? ⟨b,o,none⟩=W.cell? ⟨b,o,none⟩)∧(∀b o,b<W.heap.size→w1.frozen? ⟨b,o,none⟩=W.frozen? ⟨b,o,none⟩):=
 ⟨fun b o h=>hb.cell (p:=⟨b,o,none⟩) h,fun b o h=>hb.frozen (p:=⟨b,o,none⟩) h⟩
theorem int_eq {k:IntKind} {a b:Int} (h:a=b):Value.int k a= .int k b:=by rw[h]
section
variable {H : Type} {enc : TypeId × Value → H} {P : Program}
end
theorem kc {a b:World} {B o:Nat} {v:Value} (hb:Ext a b) (h:a.cell? ⟨B,o,none⟩=some v):b.cell? ⟨B,o,none⟩=some v:=
 (hb.cell (p:=⟨B,o,none⟩) (World.block_lt_of_cell? a _ h)).trans h
def Blk (w:World) (g:Nat) (t:TypeId) (cs:Array Value):Prop:=w.heap[g]? =some (.cells cs t (0,0))
section
variable {w w' : World} {g : Nat} {t : TypeId} {cs : Array Value}
theorem Blk.lt (h:Blk w g t cs):g<w.heap.size:=by
 rcases Nat.lt_or_ge g w.heap.size with hl | hl
 ·exact hl
 ·unfold Blk at h;rw[Array.getElem?_eq_none hl]at h;cases h
theorem Blk.cell (h:Blk w g t cs) (i:Nat):w.cell? ⟨g,i,none⟩=cs[i]? :=cell_of_row w g i cs t (0,0) h
theorem Blk.frozen (h:Blk w g t cs) (i:Nat):w.frozen? ⟨g,i,none⟩=false:=by
 unfold Blk at h;simp[World.frozen?,h]
theorem Blk.new (w:World) (t:TypeId) (cs:Array Value):Blk (w.alloc (.cells cs t)) w.heap.size t cs:=heap_alloc_new w _
theorem Blk.new1 (w:World) (o:Obj) (t:TypeId) (cs:Array Value):Blk ((w.alloc o).alloc (.cells cs t)) (w.heap.size+1) t cs:=by
 have:=Blk.new (w.alloc o) t cs
 rwa [zw22]at this
theorem Blk.drew (h:Blk w g t cs):Blk w.drew g t cs:=h
theorem Blk.alloc (h:Blk w g t cs) (o:Obj):Blk (w.alloc o) g t cs:=(zw47 w o g h.lt).trans h
theorem Blk.set_ (h:Blk w g t cs) (i:Nat) (u:Value):Blk (w.setCell ⟨g,i,none⟩ u) g t (cs.setIfInBounds i u):=by
 unfold Blk at h ⊢;simp[World.setCell,Array.getElem?_modify,h]
theorem Blk.far (h:Blk w g t cs) {p:Addr} (hp:g≠p.block) (u:Value):Blk (w.setCell p u) g t cs:=(zw46 w p u g hp).trans h
theorem Blk.ext (h:Blk w g t cs) (hb:Ext w w'):Blk w' g t cs:=(hb.block g h.lt).trans h
theorem Blk.two {a b:Value} (h:Blk w g t #[a,b]):w.cell? ⟨g,0,none⟩=some a∧w.cell? ⟨g,1,none⟩=some b∧w.frozen? ⟨g,0,none⟩=false∧w.frozen? ⟨g,1,none⟩=false:=
 ⟨h.cell 0,h.cell 1,h.frozen 0,h.frozen 1⟩
end
section
variable {P : Program} {w W : World}
theorem ext_grown {a b c:World} (h:Ext a b) {row:Option Nat} (hg:b.grownBy c row) (hr:∀k,row=some k→a.heap.size≤k):Ext a c:=
 ⟨hg.os.trans h.os,hg.tape.trans h.tape,hg.output.trans h.output,zw10 h.size hg.size,fun k hk=>
  (hg.block k (zw9 hk h.size) (fun e=>by have:=hr k e.symm;omega)).trans (h.block k hk)⟩
theorem own_ge {base:Nat} {e:TypeId} {size n:Nat} {v:Value} {xs:List Value} (h:w.ownsRow base e size v n xs):∀k,v.ownBlock=some k→base≤k:=fun k hk=>(h.lt k hk).1
theorem own_shape {base:Nat} {e:TypeId} {size n:Nat} {v:Value} {xs:List Value} (h:w.ownsRow base e size v n xs):∃A c,v= .slice A n c∧n≤c∧c≤maxLen∧(0<n→∃g,A=some ⟨g,0,none⟩∧base≤g):=by
 rcases h.2 with ⟨rfl,rfl⟩ | ⟨g,cap,cur,rfl,hb,_,hnc,hcm,_⟩
 ·exact⟨none,0,rfl,zw8 _,by unfold maxLen;omega,fun h=>absurd h (by omega)⟩
 ·exact⟨_,cap,rfl,hnc,hcm,fun _=>⟨g,rfl,hb⟩⟩
theorem run_firstCells_own {base:Nat} {e:TypeId} {size n:Nat} {A:Option Addr} {c:Nat} {xs:List Value} (h:w.ownsRow base e size (.slice A n c) n xs):(Builtin.firstCells size n (.slice A n c)).run P w.drew= .ok xs.toArray w.drew:=by
 rcases h.2 with ⟨h1,rfl⟩ | ⟨g,cap,cur,h1,_⟩
 ·obtain⟨rfl,_,rfl⟩:=Value.slice.inj h1
  have:xs=[]:=zw19 (by simpa using h.1);subst this;exact run_firstCells_none w.drew size 0 0 0
 ·obtain⟨rfl,_,rfl⟩:=Value.slice.inj h1
  have hc:=h.cells (g:=g) rfl;exact run_firstCells_some w.drew size n _ _ _ xs h.1 (by simpa using hc)
theorem own_new (base:Nat) (e:TypeId) (z:Value) (size:Nat) (hzs:z.cells.size=size) (xs news:List Value) (n m old:Nat) (hx:xs.length=n*size) (hl:news.length=m*size) (h63:n+m≤maxLen) (hbase:base≤w.heap.size):
  (w.drew.alloc (.cells ((xs++news).toArray++Builtin.zeroCells z.cells (grownCap w (n+m) old e-(n+m))) e)).ownsRow base e size
   (.slice (some ⟨w.heap.size,0,none⟩) (n+m) (grownCap w (n+m) old e)) (n+m) (xs++news):=by
 have hge:=grownCap_ge w (n+m) old e;have hcm:grownCap w (n+m) old e≤maxLen:=grownCap_le_maxLen w (n+m) old e h63;have hlen:(xs++news).length=(n+m)*size:=by rw[zw0,hx,hl,Nat.add_mul]
 refine⟨hlen,.inr ⟨w.heap.size,_,_,rfl,hbase,heap_alloc_new w.drew _,hge,hcm,?_,?_⟩⟩
 ·rw[Array.size_append,List.size_toArray,hlen,size_zeroCells,hzs,←Nat.add_mul]
  congr 1;omega
 ·rw[Array.toList_append,←hlen]
  exact List.take_left
theorem run_app_grow (t tx ty e:TypeId) (i:TypeInfo) (z:Value) (size bytes:Nat) (ht:P.underlying t=some (.slice e)) (hi:P.info? e=some i) (hz:i.zero=some z) (hsize:i.size=size) (hby:i.bytes=bytes) (hzs:z.cells.size=size)
  (A:Option Addr) (n c:Nat) (xs:List Value) (hx:xs.length=n*size) (hold:(Builtin.firstCells size n (.slice A n c)).run P w.drew= .ok xs.toArray w.drew)
  (x:Value) (m:Nat) (news:List Value) (hs:Src P size tx x m news w) (hg:c<n+m) (h63:n+m≤maxLen) (hb:(n+m)*bytes≤140737488355328) (base:Nat) (hbase:base≤w.heap.size):
  ∃v' w',(Builtin.append_ #[t,tx] ty #[.slice A n c,x]).run P w= .ok v' w'∧w'.ownsRow base e size v' (n+m) (xs++news)∧w'.ownsRow w.heap.size e size v' (n+m) (xs++news)∧∀row,w.grownBy w' row:=by
 subst hsize hby
 have h63':((n+m:Nat):Int)≤9223372036854775807:=by simp only[maxLen]at h63;omega
 exact⟨_,_,run_append_grow_src w t tx ty e i z ht hi hz A n c xs hold x m news hs hg h63' (growslice_fits hg hb),
  own_new base e z _ hzs xs news n m c hx hs.newsLen h63 hbase,own_new w.heap.size e z _ hzs xs news n m c hx hs.newsLen h63 (zw8 _),
  fun _=>⟨rfl,rfl,rfl,by simp,fun k hk _=>zw47 w.drew _ k hk⟩⟩
theorem run_app_own (t tx ty e:TypeId) (i:TypeInfo) (z:Value) (size bytes:Nat) (ht:P.underlying t=some (.slice e)) (hi:P.info? e=some i) (hz:i.zero=some z) (hsize:i.size=size) (hby:i.bytes=bytes) (hzs:z.cells.size=size)
  (base:Nat) (v:Value) (n:Nat) (xs:List Value) (hown:w.ownsRow base e size v n xs)
  (x:Value) (m:Nat) (news:List Value) (hs:Src P size tx x m news w) (h63:n+m≤maxLen) (hb:(n+m)*bytes≤140737488355328) (hbase:base≤w.heap.size):
  ∃v' w',(Builtin.append_ #[t,tx] ty #[v,x]).run P w= .ok v' w'∧w'.ownsRow base e size v' (n+m) (xs++news)∧w.grownBy w' v.ownBlock:=by
 rcases hown.2 with ⟨rfl,rfl⟩ | ⟨g,cap,cur,rfl,hbg,hgg,hnc,hcm,hcs,htake⟩
 ·by_cases hm:m=0
  ·subst hm
   have hn:news=[]:=zw19 (by simpa using hs.newsLen);have hx:xs=[]:=zw19 (by simpa using hown.1);subst hn hx;refine⟨.slice none 0 0,w,?_,World.ownsRow_nil w base e size,⟨rfl,rfl,rfl,zw8 _,fun _ _ _=>rfl⟩⟩;subst hsize;rcases hs.kind with ⟨e',hk⟩ | hk<;>simp[Builtin.append_,run_underlying ht,run_underlying hk,sizeOf,typeInfo,hi,hs.len,hs.cells]
  ·obtain⟨v',w',h1,h2,_,h4⟩:=run_app_grow t tx ty e i z size bytes ht hi hz hsize hby hzs none 0 0 xs hown.1 (run_firstCells_own hown) x m news hs (by omega) h63 hb base hbase
   exact⟨v',w',h1,h2,h4 _⟩
 ·by_cases hroom:n+m≤cap
  ·subst hsize
   have hfit:n*i.size+news.length≤cur.size:=by rw[hs.newsLen,hcs,←Nat.add_mul];exact zw34 _ hroom
   have hlen:(xs++news).length=(n+m)*i.size:=by rw[zw0,hown.1,hs.newsLen,Nat.add_mul]
   have hst:=run_storeCells_at P g (n*i.size) e news 0 cur w hgg (by simpa using hfit) hs.one;simp only[Nat.add_zero]at hst;have hr:(Builtin.append_ #[t,tx] ty #[.slice (some ⟨g,0,none⟩) n cap,x]).run P w=
     .ok (.slice (some ⟨g,0,none⟩) (n+m) cap) (w.setRow g (cur.toList.take (n*i.size)++news++cur.toList.drop (n*i.size+news.length)).toArray):=by
    rcases hs.kind with ⟨e',hk⟩ | hk<;>simp[Builtin.append_,run_underlying ht,run_underlying hk,sizeOf,typeInfo,hi,hs.len,hroom,hs.cells,Addr.add_lit,hst]
   refine⟨_,_,hr,⟨hlen,.inr ⟨g,cap,_,rfl,hbg,setRow_heap w g cur _ e _ hgg,hroom,hcm,?_,?_⟩⟩,⟨rfl,rfl,rfl,by simp,fun k _ hk=>setRow_other w g k _ (fun e=>hk (by simp[Value.ownBlock,e]))⟩⟩
   ·simp only[List.size_toArray,zw0,zw2,zw1,Array.length_toList]
    omega
   ·rw[htake,←hlen]
    exact List.take_left
  ·obtain⟨v',w',h1,h2,_,h4⟩:=run_app_grow t tx ty e i z size bytes ht hi hz hsize hby hzs _ n cap xs hown.1 (run_firstCells_own hown) x m news hs (by omega) h63 hb base hbase
   exact⟨v',w',h1,h2,h4 _⟩
theorem wpList_of_append {ops:Array Oper} {rest:List Oper} {o:Oper} {a:Act} {Q:Exit→Act→World→Prop} (hgd:o.guard=none) (s x:Operand) (t tx:TypeId)
  (ho:o.op= .call {callee:= .builtin .append,args:= #[s,x],argTypes:= #[t,tx]}) (vs vx:Value) (hs:a.eval s=vs) (hx:a.eval x=vx) {v':Value} {w':World}
  (hr:(Builtin.append_ #[t,tx] o.type #[vs,vx]).run P w= .ok v' w') (h:wpList P ops Q rest (a.put o.dst v') w'):wpList P ops Q (o::rest) a w:=
 wpList_plain hgd fun K hK=>by
  unfold Oper.wp execOp;simp only[ho,resolve,invoke,builtin,Sem.run_bind,Sem.run_pure,Result.andThen_ok,List.map_toArray,List.map_cons,List.map_nil,hs,hx,hr];exact hK _ _ h
theorem wpList_app_own {ops:Array Oper} {rest:List Oper} {o:Oper} {a:Act} {Q:Exit→Act→World→Prop} (hgd:o.guard=none) (s x:Operand) (t tx:TypeId)
  (ho:o.op= .call {callee:= .builtin .append,args:= #[s,x],argTypes:= #[t,tx]}) (e:TypeId) (i:TypeInfo) (z:Value) (size bytes:Nat) (ht:P.underlying t=some (.slice e)) (hi:P.info? e=some i) (hz:i.zero=some z) (hsize:i.size=size) (hby:i.bytes=bytes) (hzs:z.cells.size=size)
  (base:Nat) (v vx:Value) (n:Nat) (xs:List Value) (hs:a.eval s=v) (hx:a.eval x=vx) (hown:w.ownsRow base e size v n xs) (m:Nat) (news:List Value) (hsrc:Src P size tx vx m news w) (h63:n+m≤maxLen) (hb:(n+m)*bytes≤140737488355328) (hbase:base≤w.heap.size)
  (h:∀v' w',w'.ownsRow base e size v' (n+m) (xs++news)→w.grownBy w' v.ownBlock→wpList P ops Q rest (a.put o.dst v') w'):wpList P ops Q (o::rest) a w:=by
 obtain⟨v',w',h1,h2,h3⟩:=run_app_own (P:=P) t tx o.type e i z size bytes ht hi hz hsize hby hzs base v n xs hown vx m news hsrc h63 hb hbase;exact wpList_of_append hgd s x t tx ho v vx hs hx h1 (h v' w' h2 h3)
theorem wpList_app_grow {ops:Array Oper} {rest:List Oper} {o:Oper} {a:Act} {Q:Exit→Act→World→Prop} (hgd:o.guard=none) (s x:Operand) (t tx:TypeId)
  (ho:o.op= .call {callee:= .builtin .append,args:= #[s,x],argTypes:= #[t,tx]}) (e:TypeId) (i:TypeInfo) (z:Value) (size bytes:Nat) (ht:P.underlying t=some (.slice e)) (hi:P.info? e=some i) (hz:i.zero=some z) (hsize:i.size=size) (hby:i.bytes=bytes) (hzs:z.cells.size=size)
  (base:Nat) (A:Option Addr) (n c:Nat) (vx:Value) (xs:List Value) (hs:a.eval s= .slice A n c) (hx:a.eval x=vx) (hxl:xs.length=n*size) (hold:(Builtin.firstCells size n (.slice A n c)).run P w.drew= .ok xs.toArray w.drew)
  (m:Nat) (news:List Value) (hsrc:Src P size tx vx m news w) (hg:c<n+m) (h63:n+m≤maxLen) (hb:(n+m)*bytes≤140737488355328) (hbase:base≤w.heap.size)
  (h:∀v' w',w'.ownsRow base e size v' (n+m) (xs++news)→Ext w w'→wpList P ops Q rest (a.put o.dst v') w'):wpList P ops Q (o::rest) a w:=by
 obtain⟨v',w',h1,h2,_,h4⟩:=run_app_grow (P:=P) t tx o.type e i z size bytes ht hi hz hsize hby hzs A n c xs hxl hold vx m news hsrc hg h63 hb base hbase;exact wpList_of_append hgd s x t tx ho _ vx hs hx h1 (h v' w' h2 (ext_grown (zxr _) (h4 none) (fun _ hk=>by cases hk)))
end
def Bs (w:World) (A:Option Addr) (n:Nat) (xs:List Nat):Prop:=
 xs.length=n∧(∀j,xs.getD j 0<256)∧(0<n→∃b o,A=some ⟨b,o,none⟩∧b<w.heap.size∧∀j,j<n→w.cell? ⟨b,o+j,none⟩=some (.int .u8 (xs.getD j 0:Nat)))
def c8 (ys:List Nat):List Value:=ys.map fun(y:Nat)=>Value.int .u8 (y:Int)
theorem c8_len (ys:List Nat):(c8 ys).length=ys.length:=by simp[c8]
theorem c8_app (xs ys:List Nat):c8 (xs++ys)=c8 xs++c8 ys:=by simp[c8]
theorem c8_one (ys:List Nat):∀u∈c8 ys,u.oneCell'=true:=fun u hu=>by
 obtain⟨_,_,rfl⟩:=List.mem_map.1 hu;rfl
theorem c8_get {ys:List Nat} {j:Nat} {u:Value} (h:(c8 ys)[j]? =some u):j<ys.length∧u= .int .u8 (ys.getD j 0:Nat):=by
 unfold c8 at h;rw[List.getElem?_map,Option.map_eq_some_iff]at h;obtain⟨y,hy,rfl⟩:=h;have hj:=(List.getElem?_eq_some_iff.1 hy).1;exact⟨hj,by rw[zw5,hy];rfl⟩
theorem c8_at {ys:List Nat} {j:Nat} (h:j<ys.length):(c8 ys)[j]? =some (.int .u8 (ys.getD j 0:Nat)):=by
 unfold c8;rw[List.getElem?_map,zw6 h,zw5,zw6 h];rfl
theorem small_app {xs ys:List Nat} (hx:∀j,xs.getD j 0<256) (hy:∀j,ys.getD j 0<256):∀j,(xs++ys).getD j 0<256:=fun j=>by
 rw[zw5,List.getElem?_append]
 split
 ·rw[←zw5];exact hx j
 ·rw[←zw5];exact hy _
theorem small_mem {xs:List Nat} (h:∀c∈xs,c<256):∀j,xs.getD j 0<256:=fun j=>by
 rw[zw5];by_cases hj:j<xs.length
 ·rw[zw6 hj];exact h _ (zw25 hj)
 ·rw[List.getElem?_eq_none (by omega)];simp
theorem mem_small {xs:List Nat} (h:∀j,xs.getD j 0<256):∀c∈xs,c<256:=fun c hc=>by
 obtain⟨j,hj,rfl⟩:=List.getElem_of_mem hc;have:=h j
 rwa [zw5,zw6 hj]at this
section
variable {w w' : World} {A : Option Addr} {n : Nat} {xs : List Nat}
theorem Bs.ext (h:Bs w A n xs) (hb:Ext w w'):Bs w' A n xs:=
 ⟨h.1,h.2.1,fun hn=>by
  obtain⟨b,o,e,hl,hc⟩:=h.2.2 hn;exact⟨b,o,e,zw9 hl hb.size,fun j hj=>(hb.cell (p:=⟨b,o+j,none⟩) hl).trans (hc j hj)⟩⟩
theorem Bs.kept (h:Bs w A n xs) {row:Option Nat} (hg:w.grownBy w' row) (hne:∀a,A=some a→some a.block≠row):Bs w' A n xs:=
 ⟨h.1,h.2.1,fun hn=>by
  obtain⟨b,o,e,hl,hc⟩:=h.2.2 hn;exact⟨b,o,e,zw9 hl hg.size,fun j hj=>hg.cell (hc j hj) (by have:=hne _ e;exact this)⟩⟩
theorem Bs.none (w:World) (A:Option Addr):Bs w A 0 []:=⟨rfl,fun j=>by simp,fun h=>absurd h (by omega)⟩
theorem Bs.take (h:Bs w A n xs) {m:Nat} (hm:m≤n):Bs w A m (xs.take m):=by
 have g:∀j,j<m→(xs.take m).getD j 0=xs.getD j 0:=fun j hj=>by simp[zw5,hj]
 refine⟨by rw[zw2,h.1];omega,fun j=>?_,fun hn=>?_⟩
 ·by_cases hj:j<m
  ·rw[g j hj];exact h.2.1 j
  ·rw[zw5,List.getElem?_eq_none (by rw[zw2];omega)];simp
 ·obtain⟨b,o,e,hl,hc⟩:=h.2.2 (by omega)
  exact⟨b,o,e,hl,fun j hj=>by rw[hc j (by omega),g j hj]⟩
theorem Bs.own {base:Nat} {e:TypeId} {c:Nat} (h:w.ownsRow base e 1 (.slice A n c) n (c8 xs)) (hx:∀j,xs.getD j 0<256):Bs w A n xs:=by
 have hl:xs.length=n:=by have:=h.1;rwa [c8_len,Nat.mul_one]at this
 refine⟨hl,hx,fun hn=>?_⟩;rcases h.2 with ⟨_,rfl⟩ | ⟨g,cap,cur,h1,_⟩
 ·omega
 ·obtain⟨rfl,_,rfl⟩:=Value.slice.inj h1
  refine⟨g,0,rfl,(h.lt g rfl).2,fun j hj=>?_⟩;have:=h.cellAt j (by omega);rw[Nat.zero_add,this,c8_at (by omega)]
theorem Bs.src {P:Program} {tx e':TypeId} (h:Bs w A n xs) (hk:P.underlying tx=some (.slice e')) (c:Nat):Src P 1 tx (.slice A n c) n (c8 xs) w:=by
 rcases Nat.eq_zero_or_pos n with rfl | hp
 ·have:xs=[]:=zw19 h.1
  subst this;rcases A with _ | a
  ·exact Src.ofNil w hk c
  ·exact Src.ofSlice w hk a 0 c [] (by simp) (fun j u hu=>by simp at hu) (fun u hu=>by cases hu)
 ·obtain⟨b,o,rfl,_,hc⟩:=h.2.2 hp
  refine Src.ofSlice w hk _ n c (c8 xs) (by rw[c8_len,h.1,Nat.mul_one]) (fun j u hu=>?_) (c8_one xs);obtain⟨hj,rfl⟩:=c8_get hu;have hadd:(⟨b,o,Option.none⟩:Addr).add j=⟨b,o+j,Option.none⟩:=by unfold Addr.add;split<;>simp_all
  rw[hadd];exact hc j (by rw[h.1]at hj;exact hj)
theorem Bs.first {P:Program} (h:Bs w A n xs) (c:Nat):(Builtin.firstCells 1 n (.slice A n c)).run P w.drew= .ok (c8 xs).toArray w.drew:=by
 rcases Nat.eq_zero_or_pos n with rfl | hp
 ·have:xs=[]:=zw19 h.1
  subst this;rcases A with _ | a
  ·exact run_firstCells_none w.drew 1 0 0 c
  ·exact run_firstCells_some w.drew 1 0 _ _ _ [] (by simp) (fun j u hu=>by simp at hu)
 ·obtain⟨b,o,rfl,_,hc⟩:=h.2.2 hp
  refine run_firstCells_some w.drew 1 n _ _ _ _ (by rw[c8_len,h.1,Nat.mul_one]) (fun j u hu=>?_);obtain⟨hj,rfl⟩:=c8_get hu;have hadd:(⟨b,o,Option.none⟩:Addr).add j=⟨b,o+j,Option.none⟩:=by unfold Addr.add;split<;>simp_all
  rw[hadd];have:=hc j (by rw[h.1]at hj;exact hj)
  simpa using this
def strOf (xs:List Nat):ByteArray:=⟨(xs.map UInt8.ofNat).toArray⟩
theorem strOf_nums (xs:List Nat):strOfNums (xs.map fun(x:Nat)=>(x:Int))=strOf xs:=by
 unfold strOfNums strOf;rw[List.map_map];rfl
theorem strOf_app (xs ys:List Nat):strOf (xs++ys)=strOf xs++strOf ys:=by
 apply ByteArray.ext;rw[ByteArray.data_append];simp[strOf]
theorem strOf_size (xs:List Nat):(strOf xs).size=xs.length:=by simp[strOf,ByteArray.size]
theorem strOf_inj {xs ys:List Nat} (hx:∀j,xs.getD j 0<256) (hy:∀j,ys.getD j 0<256) (h:strOf xs=strOf ys):xs=ys:=by
 have h1:xs.map UInt8.ofNat=ys.map UInt8.ofNat:=by
  have:=congrArg (fun s=>s.data.toList) h
  simpa [strOf]using this
 have h2:=congrArg (List.map UInt8.toNat) h1;have key:∀zs:List Nat,(∀j,zs.getD j 0<256)→(zs.map UInt8.ofNat).map UInt8.toNat=zs:=fun zs hz=>by
  rw[List.map_map]
  conv=>rhs;rw[←List.map_id zs]
  refine List.map_congr_left fun c hc=>?_;have:=mem_small hz c hc;show(UInt8.ofNat c).toNat=c;rw[UInt8.toNat_ofNat',Nat.mod_eq_of_lt this]
 rwa [key xs hx,key ys hy]at h2
theorem Bs.conv {P:Program} (h:Bs w A n xs) (src e dst:TypeId) (hs:P.underlying src=some (.slice e)) (he:P.underlying e=some (.int .u8)) (hd:P.underlying dst=some .string) (c:Nat):
  (convert src dst (.slice A n c)).run P w= .ok (.string (strOf xs)) w:=by
 rcases Nat.eq_zero_or_pos n with rfl | hp
 ·have:xs=[]:=zw19 h.1
  subst this;rcases A with _ | a
  ·exact run_convert_bytes_nil w src e hs he 0 c dst hd
  ·have:=run_convert_bytes_back w src dst e a c [] hs he hd (fun j hj=>absurd hj (by simp))
   exact this
 ·obtain⟨b,o,rfl,_,hc⟩:=h.2.2 hp
  have:=run_convert_bytes_arg (P:=P) w src e hs he b o n c (xs.map fun(x:Nat)=>(x:Int)) (by rw[zw4];exact h.1) (fun i hi=>by
   have hl:=h.1;rw[hc i hi,zw5,zw5,List.getElem?_map,zw6 (by omega)];rfl) dst hd
  rwa [strOf_nums]at this
def natsOf (s:ByteArray):List Nat:=s.data.toList.map UInt8.toNat
theorem natsOf_small (s:ByteArray):∀j,(natsOf s).getD j 0<256:=small_mem fun c hc=>by
 obtain⟨b,_,rfl⟩:=List.mem_map.1 hc;exact b.toNat_lt
theorem natsOf_len (s:ByteArray):(natsOf s).length=s.size:=by
 unfold natsOf;rw[zw4,Array.length_toList];rfl
theorem byteCells_eq (s:ByteArray):byteCells s=c8 (natsOf s):=by
 unfold byteCells c8 natsOf;rw[List.map_map];rfl
theorem strOf_nats (s:ByteArray):strOf (natsOf s)=s:=by
 apply ByteArray.ext;unfold strOf natsOf;rw[List.map_map];have:(UInt8.ofNat ∘ UInt8.toNat)=id:=by funext b;simp
 rw[this,List.map_id]
theorem nats_strOf {xs:List Nat} (hx:∀j,xs.getD j 0<256):natsOf (strOf xs)=xs:=
 strOf_inj (natsOf_small _) hx (strOf_nats _)
end
def IsRow (w:World) (a:Option Addr) (len cap:Nat) (zs:List Int):Prop:=
 (a=none∧len=0∧cap=0∧zs=[])∨
 ∃x,a=some x∧len≤cap∧cap≤maxLen∧zs.length=cap∧(∀i,i<zs.length→w.cell? (x.add i)=some (.int .u8 (zs.getD i 0)))∧∀n∈zs,(Lit.int .u8 n).wf=true
end Go.Proofs.YtbopblbhjcemaaaGreatDoor
namespace Go.Proofs.YtbopblbhjcemaaaGreatDoor.Wire
def vb (n:Nat):List Nat:=if h:n<128 then [n]else(n%128+128)::vb (n/128)
termination_by n
decreasing_by omega
theorem vb_small {n:Nat} (h:n<128):vb n=[n]:=by rw[vb,dif_pos h]
theorem vb_more {n:Nat} (h:¬n<128):vb n=(n%128+128)::vb (n/128):=by rw[vb,dif_neg h]
theorem vb_pos (n:Nat):1≤(vb n).length:=by
 by_cases h1:n<128
 ·rw[vb_small h1];simp
 ·rw[vb_more h1];simp
theorem vb_len (k:Nat):∀n,n<128 ^(k+1)→(vb n).length≤k+1:=by
 induction k with
 | zero=>intro n h;rw[vb_small (by simpa using h)];simp
 | succ k ih=>
  intro n h;by_cases h1:n<128
  ·rw[vb_small h1];simp
  ·rw[vb_more h1,zw3]
   have:=ih (n/128) (by
    rw[Nat.pow_succ]at h;exact Nat.div_lt_of_lt_mul (by rw[Nat.mul_comm];exact h))
   omega
theorem vb_ten {n:Nat} (h:n<18446744073709551616):(vb n).length≤10:=vb_len 9 n (Nat.lt_trans h (by decide))
theorem vb_mem (n:Nat):∀c∈vb n,c<256:=by
 induction n using Nat.strongRecOn with
 | _ n ih=>
  intro c hc;by_cases h1:n<128
  ·rw[vb_small h1]at hc;simp at hc;omega
  ·rw[vb_more h1]at hc
   rcases zw30.1 hc with rfl | hc
   ·omega
   ·exact ih (n/128) (by omega) c hc
theorem vb_byte (n:Nat):∀j,(vb n).getD j 0<256:=small_mem (vb_mem n)
inductive VR where
 | short
 | form
 | ok (v k:Nat)
def vr (size acc:Nat):List Nat→VR
 | []=> .short
 | c::cs=>
  if (size=9∧1<c)∨(0<size∧c=0)then .form
  else if c<128 then .ok (acc+c*128 ^size) (size+1)
  else vr (size+1) (acc+(c-128)*128 ^size) cs
theorem pow_split {s:Nat} (h:s≤8):2 ^(64-7*s)=128*2 ^(64-7*(s+1)):=by
 rw[show 64-7*s=7+(64-7*(s+1))from by omega,Nat.pow_add]
theorem pow_eight {s:Nat} (h:s≤8):128<2 ^(64-7*s):=by
 have:2 ^8≤2 ^(64-7*s):=Nat.pow_le_pow_right (by omega) (by omega);omega
theorem vr_vb (m:Nat):∀(size acc:Nat) (ys:List Nat),size≤9→m<2 ^(64-7*size)→(0<size→0<m)→vr size acc (vb m++ys)= .ok (acc+m*128 ^size) (size+(vb m).length):=by
 induction m using Nat.strongRecOn with
 | _ m ih=>
  intro size acc ys hs hm hz;by_cases h1:m<128
  ·rw[vb_small h1]
   show vr size acc (m::ys)=_;rw[vr,if_neg,if_pos h1]
   ·rfl
   ·rintro (⟨rfl,h⟩ | ⟨h,rfl⟩)
    ·simp at hm;omega
    ·exact absurd (hz h) (by omega)
  ·have h8:size≤8:=by
    rcases Nat.lt_or_ge 8 size with h | h
    ·obtain rfl:size=9:=by omega
     simp at hm;omega
    ·exact h
   rw[vb_more h1];show vr size acc ((m%128+128)::(vb (m/128)++ys))=_;rw[vr,if_neg (by omega),if_neg (by omega),ih (m/128) (by omega) _ _ _ (by omega) _ (by omega)]
   ·rw[zw3]
    congr 1
    ·rw[Nat.add_sub_cancel,Nat.pow_succ,Nat.add_assoc,←Nat.mul_assoc,Nat.mul_right_comm,←Nat.add_mul]
     congr 2
     omega
    ·omega
   ·rw[pow_split h8]at hm;omega
theorem vr_put {m:Nat} (h:m<18446744073709551616) (ys:List Nat):vr 0 0 (vb m++ys)= .ok m (vb m).length:=by
 rw[vr_vb m 0 0 ys (by omega) (by simpa using h) (by omega)];simp
theorem vr_of (xs:List Nat):∀(size acc v k:Nat),(∀c∈xs,c<256)→size≤9→vr size acc xs= .ok v k→
  ∃m,v=acc+m*128 ^size∧k=size+(vb m).length∧vb m=xs.take (vb m).length∧m<2 ^(64-7*size)∧(0<size→0<m):=by
 induction xs with
 | nil=>intro size acc v k _ _ h;cases h
 | cons c cs ih=>
  intro size acc v k hb hs h;have hc:=hb c (by simp);rw[vr]at h;by_cases h1:(size=9∧1<c)∨(0<size∧c=0)
  ·rw[if_pos h1]at h;cases h
  ·rw[if_neg h1]at h
   by_cases h2:c<128
   ·rw[if_pos h2]at h
    cases h
    refine⟨c,rfl,by rw[vb_small h2];rfl,by rw[vb_small h2];rfl,?_,by omega⟩;by_cases h9:size=9
    ·subst h9;simp;omega
    ·have:=pow_eight (s:=size) (by omega);omega
   ·rw[if_neg h2]at h
    have h8:size≤8:=by omega
    obtain⟨m,e1,e2,e3,e4,e5⟩:=ih (size+1) _ v k (fun d hd=>hb d (by simp[hd])) (by omega) h;have hm0:=e5 (by omega);have hd1:((c-128)+128*m)%128=c-128:=by omega
    have hd2:((c-128)+128*m)/128=m:=by omega
    have hv:vb ((c-128)+128*m)=c::vb m:=by
     rw[vb_more (by omega),hd1,hd2,show c-128+128=c from by omega]
    refine⟨(c-128)+128*m,?_,?_,?_,?_,by omega⟩
    ·rw[e1,Nat.add_mul,Nat.pow_succ]
     rw[show 128*m*128 ^size=m*(128 ^size*128)from by rw[Nat.mul_comm 128 m,Nat.mul_assoc,Nat.mul_comm 128]];omega
    ·rw[hv,zw3];omega
    ·rw[hv,zw3,List.take_succ_cons,←e3]
    ·rw[pow_split h8];omega
theorem vr_ok {xs:List Nat} {v k:Nat} (hb:∀c∈xs,c<256) (h:vr 0 0 xs= .ok v k):vb v=xs.take k∧k=(vb v).length∧v<18446744073709551616∧k≤xs.length:=by
 obtain⟨m,e1,e2,e3,e4,_⟩:=vr_of xs 0 0 v k hb (by omega) h;have hv:v=m:=by simpa using e1
 subst hv;have hk:k=(vb v).length:=by omega
 refine⟨by rw[hk];exact e3,hk,by simpa using e4,?_⟩;have:=congrArg List.length e3;rw[zw2]at this;omega
def zz (m:Int):Nat:=(if 0≤m then 2*m else-2*m-1).toNat
def uz (n:Nat):Int:=if n%2=0 then(n/2:Nat)else-((n/2:Nat):Int)-1
def fx (n:Nat):List Nat:=[n/16777216,n/65536%256,n/256%256,n%256]
theorem fx_mem {n:Nat} (h:n<4294967296):∀c∈fx n,c<256:=by
 intro c hc;simp only[fx,zw30,List.not_mem_nil,or_false]at hc;omega
theorem info8:(Tryz.prog.info? 5).map (fun i=>(i.zero,i.size,i.bytes))=some (some (.int .u8 0),1,1):=by kernel_rfl
def Own (W w:World) (v:Value) (zs:List Nat):Prop:=w.ownsRow W.heap.size 5 1 v zs.length (c8 zs)
def Acc (W w:World) (v:Value) (zs:List Nat):Prop:=(∃A,v= .slice A zs.length zs.length∧Bs w A zs.length zs)∨Own W w v zs
theorem own_ext {w w':World} {base:Nat} {e:TypeId} {size n:Nat} {v:Value} {xs:List Value} (h:w.ownsRow base e size v n xs) (hb:Ext w w'):w'.ownsRow base e size v n xs:=
 h.kept (row:=none) ⟨hb.os,hb.tape,hb.output,hb.size,fun k hk _=>hb.block k hk⟩ (by cases hv:v.ownBlock<;>simp)
theorem Own.ext {W w w':World} {v:Value} {zs:List Nat} (h:Own W w v zs) (hb:Ext w w'):Own W w' v zs:=own_ext h hb
theorem Acc.ext {W w w':World} {v:Value} {zs:List Nat} (h:Acc W w v zs) (hb:Ext w w'):Acc W w' v zs:=by
 rcases h with ⟨A,e,h⟩ | h
 ·exact .inl ⟨A,e,h.ext hb⟩
 ·exact .inr (h.ext hb)
theorem wpList_acc {W w:World} {ops:Array Oper} {rest:List Oper} {o:Oper} {a:Act} {Q:Exit→Act→World→Prop} (hgd:o.guard=none) (s x:Operand) (tx:TypeId)
  (ho:o.op= .call {callee:= .builtin .append,args:= #[s,x],argTypes:= #[22,tx]}) (v vx:Value) (zs ys:List Nat) (hs:a.eval s=v) (hx:a.eval x=vx) (hA:Acc W w v zs) (hE:Ext W w)
  (hsrc:Src Tryz.prog 1 tx vx ys.length (c8 ys) w) (hy:0<ys.length) (hb:zs.length+ys.length≤140737488355328)
  (h:∀v' w',Own W w' v' (zs++ys)→Ext W w'→wpList Tryz.prog ops Q rest (a.put o.dst v') w'):wpList Tryz.prog ops Q (o::rest) a w:=by
 obtain⟨i0,hi0,hz0,hz1,hz2⟩:=info_parts info8;have h1:zs.length+ys.length≤maxLen:=by unfold maxLen;omega
 rcases hA with ⟨A,rfl,hB⟩ | hO
 ·refine wpList_app_grow hgd s x 22 tx ho 5 i0 (.int .u8 0) 1 1 Tryz.underlying22 hi0 hz0 hz1 hz2 rfl W.heap.size A zs.length zs.length vx (c8 zs) hs hx (by rw[c8_len,Nat.mul_one]) (hB.first _) ys.length (c8 ys) hsrc (by omega) h1 (by omega) hE.size ?_
  intro v' w' h2 h3;exact h v' w' (by unfold Own;rw[zw0,c8_app];exact h2) (zxt hE h3)
 ·refine wpList_app_own hgd s x 22 tx ho 5 i0 (.int .u8 0) 1 1 Tryz.underlying22 hi0 hz0 hz1 hz2 rfl W.heap.size v vx zs.length (c8 zs) hs hx hO ys.length (c8 ys) hsrc h1 (by omega) hE.size ?_
  intro v' w' h2 h3;exact h v' w' (by unfold Own;rw[zw0,c8_app];exact h2) (ext_grown hE h3 (own_ge hO))
theorem wpList_own {W w:World} {ops:Array Oper} {rest:List Oper} {o:Oper} {a:Act} {Q:Exit→Act→World→Prop} (hgd:o.guard=none) (s x:Operand) (tx:TypeId)
  (ho:o.op= .call {callee:= .builtin .append,args:= #[s,x],argTypes:= #[22,tx]}) (v vx:Value) (zs ys:List Nat) (hs:a.eval s=v) (hx:a.eval x=vx) (hO:Own W w v zs) (hE:Ext W w)
  (hsrc:Src Tryz.prog 1 tx vx ys.length (c8 ys) w) (hb:zs.length+ys.length≤140737488355328)
  (h:∀v' w',Own W w' v' (zs++ys)→Ext W w'→wpList Tryz.prog ops Q rest (a.put o.dst v') w'):wpList Tryz.prog ops Q (o::rest) a w:=by
 obtain⟨i0,hi0,hz0,hz1,hz2⟩:=info_parts info8;have h1:zs.length+ys.length≤maxLen:=by unfold maxLen;omega
 refine wpList_app_own hgd s x 22 tx ho 5 i0 (.int .u8 0) 1 1 Tryz.underlying22 hi0 hz0 hz1 hz2 rfl W.heap.size v vx zs.length (c8 zs) hs hx hO ys.length (c8 ys) hsrc h1 (by omega) hE.size ?_;intro v' w' h2 h3;exact h v' w' (by unfold Own;rw[zw0,c8_app];exact h2) (ext_grown hE h3 (own_ge hO))
def Puts (w:World) (zs:List Nat) (e:Ending) (w':World):Prop:=
 ∃g c,e= .returned (.slice (some ⟨g,0,none⟩) zs.length c)∧zs.length≤c∧c≤maxLen∧w.heap.size≤g∧Own w w' (.slice (some ⟨g,0,none⟩) zs.length c) zs∧Ext w w'
theorem puts_of {w w':World} {zs:List Nat} {v:Value} (h:Own w w' v zs) (hE:Ext w w') (hp:0<zs.length):Puts w zs (.returned v) w':=by
 obtain⟨A,c,rfl,h1,h2,h3⟩:=own_shape h;obtain⟨g,rfl,h4⟩:=h3 hp;exact⟨g,c,rfl,h1,h2,h4,h,hE⟩
theorem apart_any (A:Option Addr) (n c:Nat) (w:World) (hnil:A=none→n=0∧c=0) (hn:n≤c) (hc:c≤9223372036854775807):Calls Tryz.prog 90 #[.slice A n c] w fun e w'=>e= .returned (.slice A n n)∧w=w':=by
 rcases A with _ | a
 ·obtain⟨rfl,rfl⟩:=hnil rfl
  clear hnil;go_enter Tryz.func90,Tryz.ntmps90
  go_wp2
  go_ret;exact⟨rfl,rfl⟩
 ·clear hnil
  go_enter Tryz.func90,Tryz.ntmps90
  go_wp2
  go_ret;exact⟨rfl,rfl⟩
theorem or_eq:∀x:Nat,x<256→bits BinOp.or IntKind.u8 (x:Int) 128=((x%128+128:Nat):Int):=by decide+kernel
def PRel (W:World) (xs:List Nat) (n0:Nat) (bv nv:Value) (wr:World):Prop:=
 ∃(ys:List Nat) (m:Nat),ys++vb m=vb n0∧m≤n0∧nv= .int .u64 (m:Int)∧Acc W wr bv (xs++ys)∧Ext W wr
theorem src_one (w:World) (y:Nat):Src Tryz.prog 1 22 (.slice (some ⟨w.heap.size,0,none⟩) 1 1) [y].length (c8 [y]) (w.alloc (.cells #[.int .u8 (y:Int)] 5)):=
 Src.ofSlice _ Tryz.underlying22 _ 1 1 _ (by simp[c8]) (fun j u hu=>by
  obtain⟨hj,rfl⟩:=c8_get hu;have:j=0:=by simpa using hj
  subst this;have hadd:(⟨w.heap.size,0,none⟩:Addr).add 0=⟨w.heap.size,0,none⟩:=rfl;rw[hadd];simp) (c8_one _)
theorem put (A:Option Addr) (n c:Nat) (xs:List Nat) (n0:Nat) (h0:n0<18446744073709551616) (w:World) (hB:Bs w A n xs) (hnil:A=none→n=0∧c=0) (hn:n≤c) (hc:c≤9223372036854775807) (hn4:n≤4000000000):
  Calls Tryz.prog 53 #[.slice A n c,.int .u64 (n0:Int)] w (Puts w (xs++vb n0)):=by
 have h10:=vb_ten h0;have HP:=zh (vb_pos n0);have HAC:Hid (Acc w w (.slice A n n) (xs++[])):=zh (by rw[zw18];exact .inl ⟨A,by rw[hB.1],by rw[hB.1];exact hB⟩);have hxl:xs.length≤4000000000:=by rw[hB.1];exact hn4
 have HCT:=zh (apart_any A n c w hnil hn hc);clear h0 hB hnil hn hc hn4;go_enter Tryz.func53,Tryz.ntmps53;go_wp2_with fail;refine(HCT.out).mono ?_;rintro e w1 ⟨rfl,rfl⟩;go_wp2_with fail
 go_loopw [0,1] (fun bv nv wr=>PRel w xs n0 bv nv wr) (fun _ nv _=>(intOf nv).toNat)
 case atStart=>exact⟨[],n0,rfl,zw8 _,rfl,HAC.out,zxr _⟩
 case round=>
  obtain⟨ys,m,hj,hm,rfl,hacc,ex⟩:=hrel;have hlen:ys.length≤9:=by
   have:=congrArg List.length hj;rw[zw0]at this;have:=vb_pos m;omega
  have HJ:=zh hj;clear hj;have HAC:=zh hacc;clear hacc;have HE:=zh ex;clear ex;have HL:Hid ((xs++ys).length+1≤140737488355328):=zh (by rw[zw0];omega);by_cases hlt:m<128
  ·have HAC2:=zh (HAC.out.ext (zxa (zxr _) (.cells #[.int .u8 (m:Int)] 5)))
   have HE2:=zh (zxa HE.out (.cells #[.int .u8 (m:Int)] 5));have HF:Hid (xs++ys++[m]=xs++vb n0):=zh (by rw[zw7,←HJ.out,vb_small hlt]);go_wp2_with (first | (at_builtin;refine wpList_acc (W:=w) rfl (.tmp 17) (.tmp 20) 22 rfl u0 (.slice (some ⟨wr.heap.size,0,none⟩) 1 1) (xs++ys) [m] rfl rfl HAC2.out HE2.out (src_one wr m) (Nat.zero_lt_one) HL.out ?_;intro v1 w1 hown1 hE1))
   rw[HF.out]at hown1;go_ret;exact puts_of hown1 hE1 (by rw[zw0];have:=HP.out;omega)
  ·obtain⟨yb,hyb⟩:∃y,y=m%128+128:=⟨_,rfl⟩
   have e1:bits BinOp.or IntKind.u8 ((m:Int)%256) 128=(yb:Int):=by
    have:=or_eq (m%256) (by omega);rw[show m%256%128=m%128 from by omega,←hyb]at this;rw[←this];rfl
   have HY:=zh hyb;clear hyb;have HAC2:=zh (HAC.out.ext (zxa (zxr _) (.cells #[.int .u8 (yb:Int)] 5)));have HE2:=zh (zxa HE.out (.cells #[.int .u8 (yb:Int)] 5));have HF:Hid ((ys++[yb])++vb (m/128)=vb n0):=zh (by rw[zw7,←HJ.out,vb_more hlt,HY.out];rfl);go_wp2_with (first | (at_builtin;refine wpList_acc (W:=w) rfl (.tmp 9) (.tmp 13) 22 rfl u0 (.slice (some ⟨wr.heap.size,0,none⟩) 1 1) (xs++ys) [yb] rfl rfl HAC2.out HE2.out (src_one wr yb) (Nat.zero_lt_one) HL.out ?_;intro v1 w1 hown1 hE1))
   go_roundw
   case rel=>exact⟨ys++[yb],m/128,HF.out,by omega,by go_num,.inr (by rw[←zw7];exact hown1),hE1⟩
   case measure=>simp[intOf];omega
theorem Own.bs {W w:World} {A:Option Addr} {c:Nat} {zs:List Nat} (h:Own W w (.slice A zs.length c) zs) (hz:∀j,zs.getD j 0<256):Bs w A zs.length zs:=Bs.own h hz
theorem putText (A:Option Addr) (n c:Nat) (xs:List Nat) (s:ByteArray) (w:World) (hB:Bs w A n xs) (hnil:A=none→n=0∧c=0) (hn:n≤c) (hc:c≤9223372036854775807) (hn4:n≤4000000000) (hs:s.size≤1000000000):
  Calls Tryz.prog 49 #[.slice A n c,.string s] w (Puts w (xs++vb s.size++natsOf s)):=by
 have H:=zh (put A n c xs s.size (by omega) w hB hnil hn hc hn4);have HX:Hid (xs.length≤4000000000):=zh (by rw[hB.1];exact hn4);have HV:=zh (vb_ten (n:=s.size) (by omega));have HP:=zh (vb_pos s.size);clear hB hnil hn hc hn4;go_enter Tryz.func49,Tryz.ntmps49;go_wp2_with fail;refine(H.out).mono ?_;rintro e w1 ⟨g,c1,rfl,hc1,hc2,hg,ho,hE⟩;have HOW:=zh ho;have HE:=zh hE;clear ho hE;have HLN:Hid ((xs++vb s.size).length+s.size≤140737488355328):=zh (by rw[zw0];have:=HX.out;have:=HV.out;omega);generalize hzs:xs++vb s.size=zs at*;have HZS:=zh hzs;clear hzs;have HS:Hid (Src Tryz.prog 1 9 (.string s) (natsOf s).length (c8 (natsOf s)) w1):=zh (by rw[natsOf_len,←byteCells_eq];exact Src.ofString w1 Tryz.underlying9 s);have HQ:Hid (zs.length+(natsOf s).length≤140737488355328):=zh (by rw[natsOf_len];exact HLN.out);go_wp2_with (first | (at_builtin;refine wpList_own (W:=w) rfl (.tmp 9) (.tmp 10) 9 rfl (.slice (some ⟨g,0,none⟩) zs.length c1) (.string s) zs (natsOf s) rfl rfl HOW.out HE.out HS.out HQ.out ?_;intro v2 w2 hown2 hE2))
 go_ret;exact puts_of hown2 hE2 (by rw[←HZS.out,zw0,zw0];have:=HP.out;omega)
theorem src_row (w:World) (ys:List Nat) (n c:Nat) (hn:n=ys.length):Src Tryz.prog 1 22 (.slice (some ⟨w.heap.size,0,none⟩) n c) ys.length (c8 ys) (w.alloc (.cells (c8 ys).toArray 5)):=by
 subst hn;exact Src.ofSlice _ Tryz.underlying22 _ _ c _ (by rw[c8_len,Nat.mul_one]) (fun j u hu=>by
  have hadd:(⟨w.heap.size,0,none⟩:Addr).add j=⟨w.heap.size,j,none⟩:=by unfold Addr.add;split<;>simp_all
  rw[hadd];simpa using hu) (c8_one _)
theorem src_fx (w:World) (m:Nat):Src Tryz.prog 1 22 (.slice (some ⟨w.heap.size,0,none⟩) 4 4) (fx m).length (c8 (fx m)) (w.alloc (.cells #[.int .u8 ((m:Int)/16777216),.int .u8 ((m:Int)/65536%256),.int .u8 ((m:Int)/256%256),.int .u8 ((m:Int)%256)] 5)):=by
 have h:=src_row w (fx m) 4 4 rfl;have e:(c8 (fx m)).toArray= #[.int .u8 ((m:Int)/16777216),.int .u8 ((m:Int)/65536%256),.int .u8 ((m:Int)/256%256),.int .u8 ((m:Int)%256)]:=by simp[c8,fx]
 rwa [e]at h
theorem putFixed (A:Option Addr) (n c:Nat) (xs:List Nat) (m:Nat) (h0:m<4294967296) (w:World) (hB:Bs w A n xs) (hnil:A=none→n=0∧c=0) (hn:n≤c) (hc:c≤9223372036854775807) (hn4:n≤4000000000):
  Calls Tryz.prog 51 #[.slice A n c,.int .u32 (m:Int)] w (Puts w (xs++fx m)):=by
 have HAC:Hid (Acc w w (.slice A n n) xs):=zh (.inl ⟨A,by rw[hB.1],by rw[hB.1];exact hB⟩);have hxl:xs.length≤4000000000:=by rw[hB.1];exact hn4
 have HCT:=zh (apart_any A n c w hnil hn hc);clear hB hnil hn hc hn4;go_enter Tryz.func51,Tryz.ntmps51;go_wp2_with fail;refine(HCT.out).mono ?_;rintro e w1 ⟨rfl,rfl⟩;have HSR:=zh (src_fx w m);have HAC2:=zh (HAC.out.ext (zxa (zxr w) (.cells #[.int .u8 ((m:Int)/16777216),.int .u8 ((m:Int)/65536%256),.int .u8 ((m:Int)/256%256),.int .u8 ((m:Int)%256)] 5)));have HE2:=zh (zxa (zxr w) (.cells #[.int .u8 ((m:Int)/16777216),.int .u8 ((m:Int)/65536%256),.int .u8 ((m:Int)/256%256),.int .u8 ((m:Int)%256)] 5));have HQ:Hid (xs.length+(fx m).length≤140737488355328):=zh (by show xs.length+4≤_;omega);have H4:Hid (0<(fx m).length):=zh (by show 0<4;omega);generalize fx m=ys at*;go_wp2_with (first | (at_builtin;refine wpList_acc (W:=w) rfl (.tmp 6) (.tmp 18) 22 rfl (.slice A n n) (.slice (some ⟨w.heap.size,0,none⟩) 4 4) xs ys rfl rfl HAC2.out HE2.out HSR.out H4.out HQ.out ?_;intro v2 w2 hown2 hE2))
 go_ret;exact puts_of hown2 hE2 (by rw[zw0];have:=H4.out;omega)
theorem wp_still {P:Program} {id:Nat} {Q:Exit→Act→World→Prop} {a:Act} {w:World} {l:List Oper} (hm:P.follows .mixedOrders=true) (hB:Region.lexB .any l.toArray=true)
  (h:wpStill P l.toArray w.drew (fun a'=>Q .normal a' w.drew) l a):(Code.region id l.toArray true).wp P Q a w:=wp_region_still_lit hm hB h
theorem gb_refl (w:World) (row:Option Nat):w.grownBy w row:=⟨rfl,rfl,rfl,zw8 _,fun _ _ _=>rfl⟩
theorem gb_trans {a b c:World} {row:Option Nat} (h:a.grownBy b row) (k:b.grownBy c row):a.grownBy c row:=
 ⟨k.os.trans h.os,k.tape.trans h.tape,k.output.trans h.output,zw10 h.size k.size,fun i hi hne=>(k.block i (zw9 hi h.size) hne).trans (h.block i hi hne)⟩
theorem gb_ext {a b:World} (h:Ext a b) (row:Option Nat):a.grownBy b row:=⟨h.os,h.tape,h.output,h.size,fun k hk _=>h.block k hk⟩
theorem gb_set (w:World) (g i:Nat) (v:Value):w.grownBy (w.setCell ⟨g,i,none⟩ v) (some g):=
 ⟨rfl,rfl,rfl,by simp[World.setCell],fun k _ hk=>zw46 w ⟨g,i,none⟩ v k (fun e=>hk (by rw[e]))⟩
def Rdr (w:World) (g:Nat) (s:Value) (at_:Nat) (e:Int):Prop:=Blk w g 164 #[s,.int .i64 (at_:Int),.int .i64 e]
def Eff (w w':World) (g:Nat) (s:Value) (at_:Nat) (e:Int):Prop:=Rdr w' g s at_ e∧w.grownBy w' (some g)
theorem Eff.trans {a b c:World} {g:Nat} {s s':Value} {i j:Nat} {e f:Int} (h:Eff a b g s i e) (k:Eff b c g s' j f):Eff a c g s' j f:=⟨k.1,gb_trans h.2 k.2⟩
theorem Rdr.ext {w w':World} {g:Nat} {s:Value} {i:Nat} {e:Int} (h:Rdr w g s i e) (hb:Ext w w'):Rdr w' g s i e:=Blk.ext h hb
theorem Rdr.eff {w w':World} {g:Nat} {s:Value} {i:Nat} {e:Int} (h:Rdr w g s i e) (hb:Ext w w'):Eff w w' g s i e:=⟨h.ext hb,gb_ext hb _⟩
theorem Eff.ext {a b c:World} {g:Nat} {s:Value} {i:Nat} {e:Int} (h:Eff a b g s i e) (hb:Ext b c):Eff a c g s i e:=h.trans (h.1.eff hb)
theorem Rdr.cells {w:World} {g:Nat} {s:Value} {i:Nat} {e:Int} (h:Rdr w g s i e):w.cell? ⟨g,0,none⟩=some s∧w.cell? ⟨g,1,none⟩=some (.int .i64 (i:Int))∧w.cell? ⟨g,2,none⟩=some (.int .i64 e)∧w.frozen? ⟨g,1,none⟩=false∧w.frozen? ⟨g,2,none⟩=false:=
 ⟨Blk.cell h 0,Blk.cell h 1,Blk.cell h 2,Blk.frozen h 1,Blk.frozen h 2⟩
theorem Rdr.setErr {w:World} {g:Nat} {s:Value} {i:Nat} {e:Int} (h:Rdr w g s i e) (f:Int):Eff w (w.setCell ⟨g,2,none⟩ (.int .i64 f)) g s i f:=
 ⟨Blk.set_ h 2 _,gb_set w g 2 _⟩
theorem Rdr.setAt {w:World} {g:Nat} {s:Value} {i:Nat} {e:Int} (h:Rdr w g s i e) (j:Nat):Eff w (w.setCell ⟨g,1,none⟩ (.int .i64 (j:Int))) g s j e:=
 ⟨Blk.set_ h 1 _,gb_set w g 1 _⟩
theorem and127:∀x:Nat,x<256→bits BinOp.and IntKind.u8 (x:Int) 127=((x%128:Nat):Int):=by decide+kernel
theorem or64 (a b:Nat):bits .or .u64 (a:Int) (b:Int)=((BitVec.ofNat 64 a ||| BitVec.ofNat 64 b).toNat:Int):=by
 show IntKind.u64.wrap ((BitVec.ofInt 64 (a:Int) ||| BitVec.ofInt 64 (b:Int)).toNat:Int)=_;rw[BitVec.ofInt_natCast,BitVec.ofInt_natCast];have:=(BitVec.ofNat 64 a ||| BitVec.ofNat 64 b).isLt;rw[IntKind.wrap_u64];omega
theorem pow128 (s:Nat):2 ^(7*s)=128 ^s:=by rw[Nat.pow_mul]
theorem pow128_le {s:Nat} (h:s≤8):128 ^s≤72057594037927936:=by
 have:128 ^s≤128 ^8:=Nat.pow_le_pow_right (by omega) h
 simpa using this
theorem or_val (acc size cb:Nat) (hs:size≤9) (hacc:acc<128 ^size) (hcb:cb<256):
  ∃z:Nat,z<18446744073709551616∧bits BinOp.or IntKind.u64 (acc:Int) (IntKind.u64.wrap (IntKind.u64.wrap (bits BinOp.and IntKind.u8 (cb:Int) 127)*2 ^(7*size)))=(z:Int)∧
   (size≤8∨cb≤1→z=acc+(cb%128)*128 ^size):=by
 have e1:IntKind.u64.wrap (bits BinOp.and IntKind.u8 (cb:Int) 127)=((cb%128:Nat):Int):=by rw[and127 cb hcb,IntKind.wrap_u64];omega
 have e2:(((cb%128:Nat):Int)*2 ^(7*size))=(((cb%128)*128 ^size:Nat):Int):=by
  rw[Int.natCast_mul,←pow128,Int.natCast_pow];rfl
 have e3:IntKind.u64.wrap ((((cb%128)*128 ^size:Nat)):Int)=((((cb%128)*128 ^size)%18446744073709551616:Nat):Int):=by rw[IntKind.wrap_u64];omega
 rw[e1,e2,e3,or64];have hl:128 ^size≤128 ^9:=Nat.pow_le_pow_right (by omega) hs;have hl2:(128:Nat) ^9=9223372036854775808:=by decide
 refine⟨_,(BitVec.ofNat 64 acc ||| BitVec.ofNat 64 ((cb%128)*128 ^size%18446744073709551616)).isLt,rfl,fun h=>?_⟩;have hsm:(cb%128)*128 ^size<18446744073709551616:=by
  rcases h with h | h
  ·have h8:=pow128_le h
   have:(cb%128)*128 ^size≤127*72057594037927936:=Nat.mul_le_mul (by omega) h8;omega
  ·have:(cb%128)*128 ^size≤1*9223372036854775808:=Nat.mul_le_mul (by omega) (by omega)
   omega
 rw[BitVec.toNat_or,BitVec.toNat_ofNat,BitVec.toNat_ofNat,Nat.mod_eq_of_lt hsm,Nat.mod_eq_of_lt (show acc<2 ^64 by omega),Nat.mod_eq_of_lt (show(cb%128)*128 ^size<2 ^64 by omega)];have:=Nat.shiftLeft_add_eq_or_of_lt (i:=7*size) (b:=acc) (by rw[pow128];exact hacc) (cb%128);rw[Nat.shiftLeft_eq,pow128]at this;rw[Nat.or_comm,←this,Nat.add_comm]
theorem Rdr.setAt' {w:World} {g:Nat} {s:Value} {i:Nat} {e:Int} (h:Rdr w g s i e) (j:Nat) {z:Int} (hz:z=(j:Int)):Eff w (w.setCell ⟨g,1,none⟩ (.int .i64 z)) g s j e:=by subst hz;exact h.setAt j
def VPost (w:World) (g:Nat) (s:Value) (at_:Nat) (R:VR) (e:Ending) (w':World):Prop:=
 ∃(z j:Nat) (err:Int),e= .returned (.int .u64 (z:Int))∧z<18446744073709551616∧Eff w w' g s (at_+j) err∧
  (match R with | .short=>err=3 | .form=>err=4 | .ok v k=>z=v∧j=k∧err=0)
def VRel (w:World) (xs:List Nat) (at_:Nat) (R:VR) (nv sv:Value) (wr:World):Prop:=
 ∃(size acc:Nat),size≤9∧at_+size≤xs.length∧nv= .int .u64 (acc:Int)∧sv= .int .i64 (size:Int)∧acc<128 ^size∧vr size acc (xs.drop (at_+size))=R∧Ext w wr
def RB (w:World) (g:Nat) (A:Option Addr) (n c:Nat) (xs:List Nat):Prop:=Bs w A n xs∧n≤c∧c≤9223372036854775807∧(A=none→n=0∧c=0)∧(0<n→∀a,A=some a→a.block≠g)
theorem RB.eff {w w':World} {g:Nat} {A:Option Addr} {n c:Nat} {xs:List Nat} (hB:RB w g A n c xs) (h:w.grownBy w' (some g)):RB w' g A n c xs:=by
 refine⟨?_,hB.2⟩;rcases Nat.eq_zero_or_pos n with h0 | hp
 ·subst h0
  have:xs=[]:=zw19 hB.1.1;subst this;exact Bs.none _ _
 ·exact hB.1.kept h (fun a ha=>by have:=hB.2.2.2.2 hp a ha;simpa using this)
theorem Bs.drop {w:World} {b o n:Nat} {xs:List Nat} (h:Bs w (some ⟨b,o,none⟩) n xs) (m:Nat) (hm:m≤n):Bs w (some ⟨b,o+m,none⟩) (n-m) (xs.drop m):=by
 refine⟨by rw[zw1,h.1],fun j=>?_,fun hn=>?_⟩
 ·rw[zw5,List.getElem?_drop,←zw5];exact h.2.1 _
 ·obtain⟨b',o',e,hl,hcell⟩:=h.2.2 (by omega)
  simp only[Option.some.injEq,Addr.mk.injEq,and_true]at e;obtain⟨rfl,rfl⟩:=e;refine⟨b,o+m,rfl,hl,fun j hj=>?_⟩;rw[Nat.add_assoc,hcell (m+j) (by omega)];simp[zw5,List.getElem?_drop]
def PPost (w:World) (g:Nat) (s:Value) (at_ m:Nat) (ys:List Nat) (e:Ending) (w':World):Prop:=
 ∃(A':Option Addr) (c':Nat),e= .returned (.slice A' m c')∧m≤c'∧c'≤9223372036854775807∧(A'=none→m=0∧c'=0)∧Bs w' A' m ys∧Eff w w' g s (at_+m) 0
theorem piece_nil (g:Nat) (F:Value) (w:World) (h:Rdr w g (.slice none 0 0) 0 0):
  Calls Tryz.prog 124 #[.pointer (some ⟨g,0,none⟩),.int .u64 0,F] w fun e w'=>e= .returned (.slice none 0 0)∧Eff w w' g (.slice none 0 0) 0 0:=by
 obtain⟨c0,c1',c2,f1,f2⟩:=h.cells;have c1:w.cell? ⟨g,1,none⟩=some (.int .i64 0):=c1';have H:=zh h;clear h c1';go_enter Tryz.func124,Tryz.ntmps124;go_wp2_with fail;refine wp_still (by kernel_rfl) (by kernel_rfl) ?_
 repeat still_step
 refine wpStill_nil ?_;go_wp2_with fail;refine wp_still (by kernel_rfl) (by kernel_rfl) ?_
 repeat still_step
 refine wpStill_nil ?_;go_wp2_with fail;go_ret;exact⟨rfl,(H.out.setAt' 0 rfl).ext (zxd (zxd (zxr _)))⟩
theorem piece_ok (g n c at_ m:Nat) (A:Option Addr) (F:Value) (xs:List Nat) (w:World) (h:Rdr w g (.slice A n c) at_ 0) (hB:RB w g A n c xs) (hat:at_+m≤n) (hn:n≤4000000000):
  Calls Tryz.prog 124 #[.pointer (some ⟨g,0,none⟩),.int .u64 (m:Int),F] w (PPost w g (.slice A n c) at_ m ((xs.drop at_).take m)):=by
 obtain⟨c0,c1,c2,f1,f2⟩:=h.cells;have H:=zh h;have HB:=zh hB;clear h hB;obtain⟨L,hL⟩:∃L:Nat,L=n-at_:=⟨_,rfl⟩;have hLm:¬(L:Int)<(m:Int):=by omega
 have HW1:Hid (IntKind.i64.wrap ((n:Int)-(at_:Int))=(L:Int)):=zh (by rw[IntWalk.i64_in _ (by omega)];omega);have HW2:Hid (IntKind.u64.wrap (L:Int)=(L:Int)):=zh (by rw[IntKind.wrap_u64];omega);clear hL;have b1:(0:Int)≤(at_:Int):=by omega
 have b2:(at_:Int)≤(at_:Int)+(m:Int):=by omega
 have hnc:=HB.out.2.1;have hcm:=HB.out.2.2.1;have b3:(at_:Int)+(m:Int)≤(c:Int):=by omega
 have HEF:=zh (H.out.eff (zxd (zxr _)));rcases A with _ | a
 ·obtain⟨rfl,rfl⟩:=HB.out.2.2.2.1 rfl
  obtain rfl:at_=0:=by omega
  obtain rfl:m=0:=by omega
  refine(piece_nil g F w H.out).mono ?_;rintro e w' ⟨rfl,hE⟩;exact⟨none,0,rfl,zw8 _,by omega,fun _=>⟨rfl,rfl⟩,by rw[zw29];exact Bs.none _ _,hE⟩
 ·have hmn:((at_:Int)+(m:Int)).toNat=at_+m:=by omega
  have HXX:Hid (xs.length=n):=zh HB.out.1.1;obtain⟨A',hA'⟩:∃A':Option Addr,(if c=at_ then some a else some (a.add at_))=A':=⟨_,rfl⟩;have HIF:=zh hA';clear hA';go_enter Tryz.func124,Tryz.ntmps124;go_wp2_with fail;have hw1:=HW1.out;have hw2:=HW2.out;refine wp_still (by kernel_rfl) (by kernel_rfl) ?_
  repeat still_step
  refine wpStill_nil ?_;clear hw1 hw2;go_wp2_with fail;have hif:=HIF.out;refine wp_still (by kernel_rfl) (by kernel_rfl) ?_
  repeat still_step
  refine wpStill_nil ?_;clear hif;go_wp2_with fail;go_ret;have hif:=HIF.out;have hEE:=(H.out.setAt' (at_+m) (z:=(at_:Int)+(m:Int)) (by omega)).ext (zxd (zxd (zxr _)));refine⟨A',c-at_,rfl,by omega,by omega,(fun h=>by rw[←hif]at h;split at h<;>cases h),?_,hEE⟩
  have hb:=(HB.out.eff hEE.2).1;rcases Nat.eq_zero_or_pos m with h0 | hp
  ·rw[h0,zw29];exact Bs.none _ _
  ·rw[←hif,if_neg (by omega)]
   obtain⟨b,o,e,_,_⟩:=hb.2.2 (by omega);obtain rfl:a=⟨b,o,none⟩:=zw13 e;have hadd:(⟨b,o,none⟩:Addr).add at_=⟨b,o+at_,none⟩:=by unfold Addr.add;split<;>simp_all
   rw[hadd];exact(Bs.drop hb at_ (by omega)).take (by omega)
def CP (w:World) (g:Nat) (s:Value) (Φ:Value→Nat→Int→World→Prop) (e:Ending) (w':World):Prop:=
 ∃(v:Value) (a':Nat) (err:Int),e= .returned v∧Eff w w' g s a' err∧Φ v a' err w'
def RP (w:World) (g:Nat) (s zero:Value) (at_:Nat) (Φ:Value→Nat→Int→World→Prop) (e:Ending) (w':World):Prop:=
 (∃(v:Value) (a':Nat),e= .returned v∧Eff w w' g s a' 0∧Φ v a' 0 w')∨
 (∃err:Int,err≠0∧e= .returned zero∧Eff w w' g s at_ err∧∃v0 a0 w0,Φ v0 a0 err w0)
end Go.Proofs.YtbopblbhjcemaaaGreatDoor.Wire
