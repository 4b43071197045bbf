
import Derived.Test.YtbopblbhjcemaaaGreatDoorF00
set_option maxHeartbeats 16000000
set_option maxRecDepth 100000
set_option linter.all false
open Go.ChangeShapes Go.WideShapes Go.ChangeAt Go.RowKit
namespace Go.Proofs.YtbopblbhjcemaaaGreatDoor.Map32
def Ents (l:List MapEntry) (L:List (Nat × Value)):Prop:=l.map (fun e=>(e.key,e.val))=L.map (fun p=>(Value.int .u32 (p.1:Int),p.2))∧(L.map (·.1)).Nodup
def MapR (w:World) (b:Nat) (F:Nat→Option Value):Prop:=∃es cl L,w.heap[b]? =some (.map es cl)∧Ents es.toList L∧∀k,F k=L.lookup k
theorem find32 (k : Nat) : ∀ (l : List MapEntry) (L : List (Nat × Value)) (i : Nat), l.map (fun e => (e.key, e.val)) = L.map (fun p => (Value.int .u32 (p.1 : Int), p.2)) →
    (Instr.findNow (.int .u32) (.int .u32 (k:Int)) l i=some none∧L.lookup k=none∧k∉L.map (·.1))∨
    ∃q v,Instr.findNow (.int .u32) (.int .u32 (k:Int)) l i=some (some (i+q,v))∧L[q]? =some (k,v)∧L.lookup k=some v
  | [],[],i,_=> .inl ⟨rfl,rfl,by simp⟩
  | [],_::_,_,h=>by simp at h
  | _::_,[],_,h=>by simp at h
  | e::l,(k',v')::L,i,h=>by
    simp only[List.map_cons,List.cons.injEq,Prod.mk.injEq]at h;obtain⟨⟨h1,h2⟩,h3⟩:=h;by_cases hk:k=k'
    · subst hk
      refine .inr ⟨0,v',?_,rfl,?_⟩
      · simp[Instr.findNow,h1,h2,Instr.sameNow]
      · simp[List.lookup]
    · have hne:((k:Int)==(k':Int))=false:=zw12.2 (by omega)
      have hne':(k==k')=false:=zw12.2 hk;rcases find32 k l L (i+1) h3 with ⟨a,b,c⟩ | ⟨q,v,a,b,c⟩
      · refine .inl ⟨?_,?_,?_⟩
        · rw[Instr.findNow,h1];simp only[Instr.sameNow,if_true,hne,a]
        · simp only[List.lookup,hne',b]
        · simp only[List.map_cons,zw30,not_or];exact⟨hk,c⟩
      · refine .inr ⟨q+1,v,?_,?_,?_⟩
        · rw[Instr.findNow,h1];simp only[Instr.sameNow,if_true,hne,a];rw[show i+1+q=i+(q+1)from by omega]
        · rw[List.getElem?_cons_succ,b]
        · simp only[List.lookup,hne',c]
theorem lookup_none {L:List (Nat × Value)} {k:Nat} (h:k∉L.map (·.1)):L.lookup k=none:=by
  induction L with
  | nil=>rfl
  | cons p L ih=>
    obtain⟨k',v'⟩:=p;simp only[List.map_cons,zw30,not_or]at h;simp only[List.lookup,zw12.2 h.1,ih h.2]
theorem lookup_app {L:List (Nat × Value)} {k:Nat} {v:Value} (h:k∉L.map (·.1)) (x:Nat):(L++[(k,v)]).lookup x=if x=k then some v else L.lookup x:=by
  induction L with
  | nil => by_cases hx : x = k
           · simp[hx]
           · simp[List.lookup,hx,zw12.2 hx]
  | cons p L ih=>
    obtain⟨k',v'⟩:=p;simp only[List.map_cons,zw30,not_or]at h;by_cases hx:x=k'
    · subst hx
      simp[List.lookup,Ne.symm h.1]
    · simp only[List.cons_append,List.lookup,zw12.2 hx,ih h.2]
theorem lookup_set:∀{L:List (Nat × Value)} {k q:Nat} {u v:Value} (h:(L.map (·.1)).Nodup) (hq:L[q]? =some (k,u)) (x:Nat),(L.set q (k,v)).lookup x=if x=k then some v else L.lookup x
  | [],k,q,u,v,h,hq,x=>by simp at hq
  | (k',v')::L,k,0,u,v,h,hq,x=>by
    simp only[List.getElem?_cons_zero,Option.some.injEq,Prod.mk.injEq]at hq;obtain⟨rfl,rfl⟩:=hq;by_cases hx:x=k'
    · simp[hx]
    · simp[List.lookup,hx,zw12.2 hx]
  | (k',v')::L,k,q+1,u,v,h,hq,x=>by
    simp only[List.map_cons,List.nodup_cons]at h;rw[List.getElem?_cons_succ]at hq;have hne:k'≠k:=fun e=>h.1 (e▸List.mem_map_of_mem (f:=(·.1)) (List.mem_of_getElem? hq));rw[List.set_cons_succ];by_cases hx:x=k'
    · subst hx
      simp[List.lookup,hne]
    · simp only[List.lookup,zw12.2 hx,lookup_set h.2 hq x]
theorem lookup_erase:∀{L:List (Nat × Value)} {k q:Nat} {u:Value} (h:(L.map (·.1)).Nodup) (hq:L[q]? =some (k,u)) (x:Nat),(L.eraseIdx q).lookup x=if x=k then none else L.lookup x
  | [],k,q,u,h,hq,x=>by simp at hq
  | (k',v')::L,k,0,u,h,hq,x=>by
    simp only[List.getElem?_cons_zero,Option.some.injEq,Prod.mk.injEq]at hq;obtain⟨rfl,rfl⟩:=hq;simp only[List.map_cons,List.nodup_cons]at h;by_cases hx:x=k'
    · subst hx
      rw[if_pos rfl];exact lookup_none h.1
    · simp[List.lookup,hx,zw12.2 hx]
  | (k',v')::L,k,q+1,u,h,hq,x=>by
    simp only[List.map_cons,List.nodup_cons]at h;rw[List.getElem?_cons_succ]at hq;have hne:k'≠k:=fun e=>h.1 (e▸List.mem_map_of_mem (f:=(·.1)) (List.mem_of_getElem? hq));rw[List.eraseIdx_cons_succ];by_cases hx:x=k'
    · subst hx
      simp[List.lookup,hne]
    · simp only[List.lookup,zw12.2 hx,lookup_erase h.2 hq x]
theorem nodup_set {L:List (Nat × Value)} {k q:Nat} {u v:Value} (h:(L.map (·.1)).Nodup) (hq:L[q]? =some (k,u)):((L.set q (k,v)).map (·.1)).Nodup:=by
  have e:(L.set q (k,v)).map (·.1)=L.map (·.1):=by
    apply List.ext_getElem?;intro j;rw[List.getElem?_map,List.getElem?_map,List.getElem?_set];by_cases hj:q=j
    · subst hj
      rw[if_pos rfl,hq];have:q<L.length:=(List.getElem?_eq_some_iff.1 hq).1;simp[this]
    · rw[if_neg hj]
  rw[e];exact h
def mset (w:World) (b:Nat) (o:Obj):World:= {w with heap:=w.heap.setIfInBounds b o}
theorem mset_same {w:World} {b:Nat} {o o':Obj} (h:w.heap[b]? =some o'):(mset w b o).heap[b]? =some o:=by
  have:b<w.heap.size:=(Array.getElem?_eq_some_iff.1 h).1;simp[mset,this]
theorem mset_grown (w:World) (b:Nat) (o:Obj):w.grownBy (mset w b o) (some b):=
  ⟨rfl,rfl,rfl,by simp[mset],fun i _ hi=>by
    simp only[mset,Array.getElem?_setIfInBounds];rw[if_neg (fun e=>hi (by rw[e]))]⟩
section
variable {P : Program} {w : World} {b : Nat} {F : Nat → Option Value} {t kt e : TypeId}
theorem MapR.new (w:World):MapR (w.alloc (.map #[] 0)) w.heap.size (fun _=>none):=⟨#[],0,[],heap_alloc_new w _,⟨rfl,List.nodup_nil⟩,fun k=>rfl⟩
theorem MapR.kept {w':World} {row:Option Nat} (h:MapR w b F) (hg:w.grownBy w' row) (hne:some b≠row):MapR w' b F:=by
  obtain⟨es,cl,L,hb,hE,hF⟩:=h;exact⟨es,cl,L,(hg.block b (Array.getElem?_eq_some_iff.1 hb).1 hne).trans hb,hE,hF⟩
theorem MapR.lt (h:MapR w b F):b<w.heap.size:=by
  obtain⟨es,cl,L,hb,hE,hF⟩:=h;exact(Array.getElem?_eq_some_iff.1 hb).1
theorem run_look (h : MapR w b F) (ht : P.underlying t = some (.map kt e)) (hk : P.underlying kt = some (.int .u32)) {z : Value} (hz : (zeroValue e).run P w = .ok z w) (k : Nat) :
    (Instr.lookup t (.map (some b)) (.int .u32 (k:Int)) false).run P w= .ok ((F k).getD z) w:=by
  obtain⟨es,cl,L,hb,⟨hm,hn⟩,hF⟩:=h;have hc:=MapKept.run_checkKey (w:=w) hk (k:= .int .u32 (k:Int)) (by simp[MapKept.IsKey]) es.isEmpty 9999;rcases find32 k es.toList L 0 hm with ⟨h1,h2,h3⟩ | ⟨q,v,h1,h2,h3⟩
  · simp[Instr.lookup,run_underlying ht,MapKept.run_getObj_map hb,hc,Instr.findKey,run_underlying hk,h1,hz,Result.andThen,hF,h2]
  · simp[Instr.lookup,run_underlying ht,MapKept.run_getObj_map hb,hc,Instr.findKey,run_underlying hk,h1,Result.andThen,hF,h3]
theorem run_put (h : MapR w b F) (ht : P.underlying t = some (.map kt e)) (hk : P.underlying kt = some (.int .u32)) (k : Nat) (v : Value) :
    ∃w',(Instr.mapUpdate t (.map (some b)) (.int .u32 (k:Int)) v).run P w= .ok () w'∧MapR w' b (fun x=>if x=k then some v else F x)∧w.grownBy w' (some b):=by
  obtain⟨es,cl,L,hb,⟨hm,hn⟩,hF⟩:=h;have hc:=MapKept.run_checkKey (w:=w) hk (k:= .int .u32 (k:Int)) (by simp[MapKept.IsKey]) false 9999;rcases find32 k es.toList L 0 hm with ⟨h1,h2,h3⟩ | ⟨q,u,h1,h2,h3⟩
  · refine⟨mset w b (.map (es.push ⟨.int .u32 (k:Int),v,cl⟩) (cl+1)),?_,⟨_,_,L++[(k,v)],mset_same hb,⟨?_,?_⟩,?_⟩,mset_grown w b _⟩
    · simp[Instr.mapUpdate,run_underlying ht,MapKept.run_getObj_map hb,hc,Instr.findKey,run_underlying hk,h1,Result.andThen,MapKept.run_setObj_map _ hb,mset]
    · simp[hm]
    · rw[List.map_append,List.nodup_append];refine⟨hn,by simp,?_⟩
      intro a ha c hc e;simp only[List.map_cons,List.map_nil,zw30,List.not_mem_nil,or_false]at hc;exact h3 (by rw[←hc,←e];exact ha)
    · intro x;rw[lookup_app h3,←hF]
  · have hq:=(List.getElem?_eq_some_iff.1 h2).1
    have hq':q<es.size:=by
      have:=congrArg List.length hm;simp only[zw4,Array.length_toList]at this;omega
    have hkq:es[q].key= .int .u32 (k:Int):=by
      have:=congrArg (fun l=>l[q]?) hm;simp only[List.getElem?_map,h2,Option.map_some]at this;rw[zw6 (by simpa using hq')]at this;simp only[Option.map_some,Option.some.injEq,Prod.mk.injEq]at this
      simpa using this.1
    refine⟨mset w b (.map (es.modify q fun e=> {e with key:= .int .u32 (k:Int),val:=v}) cl),?_,⟨_,_,L.set q (k,v),mset_same hb,⟨?_,nodup_set hn h2⟩,?_⟩,mset_grown w b _⟩
    · simp[Instr.mapUpdate,run_underlying ht,MapKept.run_getObj_map hb,hc,Instr.findKey,run_underlying hk,h1,Result.andThen,MapKept.run_setObj_map _ hb,mset,hq',hkq,Instr.keyThatStays,Instr.sameBits]
    · apply List.ext_getElem?
      intro j;rw[List.getElem?_map,List.getElem?_map,List.getElem?_set,Array.getElem?_toList,Array.getElem?_modify];have hj':=congrArg (fun l=>l[j]?) hm;simp only[List.getElem?_map,Array.getElem?_toList]at hj';by_cases hj:q=j
      · subst hj
        rw[if_pos rfl,if_pos rfl,if_pos hq];simp[hq']
      · rw[if_neg hj,if_neg hj];exact hj'
    · intro x;rw[lookup_set hn h2,←hF]
theorem run_del (h : MapR w b F) (ht : P.underlying t = some (.map kt e)) (hk : P.underlying kt = some (.int .u32)) (k : Nat) (ats : Array TypeId) (ha : ats[0]? = some t) (ty : TypeId) :
    ∃w',(Builtin.delete_ ats ty #[.map (some b),.int .u32 (k:Int)]).run P w= .ok (.tuple #[]) w'∧MapR w' b (fun x=>if x=k then none else F x)∧w.grownBy w' (some b):=by
  obtain⟨es,cl,L,hb,⟨hm,hn⟩,hF⟩:=h;have hc:=MapKept.run_checkKey (w:=w) hk (k:= .int .u32 (k:Int)) (by simp[MapKept.IsKey]) es.isEmpty 9999;rcases find32 k es.toList L 0 hm with ⟨h1,h2,h3⟩ | ⟨q,u,h1,h2,h3⟩
  · refine⟨mset w b (.map es cl),?_,⟨_,_,L,mset_same hb,⟨hm,hn⟩,?_⟩,mset_grown w b _⟩
    · simp[Builtin.delete_,ha,run_underlying ht,MapKept.run_getObj_map hb,hc,Instr.findKey,run_underlying hk,h1,Result.andThen,MapKept.run_setObj_map _ hb,mset]
    · intro x
      by_cases hx:x=k
      · simp only[if_pos hx];rw[hx,h2]
      · simp only[if_neg hx];exact hF x
  · refine⟨mset w b (.map (es.eraseIdxIfInBounds q) cl),?_,⟨_,_,L.eraseIdx q,mset_same hb,⟨?_,?_⟩,?_⟩,mset_grown w b _⟩
    · simp[Builtin.delete_,ha,run_underlying ht,MapKept.run_getObj_map hb,hc,Instr.findKey,run_underlying hk,h1,Result.andThen,MapKept.run_setObj_map _ hb,mset]
    · rw[show(es.eraseIdxIfInBounds q).toList=es.toList.eraseIdx q from by simp[Array.eraseIdxIfInBounds];split<;>simp_all [List.eraseIdx_of_length_le]]
      rw[ChangeMaps.map_eraseIdx,ChangeMaps.map_eraseIdx,hm]
    · exact hn.sublist ((List.eraseIdx_sublist L q).map _)
    · intro x;rw[lookup_erase hn h2,←hF]
end
def nums (zs:List Nat):List Value:=zs.map fun(z:Nat)=>Value.int .i64 (z:Int)
def Sl (w:World) (base e:Nat) (v:Value) (zs:List Nat):Prop:=
 ∃g o cap cur,v= .slice (some ⟨g,o,none⟩) zs.length cap∧base≤g∧w.heap[g]? =some (.cells cur e (0,0))∧zs.length≤cap∧cap≤maxLen∧cur.size=o+cap∧(cur.toList.drop o).take zs.length=nums zs
section
variable {P : Program} {w w' : World} {base e : Nat} {v : Value} {zs : List Nat}
theorem nums_len (zs:List Nat):(nums zs).length=zs.length:=by simp[nums]
theorem Sl.kept {row:Option Nat} (h:Sl w base e v zs) (hg:w.grownBy w' row) (hne:v.ownBlock≠row):Sl w' base e v zs:=by
 obtain⟨g,o,cap,cur,rfl,hb,hh,r⟩:=h;exact⟨g,o,cap,cur,rfl,hb,(hg.block g (Array.getElem?_eq_some_iff.1 hh).1 hne).trans hh,r⟩
theorem Sl.ext (h:Sl w base e v zs) (hg:Ext w w'):Sl w' base e v zs:=by
 obtain⟨g,o,cap,cur,rfl,hb,hh,r⟩:=h;exact⟨g,o,cap,cur,rfl,hb,(hg.block g (Array.getElem?_eq_some_iff.1 hh).1).trans hh,r⟩
theorem Sl.block (h:Sl w base e v zs):∃g,v.ownBlock=some g∧base≤g∧g<w.heap.size:=by
 obtain⟨g,o,cap,cur,rfl,hb,hh,r⟩:=h;exact⟨g,rfl,hb,(Array.getElem?_eq_some_iff.1 hh).1⟩
theorem Sl.cells {g o cap n:Nat} (h:Sl w base e (.slice (some ⟨g,o,none⟩) n cap) zs) (j:Nat) (hj:j<zs.length):w.cell? ⟨g,o+j,none⟩=some (.int .i64 ((zs.getD j 0:Nat):Int)):=by
 obtain⟨g',o',cap',cur,hv,hb,hh,h1,h2,h3,h4⟩:=h;obtain⟨e1,_,_⟩:=Value.slice.inj hv;obtain⟨rfl,rfl,_⟩:=Addr.mk.inj (zw13 e1);rw[cell_of_row w g (o+j) cur e (0,0) hh];have:=congrArg (fun l=>l[j]?) h4;simp only[List.getElem?_take,if_pos hj,List.getElem?_drop]at this;rw[←Array.getElem?_toList,this];simp[nums,zw5,zw6 hj]
theorem Sl.frozen {g o cap n:Nat} (h:Sl w base e (.slice (some ⟨g,o,none⟩) n cap) zs) (j:Nat) (hj:j<zs.length):w.frozen? ⟨g,o+j,none⟩=false:=by
 obtain⟨g',o',cap',cur,hv,hb,hh,_⟩:=h;obtain⟨e1,_,_⟩:=Value.slice.inj hv;obtain⟨rfl,rfl,_⟩:=Addr.mk.inj (zw13 e1);simp[World.frozen?,hh]
theorem Sl.shape (h:Sl w base e v zs):∃g o cap,v= .slice (some ⟨g,o,none⟩) zs.length cap∧zs.length≤cap∧cap≤maxLen∧base≤g:=by
 obtain⟨g,o,cap,cur,rfl,hb,hh,h1,h2,r⟩:=h;exact⟨g,o,cap,rfl,h1,h2,hb⟩
theorem Sl.tail {g o cap n z:Nat} (h:Sl w base e (.slice (some ⟨g,o,none⟩) (n+1) cap) (z::zs)):Sl w base e (.slice (some ⟨g,o+1,none⟩) n (cap-1)) zs:=by
 obtain⟨g',o',cap',cur,hv,hb,hh,h1,h2,h3,h4⟩:=h;obtain⟨e1,e2,e3⟩:=Value.slice.inj hv;obtain⟨rfl,rfl,_⟩:=Addr.mk.inj (zw13 e1);subst e3;simp only[zw3]at e2 h1 h4;obtain rfl:n=zs.length:=by omega
 refine⟨g,o+1,cap-1,cur,rfl,hb,hh,by omega,by omega,by omega,?_⟩;have:=congrArg List.tail h4;rw[show(nums (z::zs)).tail=nums zs from rfl]at this;rw[←this];apply List.ext_getElem?;intro j;rw[List.getElem?_tail,List.getElem?_take,List.getElem?_take,List.getElem?_drop,List.getElem?_drop,show o+1+j=o+(j+1)from by omega];by_cases hj:j<zs.length
 ·rw[if_pos hj,if_pos (by omega)]
 ·rw[if_neg hj,if_neg (by omega)]
theorem run_more (t ty:TypeId) (i:TypeInfo) (z:Value) (ht:P.underlying t=some (.slice e)) (hi:P.info? e=some i) (hz:i.zero=some z) (hsize:i.size=1) (hby:i.bytes=8) (hzs:z.cells.size=1)
  (h:(v= .slice none 0 0∧zs=[])∨Sl w base e v zs) (a:Addr) (x:Nat) (hx:w.cell? a=some (.int .i64 (x:Int))) (hl:zs.length≤1000) (hbase:base≤w.heap.size):
  ∃v' w',(Builtin.append_ #[t,t] ty #[v,.slice (some a) 1 1]).run P w= .ok v' w'∧Sl w' base e v' (zs++[x])∧w.grownBy w' v.ownBlock∧(v'.ownBlock=v.ownBlock∨v'.ownBlock=some w.heap.size):=by
 have hnews:∀j u,[Value.int .i64 (x:Int)][j]? =some u→w.cell? (a.add j)=some u:=by
  intro j u hj
  match j,hj with
  | 0,hj=>simp at hj;subst hj;simpa [Addr.add]using hx
 have hnl: [Value.int .i64 (x:Int)].length=1*i.size:=by rw[hsize];rfl
 have hh1:∀u∈[Value.int .i64 (x:Int)],u.oneCell'=true:=by intro u hu;simp at hu;subst hu;rfl
 have hNW:∀old:Nat,old<zs.length+1→Sl (w.drew.alloc (.cells ((nums zs).toArray++[Value.int .i64 (x:Int)].toArray++Builtin.zeroCells z.cells (grownCap w (zs.length+1) old e-(zs.length+1))) e)) base e
   (.slice (some ⟨w.heap.size,0,none⟩) (zs.length+1) (grownCap w (zs.length+1) old e)) (zs++[x]):=by
  intro old ho;have hge:=grownCap_ge w (zs.length+1) old e;have hcm:grownCap w (zs.length+1) old e≤maxLen:=grownCap_le_maxLen w (zs.length+1) old e (by unfold maxLen;omega);refine⟨w.heap.size,0,_,_,by rw[zw0];rfl,hbase,heap_alloc_new w.drew _,by rw[zw0];exact hge,hcm,?_,?_⟩
  ·simp only[Array.size_append,List.size_toArray,nums_len,size_zeroCells,hzs,zw3,zw26];omega
  ·rw[zw28,Array.toList_append,Array.toList_append,zw0,show zs.length+[x].length=((nums zs).toArray.toList++[Value.int .i64 (x:Int)].toArray.toList).length from by simp[nums_len],List.take_left]
   simp[nums]
 rcases h with ⟨rfl,rfl⟩ | ⟨g,o,cap,cur,rfl,hb,hh,h1,h2,h3,h4⟩
 ·have hr:=run_append_nil (P:=P) w t ty e i z ht hi hz a 1 1 [Value.int .i64 (x:Int)] hnl hnews (by omega) (by omega) (by rw[hby];omega)
  have hn:=hNW 0 (by simp);refine⟨_,_,hr,?_,⟨rfl,rfl,rfl,by simp,fun k hk _=>zw47 w.drew _ k hk⟩,.inr rfl⟩
  simpa [nums]using hn
 ·by_cases hroom:zs.length+1≤cap
  ·have hst:=run_storeCells_at P g (o+zs.length) e [Value.int .i64 (x:Int)] 0 cur w hh (by simp;omega) hh1
   have hf:=run_firstCells_some (P:=P) w i.size 1 a 1 1 [Value.int .i64 (x:Int)] hnl hnews;simp only[Nat.add_zero]at hst;have hr:(Builtin.append_ #[t,t] ty #[.slice (some ⟨g,o,none⟩) zs.length cap,.slice (some a) 1 1]).run P w=
     .ok (.slice (some ⟨g,o,none⟩) (zs.length+1) cap) (w.setRow g (cur.toList.take (o+zs.length)++[Value.int .i64 (x:Int)]++cur.toList.drop (o+zs.length+1)).toArray):=by
    rw[hsize]at hf;simp[Builtin.append_,run_underlying ht,sizeOf,typeInfo,hi,hsize,Builtin.lenOf,hroom,hf,Addr.add_lit,hst]
   have hct:cur.toList.length=cur.size:=Array.length_toList;refine⟨_,_,hr,⟨g,o,cap,_,by rw[zw0];rfl,hb,setRow_heap w g cur _ e _ hh,by rw[zw0];exact hroom,h2,?_,?_⟩,⟨rfl,rfl,rfl,by simp,fun k _ hk=>setRow_other w g k _ (fun e=>hk (by simp[Value.ownBlock,e]))⟩,.inl rfl⟩
   ·rw[List.size_toArray,zw0,zw0,zw2,zw1,hct]
    simp only[zw3,zw26];omega
   ·have hlt:o+zs.length≤cur.toList.length:=by rw[hct];omega
    rw[zw7,List.drop_append_of_le_length (by rw[zw2];omega),List.drop_take,show o+zs.length-o=zs.length from by omega,h4];rw[zw0,show zs.length+[x].length=(nums zs++[Value.int .i64 (x:Int)]).length from by simp[nums_len],←zw7,List.take_left];simp[nums]
  ·have holds:∀j u,(nums zs)[j]? =some u→w.cell? ((⟨g,o,none⟩:Addr).add j)=some u:=by
    intro j u hj;have hjl:j<zs.length:=by have:=(List.getElem?_eq_some_iff.1 hj).1;rw[nums_len]at this;exact this
    rw[Addr.add_lit,cell_of_row w g (o+j) cur e (0,0) hh,←Array.getElem?_toList];have:=congrArg (fun l=>l[j]?) h4;simp only[List.getElem?_take,if_pos hjl,List.getElem?_drop]at this;rw[this];exact hj
   have hr:=run_append_grow (P:=P) w t ty e i z ht hi hz ⟨g,o,none⟩ zs.length cap (nums zs) (by rw[nums_len,hsize,Nat.mul_one]) holds a 1 1 [Value.int .i64 (x:Int)] hnl hnews (by omega) (by omega) (by rw[hby];exact growslice_fits (by omega) (by omega));exact⟨_,_,hr,hNW cap (by omega),⟨rfl,rfl,rfl,by simp,fun k hk _=>zw47 w.drew _ k hk⟩,.inr rfl⟩
end
structure Groups (w:World) (base e b:Nat) (M:Nat→Option Value) (F:Nat→List Nat):Prop where
 map:MapR w b M
 row:∀k,(M k=none∧F k=[])∨∃v,M k=some v∧F k≠[]∧Sl w base e v (F k)
 apart:∀k k' v v',k≠k'→M k=some v→M k'=some v'→v.ownBlock≠v'.ownBlock
 at_:base≤b
section
variable {P : Program} {w w1 w2 : World} {base e b : Nat} {M : Nat → Option Value} {F : Nat → List Nat}
theorem ne_sl {v:Value} {zs:List Nat} (h:MapR w b M) (hs:Sl w base e v zs):v.ownBlock≠some b:=by
 obtain⟨es,cl,L,hb,_⟩:=h;obtain⟨g,o,cap,cur,rfl,_,hh,_⟩:=hs;intro he;obtain rfl:=zw13 he;rw[hh]at hb;cases hb
theorem Groups.new (w:World) (base e:Nat) (hb:base≤w.heap.size):Groups (w.alloc (.map #[] 0)) base e w.heap.size (fun _=>none) (fun _=>[]):=
 ⟨MapR.new w,fun k=> .inl ⟨rfl,rfl⟩,(fun k k' v v' _ h=>by cases h),hb⟩
theorem Groups.look (h:Groups w base e b M F) (k:Nat):((M k).getD (.slice none 0 0)= .slice none 0 0∧F k=[])∨(M k=some ((M k).getD (.slice none 0 0))∧F k≠[]∧Sl w base e ((M k).getD (.slice none 0 0)) (F k)):=by
 rcases h.row k with ⟨h1,h2⟩ | ⟨v,h1,h2,h3⟩
 ·exact .inl ⟨by rw[h1];rfl,h2⟩
 ·exact .inr ⟨by rw[h1];rfl,h2,by rw[h1];exact h3⟩
theorem Groups.ext (h:Groups w base e b M F) (hg:Ext w w1):Groups w1 base e b M F:=by
 obtain⟨es,cl,L,hb,hE,hF⟩:=h.map;exact⟨⟨es,cl,L,(hg.block b (Array.getElem?_eq_some_iff.1 hb).1).trans hb,hE,hF⟩,fun k=>by
  rcases h.row k with h1 | ⟨v,h1,h2,h3⟩
  ·exact .inl h1
  ·exact .inr ⟨v,h1,h2,h3.ext hg⟩,h.apart,h.at_⟩
theorem Groups.put (h:Groups w base e b M F) (k:Nat) {v':Value} {zs':List Nat} (hz:zs'≠[]) (hg:w.grownBy w1 ((M k).getD (.slice none 0 0)).ownBlock) (hs:Sl w1 base e v' zs')
  (hb:v'.ownBlock=((M k).getD (.slice none 0 0)).ownBlock∨∃g,v'.ownBlock=some g∧w.heap.size≤g) (hm:MapR w2 b (fun x=>if x=k then some v' else M x)) (hg2:w1.grownBy w2 (some b)):
  Groups w2 base e b (fun x=>if x=k then some v' else M x) (fun x=>if x=k then zs' else F x):=by
 have hmap1:MapR w1 b M:=h.map.kept hg (by
  rcases h.look k with ⟨h1,_⟩ | ⟨_,_,h3⟩
  ·rw[h1];intro e;cases e
  ·exact(ne_sl h.map h3).symm)
 have hfar:∀x v,x≠k→M x=some v→v.ownBlock≠((M k).getD (.slice none 0 0)).ownBlock:=by
  intro x v hx hv;rcases h.row x with ⟨e1,_⟩ | ⟨v2,e1,_,hsl⟩
  ·rw[hv]at e1;cases e1
  ·rw[hv]at e1;obtain rfl:=zw13 e1
   rcases h.row k with ⟨h1,_⟩ | ⟨u,h1,_,_⟩
   ·rw[h1];obtain⟨g,hgb,_⟩:=hsl.block;rw[hgb];intro e;cases e
   ·rw[h1];exact h.apart x k v u hx hv h1
 refine⟨hm,fun x=>?_,fun x x' v v2 hne hv hv2=>?_,h.at_⟩
 ·by_cases hx:x=k
  ·simp only[if_pos hx]
   exact .inr ⟨v',rfl,hz,hs.kept hg2 (ne_sl hmap1 hs)⟩
  ·simp only[if_neg hx]
   rcases h.row x with h1 | ⟨v,h1,h2,h3⟩
   ·exact .inl h1
   ·have h4:=h3.kept hg (hfar x v hx h1)
    exact .inr ⟨v,h1,h2,h4.kept hg2 (ne_sl hmap1 h4)⟩
 ·have key:∀x v,x≠k→M x=some v→v.ownBlock≠v'.ownBlock:=by
   intro x v hx hv e;rcases hb with hb | ⟨g,hb,hgs⟩
   ·exact hfar x v hx hv (e.trans hb)
   ·rcases h.row x with ⟨e1,_⟩ | ⟨v2,e1,_,hsl⟩
    ·rw[hv]at e1;cases e1
    ·rw[hv]at e1;obtain rfl:=zw13 e1
     obtain⟨g',hgb,_,hlt⟩:=hsl.block;rw[hgb,hb]at e;have:=zw13 e;omega
  by_cases hx:x=k
  ·by_cases hx':x'=k
   ·exact absurd (hx.trans hx'.symm) hne
   ·simp only[if_pos hx]at hv
    simp only[if_neg hx']at hv2;obtain rfl:=zw13 hv;exact(key x' v2 hx' hv2).symm
  ·simp only[if_neg hx]at hv
   by_cases hx':x'=k
   ·simp only[if_pos hx']at hv2
    obtain rfl:=zw13 hv2;exact key x v hx hv
   ·simp only[if_neg hx']at hv2
    exact h.apart x x' v v2 hne hv hv2
theorem Groups.del (h:Groups w base e b M F) (k:Nat) (hm:MapR w2 b (fun x=>if x=k then none else M x)) (hg2:w.grownBy w2 (some b)):
  Groups w2 base e b (fun x=>if x=k then none else M x) (fun x=>if x=k then []else F x):=by
 refine⟨hm,fun x=>?_,fun x x' v v2 hne hv hv2=>?_,h.at_⟩
 ·by_cases hx:x=k
  ·exact .inl ⟨if_pos hx,if_pos hx⟩
  ·simp only[if_neg hx]
   rcases h.row x with h1 | ⟨v,h1,h2,h3⟩
   ·exact .inl h1
   ·exact .inr ⟨v,h1,h2,h3.kept hg2 (ne_sl h.map h3)⟩
 ·by_cases hx:x=k
  ·simp only[if_pos hx]at hv;cases hv
  ·simp only[if_neg hx]at hv
   by_cases hx':x'=k
   ·simp only[if_pos hx']at hv2;cases hv2
   ·simp only[if_neg hx']at hv2
    exact h.apart x x' v v2 hne hv hv2
theorem Groups.same {M':Nat→Option Value} {F':Nat→List Nat} (h:Groups w base e b M F) (hM:∀k,M' k=M k) (hF:∀k,F' k=F k):Groups w base e b M' F':=by
 obtain rfl:M'=M:=funext hM;obtain rfl:F'=F:=funext hF;exact h
variable {t kt et : TypeId} {ops : Array Oper} {rest : List Oper} {o : Oper} {a : Act} {Q : Exit → Act → World → Prop}
theorem wpList_put (hg:o.guard=none) (m x v:Operand) (hop:o.op=Op.mapUpdate t m x v) (ht:P.underlying t=some (.map kt et)) (hk:P.underlying kt=some (.int .u32))
  (hm:a.eval m= .map (some b)) (h:MapR w b M) (k:Nat) (val:Value) (hx:a.eval x= .int .u32 (k:Int)) (hv:a.eval v=val)
  (hK:∀w',MapR w' b (fun x=>if x=k then some val else M x)→w.grownBy w' (some b)→wpList P ops Q rest (a.put o.dst undef) w'):wpList P ops Q (o::rest) a w:=by
 refine wpList_plain hg fun K' hK'=>?_;obtain⟨w',hrun,r1,r2⟩:=run_put (P:=P) h ht hk k val;unfold Oper.wp;simp[execOp,hop,hm,hx,hv,hrun,Result.andThen];exact hK' _ _ (hK w' r1 r2)
theorem wpList_del (hg:o.guard=none) (m x:Operand) (tk:TypeId) (hop:o.op= .call {callee:= .builtin .delete,args:= #[m,x],argTypes:= #[t,tk]}) (ht:P.underlying t=some (.map kt et)) (hk:P.underlying kt=some (.int .u32))
  (hm:a.eval m= .map (some b)) (h:MapR w b M) (k:Nat) (hx:a.eval x= .int .u32 (k:Int))
  (hK:∀w',MapR w' b (fun x=>if x=k then none else M x)→w.grownBy w' (some b)→wpList P ops Q rest (a.put o.dst (.tuple #[])) w'):wpList P ops Q (o::rest) a w:=by
 refine wpList_plain hg fun K' hK'=>?_;obtain⟨w',hrun,r1,r2⟩:=run_del (P:=P) h ht hk k #[t,tk] rfl o.type;unfold Oper.wp execOp;simp only[hop,resolve,invoke,builtin,Sem.run_bind,Sem.run_pure,Result.andThen_ok,List.map_toArray,List.map_cons,List.map_nil,hm,hx,hrun];exact hK' _ _ (hK w' r1 r2)
theorem wpList_more (hgd:o.guard=none) (s x:Operand) (t:TypeId) (ho:o.op= .call {callee:= .builtin .append,args:= #[s,x],argTypes:= #[t,t]}) (i:TypeInfo) (z:Value) (ht:P.underlying t=some (.slice e)) (hi:P.info? e=some i) (hz:i.zero=some z) (hsize:i.size=1) (hby:i.bytes=8) (hzs:z.cells.size=1)
  (v:Value) (zs:List Nat) (h:(v= .slice none 0 0∧zs=[])∨Sl w base e v zs) (ad:Addr) (y:Nat) (hs:a.eval s=v) (hx:a.eval x= .slice (some ad) 1 1) (hy:w.cell? ad=some (.int .i64 (y:Int))) (hl:zs.length≤1000) (hbase:base≤w.heap.size)
  (hK:∀v' w',Sl w' base e v' (zs++[y])→w.grownBy w' v.ownBlock→(v'.ownBlock=v.ownBlock∨v'.ownBlock=some w.heap.size)→wpList P ops Q rest (a.put o.dst v') w'):wpList P ops Q (o::rest) a w:=by
 obtain⟨v',w',h1,h2,h3,h4⟩:=run_more (P:=P) t o.type i z ht hi hz hsize hby hzs h ad y hy hl hbase;exact wpList_of_append hgd s x t t ho v _ hs hx h1 (hK v' w' h2 h3 h4)
end
end Go.Proofs.YtbopblbhjcemaaaGreatDoor.Map32
namespace Go.Proofs.YtbopblbhjcemaaaGreatDoor.Map64
def Ents (l:List MapEntry) (L:List (Int × Value)):Prop:=l.map (fun e=>(e.key,e.val))=L.map (fun p=>(Value.int .i64 (p.1:Int),p.2))∧(L.map (·.1)).Nodup
def MapR (w:World) (b:Nat) (F:Int→Option Value):Prop:=∃es cl L,w.heap[b]? =some (.map es cl)∧Ents es.toList L∧∀k,F k=L.lookup k
theorem find64 (k : Int) : ∀ (l : List MapEntry) (L : List (Int × Value)) (i : Nat), l.map (fun e => (e.key, e.val)) = L.map (fun p => (Value.int .i64 (p.1 : Int), p.2)) →
    (Instr.findNow (.int .i64) (.int .i64 (k:Int)) l i=some none∧L.lookup k=none∧k∉L.map (·.1))∨
    ∃q v,Instr.findNow (.int .i64) (.int .i64 (k:Int)) l i=some (some (i+q,v))∧L[q]? =some (k,v)∧L.lookup k=some v
  | [],[],i,_=> .inl ⟨rfl,rfl,by simp⟩
  | [],_::_,_,h=>by simp at h
  | _::_,[],_,h=>by simp at h
  | e::l,(k',v')::L,i,h=>by
    simp only[List.map_cons,List.cons.injEq,Prod.mk.injEq]at h;obtain⟨⟨h1,h2⟩,h3⟩:=h;by_cases hk:k=k'
    · subst hk
      refine .inr ⟨0,v',?_,rfl,?_⟩
      · simp[Instr.findNow,h1,h2,Instr.sameNow]
      · simp[List.lookup]
    · have hne:((k:Int)==(k':Int))=false:=zw12.2 (by omega)
      have hne':(k==k')=false:=zw12.2 hk;rcases find64 k l L (i+1) h3 with ⟨a,b,c⟩ | ⟨q,v,a,b,c⟩
      · refine .inl ⟨?_,?_,?_⟩
        · rw[Instr.findNow,h1];simp only[Instr.sameNow,if_true,hne,a]
        · simp only[List.lookup,hne',b]
        · simp only[List.map_cons,zw30,not_or];exact⟨hk,c⟩
      · refine .inr ⟨q+1,v,?_,?_,?_⟩
        · rw[Instr.findNow,h1];simp only[Instr.sameNow,if_true,hne,a];rw[show i+1+q=i+(q+1)from by omega]
        · rw[List.getElem?_cons_succ,b]
        · simp only[List.lookup,hne',c]
theorem lookup_app {L:List (Int × Value)} {k:Int} {v:Value} (h:k∉L.map (·.1)) (x:Int):(L++[(k,v)]).lookup x=if x=k then some v else L.lookup x:=by
  induction L with
  | nil => by_cases hx : x = k
           · simp[hx]
           · simp[List.lookup,hx,zw12.2 hx]
  | cons p L ih=>
    obtain⟨k',v'⟩:=p;simp only[List.map_cons,zw30,not_or]at h;by_cases hx:x=k'
    · subst hx
      simp[List.lookup,Ne.symm h.1]
    · simp only[List.cons_append,List.lookup,zw12.2 hx,ih h.2]
theorem lookup_set:∀{L:List (Int × Value)} {k:Int} {q:Nat} {u v:Value} (h:(L.map (·.1)).Nodup) (hq:L[q]? =some (k,u)) (x:Int),(L.set q (k,v)).lookup x=if x=k then some v else L.lookup x
  | [],k,q,u,v,h,hq,x=>by simp at hq
  | (k',v')::L,k,0,u,v,h,hq,x=>by
    simp only[List.getElem?_cons_zero,Option.some.injEq,Prod.mk.injEq]at hq;obtain⟨rfl,rfl⟩:=hq;by_cases hx:x=k'
    · simp[hx]
    · simp[List.lookup,hx,zw12.2 hx]
  | (k',v')::L,k,q+1,u,v,h,hq,x=>by
    simp only[List.map_cons,List.nodup_cons]at h;rw[List.getElem?_cons_succ]at hq;have hne:k'≠k:=fun e=>h.1 (e▸List.mem_map_of_mem (f:=(·.1)) (List.mem_of_getElem? hq));rw[List.set_cons_succ];by_cases hx:x=k'
    · subst hx
      simp[List.lookup,hne]
    · simp only[List.lookup,zw12.2 hx,lookup_set h.2 hq x]
theorem nodup_set {L:List (Int × Value)} {k:Int} {q:Nat} {u v:Value} (h:(L.map (·.1)).Nodup) (hq:L[q]? =some (k,u)):((L.set q (k,v)).map (·.1)).Nodup:=by
  have e:(L.set q (k,v)).map (·.1)=L.map (·.1):=by
    apply List.ext_getElem?;intro j;rw[List.getElem?_map,List.getElem?_map,List.getElem?_set];by_cases hj:q=j
    · subst hj
      rw[if_pos rfl,hq];have:q<L.length:=(List.getElem?_eq_some_iff.1 hq).1;simp[this]
    · rw[if_neg hj]
  rw[e];exact h
def mset (w:World) (b:Nat) (o:Obj):World:= {w with heap:=w.heap.setIfInBounds b o}
theorem mset_same {w:World} {b:Nat} {o o':Obj} (h:w.heap[b]? =some o'):(mset w b o).heap[b]? =some o:=by
  have:b<w.heap.size:=(Array.getElem?_eq_some_iff.1 h).1;simp[mset,this]
theorem mset_grown (w:World) (b:Nat) (o:Obj):w.grownBy (mset w b o) (some b):=
  ⟨rfl,rfl,rfl,by simp[mset],fun i _ hi=>by
    simp only[mset,Array.getElem?_setIfInBounds];rw[if_neg (fun e=>hi (by rw[e]))]⟩
section
variable {P : Program} {w : World} {b : Nat} {F : Int → Option Value} {t kt e : TypeId}
theorem MapR.new (w:World):MapR (w.alloc (.map #[] 0)) w.heap.size (fun _=>none):=⟨#[],0,[],heap_alloc_new w _,⟨rfl,List.nodup_nil⟩,fun k=>rfl⟩
theorem run_put (h : MapR w b F) (ht : P.underlying t = some (.map kt e)) (hk : P.underlying kt = some (.int .i64)) (k : Int) (v : Value) :
    ∃w',(Instr.mapUpdate t (.map (some b)) (.int .i64 (k:Int)) v).run P w= .ok () w'∧MapR w' b (fun x=>if x=k then some v else F x)∧w.grownBy w' (some b):=by
  obtain⟨es,cl,L,hb,⟨hm,hn⟩,hF⟩:=h;have hc:=MapKept.run_checkKey (w:=w) hk (k:= .int .i64 (k:Int)) (by simp[MapKept.IsKey]) false 9999;rcases find64 k es.toList L 0 hm with ⟨h1,h2,h3⟩ | ⟨q,u,h1,h2,h3⟩
  · refine⟨mset w b (.map (es.push ⟨.int .i64 (k:Int),v,cl⟩) (cl+1)),?_,⟨_,_,L++[(k,v)],mset_same hb,⟨?_,?_⟩,?_⟩,mset_grown w b _⟩
    · simp[Instr.mapUpdate,run_underlying ht,MapKept.run_getObj_map hb,hc,Instr.findKey,run_underlying hk,h1,Result.andThen,MapKept.run_setObj_map _ hb,mset]
    · simp[hm]
    · rw[List.map_append,List.nodup_append];refine⟨hn,by simp,?_⟩
      intro a ha c hc e;simp only[List.map_cons,List.map_nil,zw30,List.not_mem_nil,or_false]at hc;exact h3 (by rw[←hc,←e];exact ha)
    · intro x;rw[lookup_app h3,←hF]
  · have hq:=(List.getElem?_eq_some_iff.1 h2).1
    have hq':q<es.size:=by
      have:=congrArg List.length hm;simp only[zw4,Array.length_toList]at this;omega
    have hkq:es[q].key= .int .i64 (k:Int):=by
      have:=congrArg (fun l=>l[q]?) hm;simp only[List.getElem?_map,h2,Option.map_some]at this;rw[zw6 (by simpa using hq')]at this;simp only[Option.map_some,Option.some.injEq,Prod.mk.injEq]at this
      simpa using this.1
    refine⟨mset w b (.map (es.modify q fun e=> {e with key:= .int .i64 (k:Int),val:=v}) cl),?_,⟨_,_,L.set q (k,v),mset_same hb,⟨?_,nodup_set hn h2⟩,?_⟩,mset_grown w b _⟩
    · simp[Instr.mapUpdate,run_underlying ht,MapKept.run_getObj_map hb,hc,Instr.findKey,run_underlying hk,h1,Result.andThen,MapKept.run_setObj_map _ hb,mset,hq',hkq,Instr.keyThatStays,Instr.sameBits]
    · apply List.ext_getElem?
      intro j;rw[List.getElem?_map,List.getElem?_map,List.getElem?_set,Array.getElem?_toList,Array.getElem?_modify];have hj':=congrArg (fun l=>l[j]?) hm;simp only[List.getElem?_map,Array.getElem?_toList]at hj';by_cases hj:q=j
      · subst hj
        rw[if_pos rfl,if_pos rfl,if_pos hq];simp[hq']
      · rw[if_neg hj,if_neg hj];exact hj'
    · intro x;rw[lookup_set hn h2,←hF]
theorem MapR.ext {w':World} (h:MapR w b F) (hg:Ext w w'):MapR w' b F:=by
  obtain⟨es,cl,L,hb,r⟩:=h;exact⟨es,cl,L,(hg.block b (Array.getElem?_eq_some_iff.1 hb).1).trans hb,r⟩
theorem run_look2 (h : MapR w b F) (ht : P.underlying t = some (.map kt e)) (hk : P.underlying kt = some (.int .i64)) {z : Value} (hz : (zeroValue e).run P w = .ok z w) (k : Int) :
    (Instr.lookup t (.map (some b)) (.int .i64 (k:Int)) true).run P w= .ok (.tuple #[(F k).getD z,.bool (F k).isSome]) w:=by
  obtain⟨es,cl,L,hb,⟨hm,hn⟩,hF⟩:=h;have hc:=MapKept.run_checkKey (w:=w) hk (k:= .int .i64 (k:Int)) (by simp[MapKept.IsKey]) es.isEmpty 9999;rcases find64 k es.toList L 0 hm with ⟨h1,h2,h3⟩ | ⟨q,v,h1,h2,h3⟩
  · simp[Instr.lookup,run_underlying ht,MapKept.run_getObj_map hb,hc,Instr.findKey,run_underlying hk,h1,hz,Result.andThen,hF,h2]
  · simp[Instr.lookup,run_underlying ht,MapKept.run_getObj_map hb,hc,Instr.findKey,run_underlying hk,h1,Result.andThen,hF,h3]
variable {et : TypeId} {ops : Array Oper} {rest : List Oper} {o : Oper} {a : Act} {Q : Exit → Act → World → Prop}
theorem wpList_look2 (hg : o.guard = none) (m x : Operand) (hop : o.op = Op.lookup t m x true) (ht : P.underlying t = some (.map kt et)) (hk : P.underlying kt = some (.int .i64)) {z : Value} (hz : (zeroValue et).run P w = .ok z w)
    (hm:a.eval m= .map (some b)) (h:MapR w b F) (k:Int) (hx:a.eval x= .int .i64 (k:Int)) (v:Value) (c:Bool) (hv:(F k).getD z=v) (hc:(F k).isSome=c) (hK:wpList P ops Q rest (a.put o.dst (.tuple #[v,.bool c])) w):wpList P ops Q (o::rest) a w:=by
  refine wpList_plain hg fun K' hK'=>?_;have hrun:=run_look2 (P:=P) h ht hk hz k;rw[hv,hc]at hrun;unfold Oper.wp;simp[execOp,hop,hm,hx,hrun,Result.andThen];exact hK' _ _ hK
theorem wpList_put (hg : o.guard = none) (m x v : Operand) (hop : o.op = Op.mapUpdate t m x v) (ht : P.underlying t = some (.map kt et)) (hk : P.underlying kt = some (.int .i64))
    (hm:a.eval m= .map (some b)) (h:MapR w b F) (k:Int) (val:Value) (hx:a.eval x= .int .i64 (k:Int)) (hv:a.eval v=val)
    (hK:∀w',MapR w' b (fun x=>if x=k then some val else F x)→w.grownBy w' (some b)→wpList P ops Q rest (a.put o.dst undef) w'):wpList P ops Q (o::rest) a w:=by
  refine wpList_plain hg fun K' hK'=>?_;obtain⟨w',hrun,r1,r2⟩:=run_put (P:=P) h ht hk k val;unfold Oper.wp;simp[execOp,hop,hm,hx,hv,hrun,Result.andThen];exact hK' _ _ (hK w' r1 r2)
end
end Go.Proofs.YtbopblbhjcemaaaGreatDoor.Map64
