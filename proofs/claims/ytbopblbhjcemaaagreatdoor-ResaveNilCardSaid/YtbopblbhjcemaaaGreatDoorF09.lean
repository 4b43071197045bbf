
import Derived.Test.YtbopblbhjcemaaaGreatDoorF02
set_option maxHeartbeats 16000000
set_option maxRecDepth 100000
set_option linter.all false
namespace Go.Proofs.YtbopblbhjcemaaaGreatDoor.Delta
open Go.ChangeShapes Go.WideShapes Go.ChangeAt Go.RowKit
open Wire
def mixK (k:Nat) (xs ys:List Nat):List Nat:=(List.range ys.length).map fun i=>if i<k then ys.getD i 0 ^^^xs.getD i 0 else ys.getD i 0
def mix (xs ys:List Nat):List Nat:=mixK xs.length xs ys
theorem mixK_len (k:Nat) (xs ys:List Nat):(mixK k xs ys).length=ys.length:=by simp[mixK]
theorem mixK_at (k:Nat) (xs ys:List Nat) (j:Nat) (hj:j<ys.length):(mixK k xs ys).getD j 0=if j<k then ys.getD j 0 ^^^xs.getD j 0 else ys.getD j 0:=by
 unfold mixK;rw[zw5,List.getElem?_map,List.getElem?_range hj];rfl
theorem mixK_small (k:Nat) {xs ys:List Nat} (hx:∀j,xs.getD j 0<256) (hy:∀j,ys.getD j 0<256):∀j,(mixK k xs ys).getD j 0<256:=fun j=>by
 rcases Nat.lt_or_ge j ys.length with h | h
 ·rw[mixK_at k xs ys j h]
  split
  ·exact Nat.xor_lt_two_pow (n:=8) (hy j) (hx j)
  ·exact hy j
 ·rw[zw5,List.getElem?_eq_none (by rw[mixK_len];exact h)];simp
theorem xor8 (a b:Nat) (ha:a<256) (hb:b<256):bits .xor .u8 (a:Int) (b:Int)=((a ^^^b:Nat):Int):=by
 have h:bits .xor .u8 (a:Int) (b:Int)=IntKind.u8.wrap ((BitVec.ofInt 8 (a:Int) ^^^BitVec.ofInt 8 (b:Int)).toNat:Int):=rfl;have hl:=Nat.xor_lt_two_pow (n:=8) ha hb;rw[h,BitVec.ofInt_natCast,BitVec.ofInt_natCast,BitVec.toNat_xor,BitVec.toNat_ofNat,BitVec.toNat_ofNat,Nat.mod_eq_of_lt ha,Nat.mod_eq_of_lt hb,IntKind.wrap_u8];omega
def XRel (w:World) (xs ys:List Nat) (m:Nat) (v iv:Value) (wr:World):Prop:=
 ∃k:Nat,k≤m∧iv= .int .i64 (k:Int)∧wr.ownsRow w.heap.size 5 1 v ys.length (c8 (mixK k xs ys))∧Ext w wr
def XPost (w:World) (zs:List Nat) (e:Ending) (w':World):Prop:=
 ∃g,e= .returned (.slice (some ⟨g,0,none⟩) zs.length zs.length)∧w.heap.size≤g∧Wire.Own w w' (.slice (some ⟨g,0,none⟩) zs.length zs.length) zs∧Ext w w'
def zr:List Nat→Nat
 | []=>0
 | c::cs=>if c=0 then zr cs+1 else 0
theorem zr_le (l:List Nat):zr l≤l.length:=by
 induction l with
 | nil=>simp[zr]
 | cons c cs ih=>
  rw[zr,zw3]
  split<;>omega
theorem zr_at {xs:List Nat} {k:Nat} (h:k<xs.length):zr (xs.drop k)=if xs.getD k 0=0 then zr (xs.drop (k+1))+1 else 0:=by
 rw[zw20 h,zr,zw5,zw6 h];rfl
def ZRel (xs:List Nat) (from_:Nat) (tv:Value):Prop:=∃k:Nat,from_≤k∧k≤xs.length∧tv= .int .i64 (k:Int)∧k+zr (xs.drop k)=from_+zr (xs.drop from_)
def lit:List Nat→Nat
 | []=>0
 | c::cs=>if 4≤zr (c::cs)∨zr (c::cs)=(c::cs).length then 0 else lit cs+1
theorem lit_le (l:List Nat):lit l≤l.length:=by
 induction l with
 | nil=>simp[lit]
 | cons c cs ih=>
  rw[lit,zw3]
  split<;>omega
theorem lit_stop {l:List Nat} (h:4≤zr l∨zr l=l.length):lit l=0:=by
 cases l with
 | nil=>rfl
 | cons c cs=>rw[lit,if_pos h]
theorem zr_drop (l:List Nat):∀n,n≤zr l→zr (l.drop n)=zr l-n:=by
 induction l with
 | nil=>intro n h;simp[zr]
 | cons c cs ih=>
  intro n h
  cases n with
  | zero=>simp
  | succ n=>
   rw[zr]at h;by_cases hc:c=0
   ·rw[if_pos hc]at h
    rw[List.drop_succ_cons,ih n (by omega),zr,if_pos hc];omega
   ·rw[if_neg hc]at h;omega
theorem zr_full {l:List Nat} (h:zr l<l.length):l.drop (zr l)≠[]∧zr (l.drop (zr l))=0:=by
 refine⟨fun e=>?_,by rw[zr_drop l _ (zw8 _)];omega⟩;have:=congrArg List.length e;rw[zw1]at this;simp at this;omega
theorem lit_jump (l:List Nat):∀n,zr l=n→n<4→n<l.length→lit l=n+1+lit (l.drop (n+1)):=by
 induction l with
 | nil=>intro n _ _ h;simp at h
 | cons c cs ih=>
  intro n hz h4 hl;have hstop:¬(4≤zr (c::cs)∨zr (c::cs)=(c::cs).length):=by omega
  rw[lit,if_neg hstop]
  cases n with
  | zero=>rw[List.drop_succ_cons,zw28];omega
  | succ n=>
   rw[zr]at hz;by_cases hc:c=0
   ·rw[if_pos hc]at hz
    rw[ih n (by omega) (by omega) (by rw[zw3]at hl;omega),List.drop_succ_cons];omega
   ·rw[if_neg hc]at hz;omega
theorem lit_pos {l:List Nat} (h:zr l=0) (hl:l≠[]):0<lit l:=by
 have hp:0<l.length:=List.length_pos_iff.2 hl;rw[lit_jump l 0 h (by omega) hp];omega
def enc (l:List Nat):List Nat:=
 if h:zr l<l.length then
  vb (zr l)++vb (lit (l.drop (zr l)))++(l.drop (zr l)).take (lit (l.drop (zr l)))++enc (l.drop (zr l+lit (l.drop (zr l))))
 else []
termination_by l.length
decreasing_by
 have h1:=zr_full h;have h2:=lit_pos h1.2 h1.1;rw[zw1];omega
theorem enc_stop {l:List Nat} (h:¬zr l<l.length):enc l=[]:=by rw[enc,dif_neg h]
theorem enc_more {l:List Nat} (h:zr l<l.length):enc l=vb (zr l)++vb (lit (l.drop (zr l)))++(l.drop (zr l)).take (lit (l.drop (zr l)))++enc (l.drop (zr l+lit (l.drop (zr l)))):=by rw[enc,dif_pos h]
def diff (xs ys:List Nat):List Nat:=vb ys.length++enc (mix xs ys)
theorem take_small {l:List Nat} (h:∀c∈l,c<256) (n:Nat):∀c∈l.take n,c<256:=fun c hc=>h c (List.mem_of_mem_take hc)
theorem enc_small (k:Nat):∀l:List Nat,l.length≤k→(∀c∈l,c<256)→∀c∈enc l,c<256:=by
 induction k with
 | zero=>
  intro l hl _ c hc;rw[enc_stop (by omega)]at hc;simp at hc
 | succ k ih=>
  intro l hl hb c hc;by_cases h:zr l<l.length
  ·have h1:=zr_full h
   have h2:=lit_pos h1.2 h1.1;rw[enc_more h]at hc;simp only[zw16]at hc;rcases hc with ((hc | hc) | hc) | hc
   ·exact vb_mem _ c hc
   ·exact vb_mem _ c hc
   ·exact take_small (fun d hd=>hb d (List.mem_of_mem_drop hd)) _ c hc
   ·exact ih _ (by rw[zw1];omega) (fun d hd=>hb d (List.mem_of_mem_drop hd)) c hc
  ·rw[enc_stop h]at hc;simp at hc
theorem lit_end (l:List Nat):4≤zr (l.drop (lit l))∨zr (l.drop (lit l))=(l.drop (lit l)).length:=by
 induction l with
 | nil=>right;simp[zr]
 | cons c cs ih=>
  by_cases h:4≤zr (c::cs)∨zr (c::cs)=(c::cs).length
  ·rw[lit_stop h,zw28];exact h
  ·rw[lit,if_neg h,List.drop_succ_cons];exact ih
theorem vb_two {n:Nat} (h:n<16384):(vb n).length≤2:=vb_len 1 n (by omega)
theorem vb_one {n:Nat} (h:n<128):(vb n).length=1:=by rw[vb_small h];rfl
theorem enc_len (k:Nat):∀l:List Nat,l.length≤k→l.length<16384→(enc l).length≤l.length+3∧(4≤zr l∨zr l=l.length→(enc l).length≤l.length):=by
 induction k with
 | zero=>
  intro l hl _;rw[enc_stop (by omega)];simp
 | succ k ih=>
  intro l hl hb;by_cases h:zr l<l.length
  ·have h1:=zr_full h
   have h2:=lit_pos h1.2 h1.1;have h3:=lit_le (l.drop (zr l));have h4:=lit_end (l.drop (zr l));rw[zw31]at h4;have h5:=(ih (l.drop (zr l+lit (l.drop (zr l)))) (by rw[zw1];omega) (by rw[zw1];omega)).2 h4;rw[zw1]at h3 h5;rw[enc_more h];simp only[zw0,zw2,zw1];have v1:=vb_two (n:=zr l) (by omega);have v2:=vb_two (n:=lit (l.drop (zr l))) (by omega);have v0:zr l<4→(vb (zr l)).length=1:=fun hz=>vb_one (by omega);have hmin:min (lit (l.drop (zr l))) (l.length-zr l)=lit (l.drop (zr l)):=Nat.min_eq_left h3;rw[hmin];refine⟨?_,fun hz=>?_⟩
   ·by_cases hz:zr l<4
    ·have:=v0 hz;omega
    ·omega
   ·omega
  ·rw[enc_stop h]
   simp
theorem mix_len (xs ys:List Nat):(mix xs ys).length=ys.length:=mixK_len _ _ _
theorem diff_len (xs ys:List Nat) (h:ys.length≤3000):(diff xs ys).length≤ys.length+2*(ys.length/5)+12:=by
 unfold diff;have h1:=(enc_len _ (mix xs ys) (zw8 _) (by rw[mix_len];omega)).1;have h2:=vb_two (n:=ys.length) (by omega);rw[mix_len]at h1;rw[zw0];omega
theorem mix_at (xs ys:List Nat) (j:Nat) (hj:j<ys.length):(mix xs ys).getD j 0=if j<xs.length then ys.getD j 0 ^^^xs.getD j 0 else ys.getD j 0:=mixK_at _ xs ys j hj
theorem mix_small {xs ys:List Nat} (hx:∀j,xs.getD j 0<256) (hy:∀j,ys.getD j 0<256):∀j,(mix xs ys).getD j 0<256:=mixK_small _ hx hy
theorem diff_small {xs ys:List Nat} (hx:∀j,xs.getD j 0<256) (hy:∀j,ys.getD j 0<256):∀j,(diff xs ys).getD j 0<256:=
 small_app (vb_byte _) (small_mem (enc_small _ _ (zw8 _) (mem_small (mix_small hx hy))))
def lay (x:List Nat) (i:Nat) (ys:List Nat):List Nat:=x.take i++ys++x.drop (i+ys.length)
def pcs (at_:Nat) (l:List Nat):List (Nat × List Nat):=
 if h:zr l<l.length then
  (at_+zr l,(l.drop (zr l)).take (lit (l.drop (zr l))))::pcs (at_+(zr l+lit (l.drop (zr l)))) (l.drop (zr l+lit (l.drop (zr l))))
 else []
termination_by l.length
decreasing_by
 have h1:=zr_full h;have h2:=lit_pos h1.2 h1.1;rw[zw1];omega
open Go.ChangeShapes Go.WideShapes Go.ChangeAt Go.RowKit Go.Shelf
abbrev Run (n:Nat):= {t:Nat × Nat × Nat//t.1≤n∧t.2.1≤t.2.2∧t.2.2≤n}
def encR (n g c:Nat) (t:Run n):Array Value:= #[.int .i64 (t.1.1:Int),.slice (some ⟨g,t.1.2.1,none⟩) (t.1.2.2-t.1.2.1) (c-t.1.2.1)]
def txt (xs:List Nat) {n:Nat} (t:Run n):List Nat:=vb t.1.1++vb (t.1.2.2-t.1.2.1)++(xs.drop t.1.2.1).take (t.1.2.2-t.1.2.1)
def txts (xs:List Nat) {n:Nat} (l:List (Run n)):List Nat:=(l.map (txt xs)).flatten
def Keep2 (x g:Nat) (w w':World):Prop:=w.heap.size≤w'.heap.size∧∀k,k=x∨k=g→k<w.heap.size→w'.heap[k]? =w.heap[k]?
def ItRel (xb g c:Nat) (xs:List Nat) (J:List (Run xs.length)→World→Prop) (av:Value) (wr:World):Prop:=
 ∃(k:Nat) (pre:List (Run xs.length)),k≤xs.length∧av= .int .i64 (k:Int)∧pre.length≤k∧txts xs pre++enc (xs.drop k)=enc xs∧J pre wr∧
  wr.cell? ⟨xb,0,none⟩=some (.slice (some ⟨g,0,none⟩) xs.length c)∧Bs wr (some ⟨g,0,none⟩) xs.length xs
def InRel (xs:List Nat) (j:Nat) (av nv:Value):Prop:=
 ∃i:Nat,j≤i∧i≤xs.length∧av= .int .i64 (i:Int)∧nv= .int .i64 (zr (xs.drop i):Nat)∧lit (xs.drop j)=(i-j)+lit (xs.drop i)
attribute [local go_sem] Oper.semAt_some

theorem bs_cut {w:World} {g n:Nat} {xs:List Nat} (h:Bs w (some ⟨g,0,none⟩) n xs) (a m:Nat) (ham:a+m≤n):Bs w (some ⟨g,a,none⟩) m ((xs.drop a).take m):=by
 have hl:=h.1;refine⟨by rw[zw2,zw1];omega,fun j=>?_,fun hp=>?_⟩
 ·rcases Nat.lt_or_ge j m with hj | hj
  ·rw[zw5,List.getElem?_take_of_lt hj,List.getElem?_drop,←zw5];exact h.2.1 _
  ·rw[zw5,List.getElem?_eq_none (by rw[zw2];omega)];simp
 ·obtain⟨b,o,he,hlt,hc⟩:=h.2.2 (by omega)
  obtain⟨rfl,rfl⟩:b=g∧o=0:=by cases he;exact⟨rfl,rfl⟩
  refine⟨b,a,rfl,hlt,fun j hj=>?_⟩;have:=hc (a+j) (by omega);rw[Nat.zero_add]at this;rw[this,zw5,zw5,List.getElem?_take_of_lt hj,List.getElem?_drop]
def EncW (w:World) (D xb:Nat) (sl:Value) (zs:List Nat) (W:World):Prop:=
 ((∃v,Boxed W D 22 v∧W.ownsRow w.heap.size 5 1 v zs.length (c8 zs)∧True)∧Boxed W xb 22 sl)∧Ext w W
def Rd (xb g:Nat) (W W':World):Prop:=KeepsOthers W W'∧Keep2 xb g W W'
end Go.Proofs.YtbopblbhjcemaaaGreatDoor.Delta
