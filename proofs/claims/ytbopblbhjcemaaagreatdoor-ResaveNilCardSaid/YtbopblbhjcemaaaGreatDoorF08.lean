
import Derived.Test.YtbopblbhjcemaaaGreatDoorF06
import Derived.Test.YtbopblbhjcemaaaGreatDoorF07
set_option maxHeartbeats 16000000
set_option maxRecDepth 100000
set_option linter.all false
open Go.ChangeShapes Go.WideShapes Go.ChangeAt Go.RowKit
namespace Go.Proofs.YtbopblbhjcemaaaGreatDoor.Chk
open Wire
def crc (xs:List Nat):Nat:=(Crc.moreW 0#32 xs).toNat
theorem crc_lt (xs:List Nat):crc xs<4294967296:=(Crc.moreW 0#32 xs).isLt
def how (xs:List Nat):Nat:=if (Lz.pk xs 0 0).length<xs.length then 1 else 0
def body (xs:List Nat):List Nat:=if (Lz.pk xs 0 0).length<xs.length then Lz.pk xs 0 0 else xs
def head (kind:Nat) (xs:List Nat):List Nat:=kind::how xs::(vb xs.length++(vb (body xs).length++body xs))
def chunk (kind:Nat) (xs:List Nat):List Nat:=head kind xs++fx (crc (head kind xs))
theorem body_len (xs:List Nat):(body xs).length≤xs.length:=by
 unfold body;split<;>omega
theorem body_small {xs:List Nat} (hx:∀j,xs.getD j 0<256):∀j,(body xs).getD j 0<256:=by
 unfold body;split
 ·exact Lz.pk_byte hx
 ·exact hx
theorem how_le (xs:List Nat):how xs≤1:=by unfold how;split<;>omega
theorem head_len (kind:Nat) (xs:List Nat):(head kind xs).length=2+(vb xs.length).length+(vb (body xs).length).length+(body xs).length:=by
 simp[head];omega
theorem chunk_len (kind:Nat) (xs:List Nat):(chunk kind xs).length=(head kind xs).length+4:=by simp[chunk,fx]
theorem chunk_pos (kind:Nat) (xs:List Nat):6≤(chunk kind xs).length:=by rw[chunk_len,head_len];omega
theorem head_small {kind:Nat} (hk:kind<256) {xs:List Nat} (hx:∀j,xs.getD j 0<256):∀c∈head kind xs,c<256:=by
 intro c hc;unfold head at hc;rcases zw30.1 hc with rfl | hc
 ·exact hk
 ·rcases zw30.1 hc with rfl | hc
  ·have:=how_le xs;omega
  ·rcases zw16.1 hc with hc | hc
   ·exact vb_mem _ c hc
   ·rcases zw16.1 hc with hc | hc
    ·exact vb_mem _ c hc
    ·exact mem_small (body_small hx) c hc
theorem chunk_small {kind:Nat} (hk:kind<256) {xs:List Nat} (hx:∀j,xs.getD j 0<256):∀c∈chunk kind xs,c<256:=by
 intro c hc;rcases zw16.1 hc with hc | hc
 ·exact head_small hk hx c hc
 ·exact fx_mem (crc_lt _) c hc
inductive RC where
 | bad (e:Int)
 | ok (how size n k:Nat)
def scan (L:List Nat):RC:=
 if L.length<2 then .bad 3
 else if 1<L.getD 1 0 then .bad 4
 else match lim (vr 0 0 (L.drop 2))with
  | .short=> .bad 3
  | .form=> .bad 4
  | .ok size j=>match lim (vr 0 0 (L.drop (2+j)))with
   | .short=> .bad 3
   | .form=> .bad 4
   | .ok n i=>if (L.getD 1 0=0∧n≠size)∨(L.getD 1 0=1∧size≤n)then .bad 4 else .ok (L.getD 1 0) size n (2+j+i)
inductive RD where
 | bad (e:Int)
 | ok (kind how size:Nat) (body:List Nat) (next:Nat)
def read (L:List Nat):RD:=
 match scan L with
 | .bad e=> .bad e
 | .ok h size n k=>
  if L.length<k+n+4 then .bad 3
  else if be ((L.drop (k+n)).take 4)≠crc (L.take (k+n))then .bad 5
  else .ok (L.getD 0 0) h size ((L.drop k).take n) (k+n+4)
theorem be_lt {ys:List Nat} (h:∀c∈ys,c<256) (hl:ys.length≤4):be ys<4294967296:=by
 unfold be
 match ys,hl,h with
 | [],_,_=>simp
 | [a],_,h=>have:=h a (by simp);simp only[List.foldl_cons,List.foldl_nil];omega
 | [a,b],_,h=>have:=h a (by simp);have:=h b (by simp);simp only[List.foldl_cons,List.foldl_nil];omega
 | [a,b,c],_,h=>have:=h a (by simp);have:=h b (by simp);have:=h c (by simp);simp only[List.foldl_cons,List.foldl_nil];omega
 | [a,b,c,d],_,h=>have:=h a (by simp);have:=h b (by simp);have:=h c (by simp);have:=h d (by simp);simp only[List.foldl_cons,List.foldl_nil];omega
 | _::_::_::_::_::_,hl,_=>simp at hl
theorem vr_take (xs:List Nat):∀(size acc m:Nat),size≤9→10≤size+m→vr size acc (xs.take m)=vr size acc xs:=by
 induction xs with
 | nil=>intro size acc m _ _;simp
 | cons c cs ih=>
  intro size acc m hs hm;obtain⟨m,rfl⟩:∃k,m=k+1:=⟨m-1,by omega⟩;rw[List.take_succ_cons,vr,vr];by_cases h1:(size=9∧1<c)∨(0<size∧c=0)
  ·rw[if_pos h1,if_pos h1]
  ·rw[if_neg h1,if_neg h1]
   by_cases h2:c<128
   ·rw[if_pos h2,if_pos h2]
   ·rw[if_neg h2,if_neg h2]
    exact ih _ _ _ (by omega) (by omega)
theorem vr_low (xs:List Nat):∀(size acc v k:Nat),size≤9→vr size acc xs= .ok v k→k≤10∧size+1≤k:=by
 induction xs with
 | nil=>intro size acc v k _ h;cases h
 | cons c cs ih=>
  intro size acc v k hs h;rw[vr]at h;by_cases h1:(size=9∧1<c)∨(0<size∧c=0)
  ·rw[if_pos h1]at h;cases h
  ·rw[if_neg h1]at h
   by_cases h2:c<128
   ·rw[if_pos h2]at h;cases h;omega
   ·rw[if_neg h2]at h
    have:=ih _ _ v k (by omega) h;omega
theorem vr_len (xs:List Nat):∀(size acc v k:Nat),vr size acc xs= .ok v k→k≤size+xs.length:=by
 induction xs with
 | nil=>intro size acc v k h;cases h
 | cons c cs ih=>
  intro size acc v k h;rw[zw3];rw[vr]at h;by_cases h1:(size=9∧1<c)∨(0<size∧c=0)
  ·rw[if_pos h1]at h;cases h
  ·rw[if_neg h1]at h
   by_cases h2:c<128
   ·rw[if_pos h2]at h;cases h;omega
   ·rw[if_neg h2]at h
    have:=ih _ _ v k h;omega
theorem lim_low {xs:List Nat} {v k:Nat} (h:lim (vr 0 0 xs)= .ok v k):k≤10∧1≤k:=by
 cases hv:vr 0 0 xs with
 | short=>rw[hv]at h;cases h
 | form=>rw[hv]at h;cases h
 | ok a b=>
  have:=vr_low xs 0 0 a b (by omega) hv;rw[hv]at h;simp only[lim]at h
  split at h<;>cases h
  omega
theorem getD_take (L:List Nat) (m i:Nat) (h:i<m):(L.take m).getD i 0=L.getD i 0:=by
 simp[zw5,h]
theorem scan_take (L:List Nat):scan (L.take 22)=scan L:=by
 have e1:(L.take 22).drop 2=(L.drop 2).take 20:=by rw[List.drop_take]
 have e2:=vr_take (L.drop 2) 0 0 20 (by omega) (by omega);have e3:=getD_take L 22 1 (by omega);have e4:(L.take 22).length<2↔L.length<2:=by rw[zw2];omega
 unfold scan;rw[e1,e2,e3];by_cases h:L.length<2
 ·rw[if_pos h,if_pos (e4.2 h)]
 ·rw[if_neg h,if_neg (fun k=>h (e4.1 k))]
  cases hv:lim (vr 0 0 (L.drop 2))with
  | short=>rfl
  | form=>rfl
  | ok size j=>
   have hj:=lim_low hv;simp only;have e5:(L.take 22).drop (2+j)=(L.drop (2+j)).take (20-j):=by rw[List.drop_take];congr 1;omega
   rw[e5,vr_take _ 0 0 (20-j) (by omega) (by omega)]
def b1 (e:Int) (rest:List Nat):Nat × Nat × Int:=if e≠0 then(0,0,e)else match rest with | []=>(0,0,3) | c::_=>(c,1,0)
def i1 (e:Int) (rest:List Nat):Nat × Nat × Int:=if e≠0 then(0,0,e)else match lim (vr 0 0 rest)with | .short=>(0,0,3) | .form=>(0,0,4) | .ok v k=>(v,k,0)
def rf (b:Bool) (wr e:Int):Int:=if b=true∧wr=0∧e=0 then 4 else wr
theorem rf_no {wr e:Int}:rf false wr e=wr:=by simp[rf]
theorem rf_bad {b:Bool} {wr e:Int} (h:e≠0):rf b wr e=wr:=by simp[rf,h]
theorem scan_run (M:List Nat) (kind j1 hw j2 size j3 n j4:Nat) (e1 e2 e3 e4 w1 w2 w3:Int)
  (h1:b1 0 M=(kind,j1,e1)) (h2:b1 e1 (M.drop j1)=(hw,j2,e2)) (hw1:w1=rf (decide (1<hw)) 0 e2)
  (h3:i1 e2 (M.drop (j1+j2))=(size,j3,e3)) (h4:i1 e3 (M.drop (j1+j2+j3))=(n,j4,e4))
  (hw2:w2=rf (decide (hw=0∧n≠size)) w1 e4) (hw3:w3=rf (decide (hw=1∧size≤n)) w2 e4):
  match scan M with
  | .bad f=>(if w3≠0 then w3 else e4)=f∧f≠0
  | .ok h s m k=>(if w3≠0 then w3 else e4)=0∧hw=h∧size=s∧n=m∧j1+j2+j3+j4=k∧kind=M.getD 0 0:=by
 cases M with
 | nil=>
  simp only[b1,ne_eq,not_true_eq_false,if_false,Prod.mk.injEq]at h1;obtain⟨rfl,rfl,rfl⟩:=h1;simp[b1]at h2;obtain⟨rfl,rfl,rfl⟩:=h2;simp[i1]at h3;obtain⟨rfl,rfl,rfl⟩:=h3;simp[i1]at h4;obtain⟨rfl,rfl,rfl⟩:=h4;simp[rf]at hw1 hw2 hw3;subst hw1
  (try simp at hw2)
  subst hw2
  (try simp at hw3)
  subst hw3;simp[scan]
 | cons a M=>
  simp only[b1,ne_eq,not_true_eq_false,if_false,Prod.mk.injEq]at h1;obtain⟨rfl,rfl,rfl⟩:=h1
  cases M with
  | nil=>
   simp[b1]at h2;obtain⟨rfl,rfl,rfl⟩:=h2;simp[i1]at h3;obtain⟨rfl,rfl,rfl⟩:=h3;simp[i1]at h4;obtain⟨rfl,rfl,rfl⟩:=h4;simp[rf]at hw1 hw2 hw3;subst hw1
   (try simp at hw2)
   subst hw2
   (try simp at hw3)
   subst hw3;simp[scan]
  | cons b M=>
   simp[b1]at h2;obtain⟨rfl,rfl,rfl⟩:=h2;have e0:¬(a::b::M).length<2:=by simp
   have ed:(a::b::M).drop 2=M:=rfl;have eg:(a::b::M).getD 1 0=b:=rfl;unfold scan;rw[if_neg e0,ed,eg];by_cases hb:1<b
   ·rw[if_pos hb]
    have e1:w1=4:=by rw[hw1];simp[rf,hb]
    have e2:w2=4:=by rw[hw2,e1];simp[rf]
    have e3:w3=4:=by rw[hw3,e2];simp[rf]
    rw[e3];simp
   ·rw[if_neg hb]
    have e1:w1=0:=by rw[hw1];simp[rf,hb]
    subst e1;rw[show 1+1=2 from rfl,ed]at h3;simp only[i1,ne_eq,not_true_eq_false,if_false]at h3;cases hv:lim (vr 0 0 M)with
    | short=>
     rw[hv]at h3;simp at h3;obtain⟨rfl,rfl,rfl⟩:=h3;simp[i1]at h4;obtain⟨rfl,rfl,rfl⟩:=h4;rw[rf_bad (by decide)]at hw2;subst hw2;rw[rf_bad (by decide)]at hw3;subst hw3;simp
    | form=>
     rw[hv]at h3;simp at h3;obtain⟨rfl,rfl,rfl⟩:=h3;simp[i1]at h4;obtain⟨rfl,rfl,rfl⟩:=h4;rw[rf_bad (by decide)]at hw2;subst hw2;rw[rf_bad (by decide)]at hw3;subst hw3;simp
    | ok v k=>
     rw[hv]at h3;simp at h3;obtain⟨rfl,rfl,rfl⟩:=h3;simp only[i1,ne_eq,not_true_eq_false,if_false]at h4;rw[show 1+1+k=2+k from by omega]at h4;simp only;cases hv2:lim (vr 0 0 ((a::b::M).drop (2+k)))with
     | short=>
      rw[hv2]at h4;simp at h4;obtain⟨rfl,rfl,rfl⟩:=h4;rw[rf_bad (by decide)]at hw2;subst hw2;rw[rf_bad (by decide)]at hw3;subst hw3;simp
     | form=>
      rw[hv2]at h4;simp at h4;obtain⟨rfl,rfl,rfl⟩:=h4;rw[rf_bad (by decide)]at hw2;subst hw2;rw[rf_bad (by decide)]at hw3;subst hw3;simp
     | ok u i=>
      rw[hv2]at h4;simp at h4;obtain⟨rfl,rfl,rfl⟩:=h4;simp only;by_cases hc:(b=0∧u≠v)∨(b=1∧v≤u)
      ·rw[if_pos hc]
       rcases hc with hc | hc
       ·have e2:w2=4:=by rw[hw2];simp[rf,hc]
        have e3:w3=4:=by rw[hw3,e2];simp[rf]
        rw[e3];simp
       ·have e2:w2=0:=by rw[hw2];simp[rf,hc]
        have e3:w3=4:=by rw[hw3,e2];simp[rf,hc]
        rw[e3];simp
      ·rw[if_neg hc]
       have e2:w2=0:=by rw[hw2];simp only[rf];rw[if_neg];rintro ⟨h,_⟩;exact hc (.inl (of_decide_eq_true h))
       have e3:w3=0:=by rw[hw3,e2];simp only[rf];rw[if_neg];rintro ⟨h,_⟩;exact hc (.inr (of_decide_eq_true h))
       rw[e3];refine⟨by simp,rfl,rfl,rfl,by omega,rfl⟩
theorem blk_kept {w w':World} {g r:Nat} {t:TypeId} {cs:Array Value} (h:Blk w g t cs) (k:w.grownBy w' (some r)) (hne:g≠r):Blk w' g t cs:=(k.block g h.lt (by simpa using hne)).trans h
def Scn (w:World) (sb g:Nat) (wr:Int):Prop:=Blk w sb 217 #[.pointer (some ⟨g,0,none⟩),.int .i64 wr]
theorem Scn.cells {w:World} {sb g:Nat} {wr:Int} (h:Scn w sb g wr):w.cell? ⟨sb,0,none⟩=some (.pointer (some ⟨g,0,none⟩))∧w.cell? ⟨sb,1,none⟩=some (.int .i64 wr)∧w.frozen? ⟨sb,0,none⟩=false∧w.frozen? ⟨sb,1,none⟩=false:=Blk.two h
theorem first_nil (w:World):Calls Tryz.prog 143 #[.slice none 0 0] w fun e w'=>e= .returned (.int .u8 0)∧w=w':=by
 go_enter Tryz.func143,Tryz.ntmps143;go_wp2_with fail;go_ret;exact⟨rfl,rfl⟩
theorem first_one (A:Option Addr) (c x:Nat) (w:World) (h:Bs w A 1 [x]):Calls Tryz.prog 143 #[.slice A 1 c] w fun e w'=>e= .returned (.int .u8 (x:Int))∧w=w':=by
 obtain⟨b,o,rfl,hl,hc⟩:=h.2.2 (by omega);have c0:w.cell? ⟨b,o,none⟩=some (.int .u8 (x:Int)):=hc 0 (by omega);have hx:x<256:=h.2.1 0;clear h hc hl;go_enter Tryz.func143,Tryz.ntmps143;go_wp2_with fail;go_ret;exact⟨rfl,rfl⟩
theorem fault (sb g:Nat) (s:Value) (at_:Nat) (wr e:Int) (w:World) (h:Scn w sb g wr) (hr:Rdr w g s at_ e):
  Calls Tryz.prog 145 #[.pointer (some ⟨sb,0,none⟩)] w fun e' w'=>e'= .returned (.int .i64 (if wr≠0 then wr else e))∧w=w':=by
 obtain⟨c0,c1,f0,f1⟩:=h.cells;have HE:=zh (err_any g s at_ e w hr);clear h hr;by_cases hz:wr=0
 ·subst hz
  go_enter Tryz.func145,Tryz.ntmps145;go_wp2_with fail;refine(HE.out).mono ?_;rintro e1 w1 ⟨rfl,rfl⟩;go_wp2_with fail;go_ret;exact⟨rfl,rfl⟩
 ·have hb:(wr==0)=false:=zw12.2 hz
  have HZ:=zh hz;clear hz;go_enter Tryz.func145,Tryz.ntmps145;go_wp2_with fail;go_ret;exact⟨rfl,rfl⟩
theorem refuse (b:Bool) (sb g:Nat) (s:Value) (at_:Nat) (wr e:Int) (w:World) (h:Scn w sb g wr) (hr:Rdr w g s at_ e):
  Calls Tryz.prog 144 #[.pointer (some ⟨sb,0,none⟩),.bool b] w fun e' w'=>e'= .returned (.tuple #[])∧Scn w' sb g (rf b wr e)∧w.grownBy w' (some sb):=by
 obtain⟨c0,c1,f0,f1⟩:=h.cells;have HF:=zh (fault sb g s at_ wr e w h hr);have HS:=zh h;clear h hr
 cases b with
 | false=>
  go_enter Tryz.func144,Tryz.ntmps144;go_wp2_with fail
  go_end0
  exact⟨rfl,by rw[rf_no];exact HS.out,gb_refl _ _⟩
 | true=>
  generalize hf:(if wr≠0 then wr else e)=f at*;have HFE:=zh hf;clear hf;by_cases hz:f=0
  ·subst hz
   go_enter Tryz.func144,Tryz.ntmps144;go_wp2_with fail;refine(HF.out).mono ?_;rintro e1 w1 ⟨rfl,rfl⟩;go_wp2_with fail
   go_end0
   have hw:wr=0∧e=0:=by
    have:=HFE.out;by_cases h:wr=0
    ·rw[if_neg (by simpa using h)]at this;exact⟨h,this⟩
    ·rw[if_pos h]at this;exact absurd this h
   refine⟨rfl,?_,gb_set _ _ _ _⟩;have:rf true wr e=4:=by simp[rf,hw.1,hw.2]
   rw[this];exact Blk.set_ HS.out 1 _
  ·have hb:(f==0)=false:=zw12.2 hz
   have hw:rf true wr e=wr:=by
    have:=HFE.out;unfold rf;rw[if_neg];rintro ⟨_,h1,h2⟩;rw[h1,h2]at this;exact hz this.symm
   have HW:=zh hw;clear hz hw;go_enter Tryz.func144,Tryz.ntmps144;go_wp2_with fail;refine(HF.out).mono ?_;rintro e1 w1 ⟨rfl,rfl⟩;go_wp2_with fail
   go_end0
   exact⟨rfl,by rw[HW.out];exact HS.out,gb_refl _ _⟩
def B1Post (w:World) (g:Nat) (s:Value) (at_:Nat) (R:Nat × Nat × Int) (e':Ending) (w':World):Prop:=
 Eff w w' g s (at_+R.2.1) R.2.2∧((e'= .returned (.slice none 0 0)∧R.1=0)∨∃A c,e'= .returned (.slice A 1 c)∧Bs w' A 1 [R.1])
theorem byte_any (g n c at_:Nat) (e:Int) (A:Option Addr) (xs:List Nat) (w:World) (h:Rdr w g (.slice A n c) at_ e) (hB:RB w g A n c xs) (hat:at_≤n) (hn:n≤4000000000):
  Calls Tryz.prog 134 #[.pointer (some ⟨g,0,none⟩),.int .i64 1] w (B1Post w g (.slice A n c) at_ (b1 e (xs.drop at_))):=by
 by_cases he:e=0
 ·subst he
  refine(Wire.bytes g n c at_ 1 (by omega) (by omega) A xs w h hB hat hn).mono ?_;intro e' w' hp;unfold B1Post b1;rw[if_neg (by simp)]
  cases hr:xs.drop at_ with
  | nil=>
   rw[hr]at hp;rcases hp with ⟨h0,_⟩ | ⟨_,_,rfl,hE⟩ | ⟨_,h2,_⟩
   ·omega
   ·exact⟨hE,.inl ⟨rfl,rfl⟩⟩
   ·simp at h2
  | cons x cs=>
   rw[hr]at hp;rcases hp with ⟨h0,_⟩ | ⟨_,h2,_⟩ | ⟨_,h2,⟨v,rfl,A',c',rfl,q1,q2,q3,hB'⟩,hE⟩
   ·omega
   ·rw[zw3]at h2;omega
   ·exact⟨hE,.inr ⟨A',c',rfl,hB'⟩⟩
 ·refine(bytes_err g at_ _ 1 e w h (zw12.2 he)).mono ?_
  rintro e' w' ⟨rfl,hE⟩;unfold B1Post b1;rw[if_pos he];exact⟨h.eff hE,.inl ⟨rfl,rfl⟩⟩
def I1Post (w:World) (g:Nat) (s:Value) (at_:Nat) (R:Nat × Nat × Int) (e':Ending) (w':World):Prop:=
 Eff w w' g s (at_+R.2.1) R.2.2∧e'= .returned (.int .i64 (R.1:Int))
theorem int_any (g n c at_:Nat) (e:Int) (A:Option Addr) (xs:List Nat) (w:World) (h:Rdr w g (.slice A n c) at_ e) (hB:Bs w A n xs) (hat:at_≤n) (hn:n≤4000000000):
  Calls Tryz.prog 60 #[.pointer (some ⟨g,0,none⟩)] w (I1Post w g (.slice A n c) at_ (i1 e (xs.drop at_))):=by
 by_cases he:e=0
 ·subst he
  refine(Wire.int g n c at_ A xs w h hB hat hn).mono ?_;rintro e' w' ⟨z,j,err,rfl,hz,hE,hm⟩;unfold I1Post i1;rw[if_neg (by simp)];cases hv:lim (vr 0 0 (xs.drop at_))with
  | short=>rw[hv]at hm;obtain⟨rfl,rfl,rfl⟩:=hm;exact⟨hE,rfl⟩
  | form=>rw[hv]at hm;obtain⟨rfl,rfl,rfl⟩:=hm;exact⟨hE,rfl⟩
  | ok v k=>rw[hv]at hm;obtain⟨rfl,rfl,rfl⟩:=hm;exact⟨hE,rfl⟩
 ·refine(int_err g at_ _ e w h (zw12.2 he)).mono ?_
  rintro e' w' ⟨rfl,hE⟩;unfold I1Post i1;rw[if_pos he];exact⟨h.eff hE,rfl⟩
theorem i1_le (e:Int) (rest:List Nat):(i1 e rest).1≤2147483647∧(i1 e rest).2.1≤rest.length:=by
 unfold i1;by_cases he:e=0
 ·rw[if_neg (by simpa using he)]
  cases hv:lim (vr 0 0 rest)with
  | short=>simp
  | form=>simp
  | ok v k=>
   refine⟨lim_le hv,?_⟩
   cases hr:vr 0 0 rest with
   | short=>rw[hr]at hv;cases hv
   | form=>rw[hr]at hv;cases hv
   | ok a b=>
    have hab:b=k:=by
     rw[hr]at hv;simp only[lim]at hv
     split at hv<;>cases hv
     rfl
    subst hab;have:=vr_len rest 0 0 a b hr;show b≤rest.length;omega
 ·rw[if_pos he];simp
structure RS (w0 w:World) (N g sb:Nat) (A:Option Addr) (n c:Nat) (M:List Nat) (at_:Nat) (e wr:Int):Prop where
 rd:Rdr w g (.slice A n c) at_ e
 rb:RB w g A n c M
 sc:Scn w sb g wr
 ex:Ext w0 w
 gs:g≠sb
 g0:w0.heap.size≤g
 s0:w0.heap.size≤sb
 gN:g<N
 sN:sb<N
 ap:0<n→∀a,A=some a→a.block≠sb
 aN:0<n→∀a,A=some a→a.block<N
 nN:N≤w.heap.size
theorem rb_kept {w w':World} {g r:Nat} {A:Option Addr} {n c:Nat} {xs:List Nat} (hB:RB w g A n c xs) (h:w.grownBy w' (some r)) (hne:0<n→∀a,A=some a→a.block≠r):RB w' g A n c xs:=by
 refine⟨?_,hB.2⟩;rcases Nat.eq_zero_or_pos n with h0 | hp
 ·subst h0
  have:xs=[]:=zw19 hB.1.1;subst this;exact Bs.none _ _
 ·exact hB.1.kept h (fun a ha=>by have:=hne hp a ha;simpa using this)
section
variable {w0 w w' : World} {N g sb : Nat} {A : Option Addr} {n c : Nat} {M : List Nat} {at_ : Nat} {e wr : Int}
theorem RS.eff (h:RS w0 w N g sb A n c M at_ e wr) {j:Nat} {f:Int} (hE:Eff w w' g (.slice A n c) j f):RS w0 w' N g sb A n c M j f wr:=
 ⟨hE.1,h.rb.eff hE.2,blk_kept h.sc hE.2 h.gs.symm,ext_grown h.ex hE.2 (fun k hk=>by obtain rfl:=zw13 hk;exact h.g0),h.gs,h.g0,h.s0,h.gN,h.sN,h.ap,h.aN,zw10 h.nN hE.2.size⟩
theorem RS.scn (h:RS w0 w N g sb A n c M at_ e wr) {wr':Int} (hS:Scn w' sb g wr') (hg:w.grownBy w' (some sb)):RS w0 w' N g sb A n c M at_ e wr':=
 ⟨blk_kept h.rd hg h.gs,rb_kept h.rb hg h.ap,hS,ext_grown h.ex hg (fun k hk=>by obtain rfl:=zw13 hk;exact h.s0),h.gs,h.g0,h.s0,h.gN,h.sN,h.ap,h.aN,zw10 h.nN hg.size⟩
theorem RS.far (h:RS w0 w N g sb A n c M at_ e wr) {r:Nat} (hr:N≤r) (hg:w.grownBy w' (some r)):RS w0 w' N g sb A n c M at_ e wr:=by
 have:=h.gN;have:=h.sN;have:=h.g0;exact⟨blk_kept h.rd hg (by omega),rb_kept h.rb hg (fun hp a ha=>by have:=h.aN hp a ha;omega),blk_kept h.sc hg (by omega),ext_grown h.ex hg (fun k hk=>by obtain rfl:=zw13 hk;omega),h.gs,h.g0,h.s0,h.gN,h.sN,h.ap,h.aN,zw10 h.nN hg.size⟩
theorem RS.far2 (h:RS w0 w N g sb A n c M at_ e wr) {r:Nat} (hr:w0.heap.size≤r) (h1:r≠g) (h2:r≠sb) (h3:0<n→∀a,A=some a→a.block≠r) (hg:w.grownBy w' (some r)):RS w0 w' N g sb A n c M at_ e wr:=
 ⟨blk_kept h.rd hg h1.symm,rb_kept h.rb hg h3,blk_kept h.sc hg h2.symm,ext_grown h.ex hg (fun k hk=>by obtain rfl:=zw13 hk;exact hr),h.gs,h.g0,h.s0,h.gN,h.sN,h.ap,h.aN,zw10 h.nN hg.size⟩
theorem RS.ext (h:RS w0 w N g sb A n c M at_ e wr) (hE:Ext w w'):RS w0 w' N g sb A n c M at_ e wr:=
 ⟨h.rd.ext hE,⟨h.rb.1.ext hE,h.rb.2⟩,Blk.ext h.sc hE,zxt h.ex hE,h.gs,h.g0,h.s0,h.gN,h.sN,h.ap,h.aN,zw10 h.nN hE.size⟩
theorem RS.byte (h:RS w0 w N g sb A n c M at_ e wr) (hat:at_≤n) (hn:n≤4000000000):
  Calls Tryz.prog 134 #[.pointer (some ⟨g,0,none⟩),.int .i64 1] w (B1Post w g (.slice A n c) at_ (b1 e (M.drop at_))):=byte_any g n c at_ e A M w h.rd h.rb hat hn
theorem RS.int (h:RS w0 w N g sb A n c M at_ e wr) (hat:at_≤n) (hn:n≤4000000000):
  Calls Tryz.prog 60 #[.pointer (some ⟨g,0,none⟩)] w (I1Post w g (.slice A n c) at_ (i1 e (M.drop at_))):=int_any g n c at_ e A M w h.rd h.rb.1 hat hn
theorem RS.fault (h:RS w0 w N g sb A n c M at_ e wr):Calls Tryz.prog 145 #[.pointer (some ⟨sb,0,none⟩)] w fun e' w'=>e'= .returned (.int .i64 (if wr≠0 then wr else e))∧w=w':=Chk.fault sb g _ at_ wr e w h.sc h.rd
theorem RS.refuse (h:RS w0 w N g sb A n c M at_ e wr) (b:Bool):Calls Tryz.prog 144 #[.pointer (some ⟨sb,0,none⟩),.bool b] w fun e' w'=>e'= .returned (.tuple #[])∧Scn w' sb g (rf b wr e)∧w.grownBy w' (some sb):=Chk.refuse b sb g _ at_ wr e w h.sc h.rd
end
theorem hmx:Tryz.prog.follows .mixedOrders=true:=by kernel_rfl
def PB (w:World) (pb kind hw:Nat) (size:Int) (v:Value) (end_:Int):Prop:=Blk w pb 206 #[.int .u8 (kind:Int),.int .u8 (hw:Int),.int .i64 size,v,.int .i64 end_]
theorem b1_lt {e:Int} {rest:List Nat} (h:∀c∈rest,c<256):(b1 e rest).1<256∧(b1 e rest).2.1≤rest.length:=by
 unfold b1;by_cases he:e=0
 ·rw[if_neg (by simpa using he)]
  cases rest with
  | nil=>simp
  | cons a l=>exact⟨h a (by simp),by simp⟩
 ·rw[if_pos he];simp
theorem PB.cells {w:World} {pb kind hw:Nat} {size:Int} {v:Value} {end_:Int} (h:PB w pb kind hw size v end_):w.cell? ⟨pb,0,none⟩=some (.int .u8 (kind:Int))∧w.cell? ⟨pb,1,none⟩=some (.int .u8 (hw:Int))∧w.cell? ⟨pb,2,none⟩=some (.int .i64 size)∧w.cell? ⟨pb,3,none⟩=some v∧w.cell? ⟨pb,4,none⟩=some (.int .i64 end_)∧w.frozen? ⟨pb,2,none⟩=false∧w.frozen? ⟨pb,3,none⟩=false∧w.frozen? ⟨pb,4,none⟩=false:=
 ⟨Blk.cell h 0,Blk.cell h 1,Blk.cell h 2,Blk.cell h 3,Blk.cell h 4,Blk.frozen h 2,Blk.frozen h 3,Blk.frozen h 4⟩
theorem RS.eN {w0 w:World} {N g sb:Nat} {A:Option Addr} {n c:Nat} {M:List Nat} {at_:Nat} {e wr:Int} (h:RS w0 w N g sb A n c M at_ e wr):w.cell? ⟨sb,0,none⟩=some (.pointer (some ⟨g,0,none⟩)):=h.sc.cells.1
def SK (g sb:Nat) (w:World):Prop:=w.cell? ⟨sb,0,none⟩=some (.pointer (some ⟨g,0,none⟩))
def FV (w:World) (v:Value) (x:Nat):Prop:=(v= .slice none 0 0∧x=0)∨∃A c,v= .slice A 1 c∧Bs w A 1 [x]
theorem FV.ext {w w':World} {v:Value} {x:Nat} (h:FV w v x) (hE:Ext w w'):FV w' v x:=by
 rcases h with h | ⟨A,c,h1,h2⟩
 ·exact .inl h
 ·exact .inr ⟨A,c,h1,h2.ext hE⟩
theorem FV.first {w:World} {v:Value} {x:Nat} (h:FV w v x):Calls Tryz.prog 143 #[v] w fun e w2=>e= .returned (.int .u8 (x:Int))∧w=w2:=by
 rcases h with ⟨rfl,rfl⟩ | ⟨A,c,rfl,hB⟩
 ·exact first_nil w
 ·exact first_one A c x w hB
theorem b1_fv {w w':World} {g at_:Nat} {s:Value} {R:Nat × Nat × Int} {e:Ending} (h:B1Post w g s at_ R e w'):∃v,e= .returned v∧FV w' v R.1∧Eff w w' g s (at_+R.2.1) R.2.2:=by
 obtain⟨hE,⟨h1,h2⟩ | ⟨A,c,h1,h2⟩⟩:=h
 ·exact⟨_,h1,.inl ⟨rfl,h2⟩,hE⟩
 ·exact⟨_,h1,.inr ⟨A,c,rfl,h2⟩,hE⟩
theorem gb_set5 (w:World) (B:Nat) (a b c d e:Value):w.grownBy (((((w.setCell ⟨B,0,none⟩ a).setCell ⟨B,1,none⟩ b).setCell ⟨B,2,none⟩ c).setCell ⟨B,3,none⟩ d).setCell ⟨B,4,none⟩ e) (some B):=
 gb_trans (gb_trans (gb_trans (gb_trans (gb_set w B 0 a) (gb_set _ B 1 b)) (gb_set _ B 2 c)) (gb_set _ B 3 d)) (gb_set _ B 4 e)
theorem blk_set5 {w:World} {B:Nat} {t:TypeId} {p q r s u:Value} (h:Blk w B t #[p,q,r,s,u]) (a b c d e:Value):Blk (((((w.setCell ⟨B,0,none⟩ a).setCell ⟨B,1,none⟩ b).setCell ⟨B,2,none⟩ c).setCell ⟨B,3,none⟩ d).setCell ⟨B,4,none⟩ e) B t #[a,b,c,d,e]:=
 ((((h.set_ 0 a).set_ 1 b).set_ 2 c).set_ 3 d).set_ 4 e
def readAt (xs:List Nat) (at_:Int):RD:=
 if at_<0∨(xs.length:Int)<at_ then .bad 2
 else match read (xs.drop at_.toNat)with
  | .bad e=> .bad e
  | .ok kind h size ys next=> .ok kind h size ys (at_.toNat+next)
end Go.Proofs.YtbopblbhjcemaaaGreatDoor.Chk
