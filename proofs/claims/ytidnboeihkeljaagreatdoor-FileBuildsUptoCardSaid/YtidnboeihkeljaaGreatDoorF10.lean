
import Derived.Laws.CopyOwn
import Derived.RegionTactic
import Derived.BigRegion
import Derived.WalkLawsBesides
import Derived.LoopTactic
import Derived.RangeFuncNested
import Derived.RangeFuncBound
import Derived.RangeFuncCalls
import Derived.RangeFuncLeaves
import Derived.RangeFuncBox
import Derived.Shelf.Abstract
import Derived.Shelf.RegionOpen
import Derived.OwnWalkIn
import Derived.TacticsInMore
import Derived.LoopNIn
import Derived.LoopIn
import Derived.Test.YtidnboeihkeljaaGreatDoorF07
set_option maxHeartbeats 16000000
set_option maxRecDepth 100000
set_option linter.all false
namespace Go.Proofs.YtidnboeihkeljaaGreatDoor.Delta
open Go.ChangeShapes Go.WideShapes Go.ChangeAt Go.RowKit
open Wire
theorem wpList_copy_all {w:World} {ops:Array Oper} {rest:List Oper} {o:Oper} {a:Act} {Q:Exit→Act→World→Prop} (hgd:o.guard=none) (d s:Operand)
  (ho:o.op= .call {callee:= .builtin .copy,args:= #[d,s],argTypes:= #[48,48]}) (base g n:Nat) (A:Option Addr) (c:Nat) (zs ys:List Nat)
  (hd:a.eval d= .slice (some ⟨g,0,none⟩) n n) (hs:a.eval s= .slice A n c) (hown:w.ownsRow base 5 1 (.slice (some ⟨g,0,none⟩) n n) n (c8 zs)) (hB:Bs w A n ys)
  (h:∀w',w'.ownsRow base 5 1 (.slice (some ⟨g,0,none⟩) n n) n (c8 ys)→w.grownBy w' (some g)→wpList Tryz.prog ops Q rest (a.put o.dst (goInt n)) w'):wpList Tryz.prog ops Q (o::rest) a w:=by
 have hsz:(Tryz.prog.info? 5).map (·.size)=some 1:=by kernel_rfl
 have hl:(c8 ys).length=n:=by rw[c8_len];exact hB.1
 rcases Nat.eq_zero_or_pos n with h0 | hp
 ·subst h0
  have hy:ys=[]:=zw19 hB.1;have hz:zs=[]:=zw19 (by have:=hown.1;rwa [c8_len,Nat.zero_mul]at this);subst hy hz;refine wpList_copy_nothing hgd d s _ _ ho 5 Tryz.underlying48 hsz _ _ 0 0 0 c hd hs rfl ?_;exact h w hown (World.grownBy.refl _ _)
 ·obtain⟨b,ob,rfl,_,hc⟩:=hB.2.2 hp
  rcases hown.2 with ⟨hq,_⟩ | ⟨g',cap,cur,hq,hb,hg,hnc,hcm,hcs,_⟩
  ·simp at hq
  ·simp only[Value.slice.injEq,Option.some.injEq,Addr.mk.injEq,and_true,true_and]at hq
   obtain⟨rfl,rfl⟩:=hq;have hcl:cur.size=n:=by rw[hcs,Nat.mul_one]
   have hfin:(cur.toList.take 0++(c8 ys++cur.toList.drop (0+(c8 ys).length))).toArray=(c8 ys).toArray:=by
    rw[hl,Nat.zero_add,List.drop_of_length_le (by rw[Array.length_toList,hcl];exact zw8 _)];simp
   refine wpList_copy_own hgd d s _ _ ho 5 Tryz.underlying48 hsz g 0 n n ⟨b,ob,none⟩ n c hd hs cur 5 hg (c8 ys) (by rw[hl];exact(Nat.min_self n).symm) (fun j v hv=>?_) (by rw[hl,hcl];omega) (c8_one ys) ?_
   ·obtain⟨hj,rfl⟩:=c8_get hv
    have hadd:(⟨b,ob,none⟩:Addr).add j=⟨b,ob+j,none⟩:=by unfold Addr.add;split<;>simp_all
    rw[hadd];exact hc j (by rw[hB.1]at hj;exact hj)
   ·rw[hfin,hl]
    refine h _ ⟨by rw[hl,Nat.mul_one],.inr ⟨g,n,_,rfl,hb,setRow_heap w g cur _ _ _ hg,zw8 _,hcm,by simp[hl],?_⟩⟩ ⟨rfl,rfl,rfl,by simp[World.setRow],fun k _ hk=>setRow_other w g k _ (fun e=>hk (by rw[e]))⟩;rw[Nat.mul_one];exact List.take_of_length_le (by simp[hl])
def mixK (k:Nat) (xs ys:List Nat):List Nat:=(List.range ys.length).map fun i=>if i<k then ys.getD i 0 ^^^xs.getD i 0 else ys.getD i 0
def mix (xs ys:List Nat):List Nat:=mixK xs.length xs ys
theorem mixK_len (k:Nat) (xs ys:List Nat):(mixK k xs ys).length=ys.length:=by simp[mixK]
theorem mixK_at (k:Nat) (xs ys:List Nat) (j:Nat) (hj:j<ys.length):(mixK k xs ys).getD j 0=if j<k then ys.getD j 0 ^^^xs.getD j 0 else ys.getD j 0:=by
 unfold mixK;rw[zw5,List.getElem?_map,List.getElem?_range hj];rfl
theorem mixK_zero (xs ys:List Nat):mixK 0 xs ys=ys:=by
 apply List.ext_getElem?;intro j;rcases Nat.lt_or_ge j ys.length with h | h
 ·have h1:=mixK_at 0 xs ys j h
  rw[if_neg (by omega),zw5,zw5,zw6 h,zw6 (by rw[mixK_len];exact h)]at h1;rw[zw6 h,zw6 (by rw[mixK_len];exact h)];exact congrArg some h1
 ·rw[List.getElem?_eq_none h,List.getElem?_eq_none (by rw[mixK_len];exact h)]
theorem mixK_succ (k:Nat) (xs ys:List Nat) (hk:k<ys.length):mixK (k+1) xs ys=(mixK k xs ys).set k (ys.getD k 0 ^^^xs.getD k 0):=by
 apply List.ext_getElem?;intro j;rcases Nat.lt_or_ge j ys.length with h | h
 ·have h1:=mixK_at (k+1) xs ys j h
  have h2:=mixK_at k xs ys j h;rw[zw5,zw6 (by rw[mixK_len];exact h)]at h1 h2;simp only[Option.getD_some]at h1 h2;rw[zw6 (by rw[mixK_len];exact h),h1,List.getElem?_set];by_cases hkj:k=j
  ·subst hkj
   rw[if_pos (show k<k+1 by omega),if_pos rfl,if_pos (show k<(mixK k xs ys).length by rw[mixK_len];exact h)]
  ·rw[if_neg hkj,zw6 (by rw[mixK_len];exact h),h2]
   by_cases hj:j<k
   ·rw[if_pos hj,if_pos (by omega)]
   ·rw[if_neg hj,if_neg (by omega)]
 ·rw[List.getElem?_eq_none (by rw[mixK_len];exact h),List.getElem?_eq_none (by rw[List.length_set,mixK_len];exact h)]
theorem mixK_small (k:Nat) {xs ys:List Nat} (hx:∀j,xs.getD j 0<256) (hy:∀j,ys.getD j 0<256):∀j,(mixK k xs ys).getD j 0<256:=fun j=>by
 rcases Nat.lt_or_ge j ys.length with h | h
 ·rw[mixK_at k xs ys j h]
  split
  ·exact Nat.xor_lt_two_pow (n:=8) (hy j) (hx j)
  ·exact hy j
 ·rw[zw5,List.getElem?_eq_none (by rw[mixK_len];exact h)];simp
theorem xor8 (a b:Nat) (ha:a<256) (hb:b<256):bits .xor .u8 (a:Int) (b:Int)=((a ^^^b:Nat):Int):=by
 have h:bits .xor .u8 (a:Int) (b:Int)=IntKind.u8.wrap ((BitVec.ofInt 8 (a:Int) ^^^BitVec.ofInt 8 (b:Int)).toNat:Int):=rfl;have hl:=Nat.xor_lt_two_pow (n:=8) ha hb;rw[h,BitVec.ofInt_natCast,BitVec.ofInt_natCast,BitVec.toNat_xor,BitVec.toNat_ofNat,BitVec.toNat_ofNat,Nat.mod_eq_of_lt ha,Nat.mod_eq_of_lt hb,IntKind.wrap_u8];omega
theorem mix_min (xs ys:List Nat) (m:Nat) (h:m=xs.length∨(m=ys.length∧ys.length≤xs.length)):mixK m xs ys=mix xs ys:=by
 rcases h with rfl | ⟨rfl,hl⟩
 ·rfl
 ·unfold mix mixK
  refine List.map_congr_left fun i hi=>?_;have:=List.mem_range.1 hi;rw[if_pos this,if_pos (by omega)]
def XRel (w:World) (xs ys:List Nat) (m:Nat) (v iv:Value) (wr:World):Prop:=
 ∃k:Nat,k≤m∧iv= .int .i64 (k:Int)∧wr.ownsRow w.heap.size 5 1 v ys.length (c8 (mixK k xs ys))∧Ext w wr
def XPost (w:World) (zs:List Nat) (e:Ending) (w':World):Prop:=
 ∃g,e= .returned (.slice (some ⟨g,0,none⟩) zs.length zs.length)∧w.heap.size≤g∧Wire.Own w w' (.slice (some ⟨g,0,none⟩) zs.length zs.length) zs∧Ext w w'
theorem xor (A B:Option Addr) (n c n2 c2:Nat) (xs ys:List Nat) (w:World) (hA:Bs w A n xs) (hB:Bs w B n2 ys) (hn:n≤4000000000) (hn2:n2≤4000000000):
  Calls Tryz.prog 65 #[.slice A n c,.slice B n2 c2] w (XPost w (mix xs ys)):=by
 obtain⟨i0,hi0,hz0,hz1,hz2⟩:=info_parts info8;have hxl:xs.length=n:=hA.1;have hyl:ys.length=n2:=hB.1;subst hxl hyl;have HA:=zh hA;have HB:=zh hB;clear hA hB;have HQ0:Hid (i0.bytes*ys.length≤281474976710656):=zh (by rw[hz2];omega);have HQ1:Hid (ys.length≤maxLen):=zh (by unfold maxLen;omega);have HI:=zh (And.intro hi0 (And.intro hz0 hz1));clear hi0 hz0 hz1 hz2;have HZ:Hid ((madeCells (Value.int .u8 0).cells (ys.length*1)).toList=c8 (List.replicate ys.length 0)):=zh (by
  rw[Nat.mul_one];have:=toList_madeCells_one (.int .u8 0) ys.length;rw[show(Value.int .u8 0).cells= #[.int .u8 0]from rfl,this];simp[c8])
 by_cases hmin:xs.length≤ys.length
 ·go_enter Tryz.func65,Tryz.ntmps65
  go_wp2_with (first | (at_make;refine wpList_make_full w rfl (.tmp 8) (.tmp 8) 48 rfl w.heap.size 5 i0 (.int .u8 0) 1 Tryz.underlying48 HI.out.1 HI.out.2.1 HI.out.2.2 .i64 .i64 (ys.length:Int) (ys.length:Int) ys.length rfl rfl rfl rfl HQ0.out HQ1.out (zw8 _) ?_;intro w1 hown1 hg1;rw[HZ.out]at hown1) | (with_reducible refine wpList_copy_all rfl (.tmp 10) (.tmp 11) rfl w.heap.size w.heap.size ys.length B c2 (List.replicate ys.length 0) ys rfl rfl hown1 (HB.out.ext (ext_grown (zxr w) hg1 (fun k hk=>by cases hk))) ?_;intro w2 hown2 hg2))
  have HO1:=zh (show w2.ownsRow w.heap.size 5 1 (.slice (some ⟨w.heap.size,0,none⟩) ys.length ys.length) ys.length (c8 (mixK 0 xs ys))by rw[mixK_zero];exact hown2);have E2:=zh (ext_grown (ext_grown (zxr w) hg1 (fun k hk=>by cases hk)) hg2 (fun k hk=>by obtain rfl:=zw13 hk;exact zw8 _));have HMX:=zh (mix_min xs ys xs.length (.inl rfl));have HSX:=zh HA.out.2.1;have HSY:=zh HB.out.2.1;clear hown1 hg1 hown2 hg2
  go_loopw [18] (fun iv wr=>XRel w xs ys xs.length (.slice (some ⟨w.heap.size,0,none⟩) ys.length ys.length) iv wr) (fun iv _=>xs.length-(intOf iv).toNat)
  case atStart=>exact⟨0,Nat.zero_le _,rfl,HO1.out,E2.out⟩
  case round=>
   obtain⟨k,hk,rfl,hown,hex⟩:=hrel;have HOW:=zh hown;have HE:=zh hex;clear hown hex;by_cases hlt:k<xs.length
   ·obtain⟨b,ob,rfl,_,hcell⟩:=(HA.out.ext HE.out).2.2 (by omega)
    have a0:=hcell k (by omega);have y0:wr.cell? ⟨w.heap.size,k,none⟩=some (.int .u8 (ys.getD k 0:Nat)):=by
     rw[HOW.out.cellAt _ (by omega),c8_at (by rw[mixK_len];omega),mixK_at k xs ys k (by omega),if_neg (by omega)]
    have f0:=HOW.out.frozenAt k;clear hcell;have HXR:=zh (xor8 (ys.getD k 0) (xs.getD k 0) (HSY.out k) (HSX.out k));have HMS:=zh (mixK_succ k xs ys (by omega));have k0:(0:Int)≤(k:Int):=by omega
    have k1:(k:Int)<(xs.length:Int):=by omega
    have k2:(k:Int)<(ys.length:Int):=by omega
    have k3:(k:Int)<(xs.length:Int):=by omega
    generalize xs.getD k 0=xk at*;generalize ys.getD k 0=yk at*;go_wp2_with fail
    go_region
    rw[HXR.out];go_wp2_with fail
    go_roundw
    case rel=>
     have hst:=(HOW.out.stored k (.int .u8 ((yk ^^^xk:Nat):Int))).1;refine⟨k+1,by omega,by go_num,?_,zxd (ext_set HE.out (zw8 _) _)⟩;have e:c8 (mixK (k+1) xs ys)=(c8 (mixK k xs ys)).set k (.int .u8 ((yk ^^^xk:Nat):Int)):=by rw[HMS.out];unfold c8;rw[List.map_set]
     rw[e];exact hst.drew
    case measure=>simp[intOf];omega
   ·have hkm:k=xs.length:=by omega
    have k3:¬(k:Int)<(xs.length:Int):=by omega
    have HF:Hid (Wire.Own w wr (.slice (some ⟨w.heap.size,0,none⟩) (mix xs ys).length (mix xs ys).length) (mix xs ys)):=zh (by
     have hl:(mix xs ys).length=ys.length:=mixK_len _ _ _;have:=HOW.out;rw[hkm,HMX.out]at this;unfold Wire.Own;rw[hl];exact this)
    have HL:Hid ((mix xs ys).length=ys.length):=zh (mixK_len _ _ _);clear hkm;go_wp2_with fail;go_ret;exact⟨w.heap.size,by rw[HL.out];rfl,zw8 _,HF.out,HE.out⟩
 ·go_enter Tryz.func65,Tryz.ntmps65
  go_wp2_with (first | (at_make;refine wpList_make_full w rfl (.tmp 8) (.tmp 8) 48 rfl w.heap.size 5 i0 (.int .u8 0) 1 Tryz.underlying48 HI.out.1 HI.out.2.1 HI.out.2.2 .i64 .i64 (ys.length:Int) (ys.length:Int) ys.length rfl rfl rfl rfl HQ0.out HQ1.out (zw8 _) ?_;intro w1 hown1 hg1;rw[HZ.out]at hown1) | (with_reducible refine wpList_copy_all rfl (.tmp 10) (.tmp 11) rfl w.heap.size w.heap.size ys.length B c2 (List.replicate ys.length 0) ys rfl rfl hown1 (HB.out.ext (ext_grown (zxr w) hg1 (fun k hk=>by cases hk))) ?_;intro w2 hown2 hg2))
  have HO1:=zh (show w2.ownsRow w.heap.size 5 1 (.slice (some ⟨w.heap.size,0,none⟩) ys.length ys.length) ys.length (c8 (mixK 0 xs ys))by rw[mixK_zero];exact hown2);have E2:=zh (ext_grown (ext_grown (zxr w) hg1 (fun k hk=>by cases hk)) hg2 (fun k hk=>by obtain rfl:=zw13 hk;exact zw8 _));have HMX:=zh (mix_min xs ys ys.length (.inr ⟨rfl,by omega⟩));have HSX:=zh HA.out.2.1;have HSY:=zh HB.out.2.1;clear hown1 hg1 hown2 hg2
  go_loopw [18] (fun iv wr=>XRel w xs ys ys.length (.slice (some ⟨w.heap.size,0,none⟩) ys.length ys.length) iv wr) (fun iv _=>ys.length-(intOf iv).toNat)
  case atStart=>exact⟨0,Nat.zero_le _,rfl,HO1.out,E2.out⟩
  case round=>
   obtain⟨k,hk,rfl,hown,hex⟩:=hrel;have HOW:=zh hown;have HE:=zh hex;clear hown hex;by_cases hlt:k<ys.length
   ·obtain⟨b,ob,rfl,_,hcell⟩:=(HA.out.ext HE.out).2.2 (by omega)
    have a0:=hcell k (by omega);have y0:wr.cell? ⟨w.heap.size,k,none⟩=some (.int .u8 (ys.getD k 0:Nat)):=by
     rw[HOW.out.cellAt _ (by omega),c8_at (by rw[mixK_len];omega),mixK_at k xs ys k (by omega),if_neg (by omega)]
    have f0:=HOW.out.frozenAt k;clear hcell;have HXR:=zh (xor8 (ys.getD k 0) (xs.getD k 0) (HSY.out k) (HSX.out k));have HMS:=zh (mixK_succ k xs ys (by omega));have k0:(0:Int)≤(k:Int):=by omega
    have k1:(k:Int)<(xs.length:Int):=by omega
    have k2:(k:Int)<(ys.length:Int):=by omega
    have k3:(k:Int)<(ys.length:Int):=by omega
    generalize xs.getD k 0=xk at*;generalize ys.getD k 0=yk at*;go_wp2_with fail
    go_region
    rw[HXR.out];go_wp2_with fail
    go_roundw
    case rel=>
     have hst:=(HOW.out.stored k (.int .u8 ((yk ^^^xk:Nat):Int))).1;refine⟨k+1,by omega,by go_num,?_,zxd (ext_set HE.out (zw8 _) _)⟩;have e:c8 (mixK (k+1) xs ys)=(c8 (mixK k xs ys)).set k (.int .u8 ((yk ^^^xk:Nat):Int)):=by rw[HMS.out];unfold c8;rw[List.map_set]
     rw[e];exact hst.drew
    case measure=>simp[intOf];omega
   ·have hkm:k=ys.length:=by omega
    have k3:¬(k:Int)<(ys.length:Int):=by omega
    have HF:Hid (Wire.Own w wr (.slice (some ⟨w.heap.size,0,none⟩) (mix xs ys).length (mix xs ys).length) (mix xs ys)):=zh (by
     have hl:(mix xs ys).length=ys.length:=mixK_len _ _ _;have:=HOW.out;rw[hkm,HMX.out]at this;unfold Wire.Own;rw[hl];exact this)
    have HL:Hid ((mix xs ys).length=ys.length):=zh (mixK_len _ _ _);clear hkm;go_wp2_with fail;go_ret;exact⟨w.heap.size,by rw[HL.out];rfl,zw8 _,HF.out,HE.out⟩
def zr:List Nat→Nat
 | []=>0
 | c::cs=>if c=0 then zr cs+1 else 0
theorem zr_le (l:List Nat):zr l≤l.length:=by
 induction l with
 | nil=>simp[zr]
 | cons c cs ih=>
  rw[zr,zw3]
  split<;>omega
theorem zr_at {xs:List Nat} {k:Nat} (h:k<xs.length):zr (xs.drop k)=if xs.getD k 0=0 then zr (xs.drop (k+1))+1 else 0:=by
 rw[zw20 h,zr,zw5,zw6 h];rfl
def ZRel (xs:List Nat) (from_:Nat) (tv:Value):Prop:=∃k:Nat,from_≤k∧k≤xs.length∧tv= .int .i64 (k:Int)∧k+zr (xs.drop k)=from_+zr (xs.drop from_)
theorem zeros (xb n c from_:Nat) (A:Option Addr) (xs:List Nat) (w:World) (hx:w.cell? ⟨xb,0,none⟩=some (.slice A n c)) (hB:Bs w A n xs) (hf:from_≤n) (hn:n≤4000000000):
  Calls Tryz.prog 129 #[.int .i64 (from_:Int),.pointer (some ⟨xb,0,none⟩)] w fun e w'=>e= .returned (.int .i64 (zr (xs.drop from_):Nat))∧w=w':=by
 have hxl:xs.length=n:=hB.1;subst hxl;have HB:=zh hB;clear hB;have HZL:=zh (zr_le (xs.drop from_));go_enter Tryz.func129,Tryz.ntmps129;go_wp2_with fail
 go_loop [4] (fun tv=>ZRel xs from_ tv) (fun tv=>xs.length-(intOf tv).toNat)
 case atStart=>exact⟨from_,zw8 _,hf,rfl,rfl⟩
 case round=>
  obtain⟨k,hk1,hk2,rfl,hz⟩:=hrel;have HZ:=zh hz;clear hz;have k0:(0:Int)≤(k:Int):=by omega
  by_cases hlt:k<xs.length
  ·have k1:(k:Int)<(xs.length:Int):=by omega
   obtain⟨b,o,rfl,_,hcell⟩:=HB.out.2.2 (by omega);have a0:=hcell k hlt;clear hcell;have HA:=zh (zr_at hlt);by_cases h0:xs.getD k 0=0
   ·have HA2:Hid (zr (xs.drop k)=zr (xs.drop (k+1))+1):=zh (by rw[HA.out,if_pos h0])
    rw[h0]at a0;clear h0;go_wp2_with fail
    go_round
    case rel=>exact⟨k+1,by omega,by omega,by go_num,by have:=HZ.out;have:=HA2.out;omega⟩
    case measure=>simp[intOf];omega
   ·have HA2:Hid (zr (xs.drop k)=0):=zh (by rw[HA.out,if_neg h0])
    have hb:(((xs.getD k 0:Nat):Int)==0)=false:=zw12.2 (by omega);have HR:Hid (IntKind.i64.wrap ((k:Int)-(from_:Int))=((zr (xs.drop from_):Nat):Int)):=zh (by rw[IntWalk.i64_in _ (by omega)];have:=HZ.out;have:=HA2.out;omega);have HR2:Hid ((k:Int)-(from_:Int)=((zr (xs.drop from_):Nat):Int)):=zh (by have:=HZ.out;have:=HA2.out;omega);clear h0;generalize xs.getD k 0=xk at*;go_wp2_with fail;go_ret;exact⟨ret_int HR2.out,rfl⟩
  ·have k1:¬(k:Int)<(xs.length:Int):=by omega
   have HR2:Hid ((k:Int)-(from_:Int)=((zr (xs.drop from_):Nat):Int)):=zh (by
    have:=HZ.out;rw[List.drop_of_length_le (show xs.length≤k by omega),zr]at this;omega)
   go_wp2_with fail;go_ret;exact⟨ret_int HR2.out,rfl⟩
def lit:List Nat→Nat
 | []=>0
 | c::cs=>if 4≤zr (c::cs)∨zr (c::cs)=(c::cs).length then 0 else lit cs+1
theorem lit_le (l:List Nat):lit l≤l.length:=by
 induction l with
 | nil=>simp[lit]
 | cons c cs ih=>
  rw[lit,zw3]
  split<;>omega
theorem lit_stop {l:List Nat} (h:4≤zr l∨zr l=l.length):lit l=0:=by
 cases l with
 | nil=>rfl
 | cons c cs=>rw[lit,if_pos h]
theorem zr_drop (l:List Nat):∀n,n≤zr l→zr (l.drop n)=zr l-n:=by
 induction l with
 | nil=>intro n h;simp[zr]
 | cons c cs ih=>
  intro n h
  cases n with
  | zero=>simp
  | succ n=>
   rw[zr]at h;by_cases hc:c=0
   ·rw[if_pos hc]at h
    rw[List.drop_succ_cons,ih n (by omega),zr,if_pos hc];omega
   ·rw[if_neg hc]at h;omega
theorem zr_full {l:List Nat} (h:zr l<l.length):l.drop (zr l)≠[]∧zr (l.drop (zr l))=0:=by
 refine⟨fun e=>?_,by rw[zr_drop l _ (zw8 _)];omega⟩;have:=congrArg List.length e;rw[zw1]at this;simp at this;omega
theorem lit_jump (l:List Nat):∀n,zr l=n→n<4→n<l.length→lit l=n+1+lit (l.drop (n+1)):=by
 induction l with
 | nil=>intro n _ _ h;simp at h
 | cons c cs ih=>
  intro n hz h4 hl;have hstop:¬(4≤zr (c::cs)∨zr (c::cs)=(c::cs).length):=by omega
  rw[lit,if_neg hstop]
  cases n with
  | zero=>rw[List.drop_succ_cons,zw28];omega
  | succ n=>
   rw[zr]at hz;by_cases hc:c=0
   ·rw[if_pos hc]at hz
    rw[ih n (by omega) (by omega) (by rw[zw3]at hl;omega),List.drop_succ_cons];omega
   ·rw[if_neg hc]at hz;omega
theorem lit_pos {l:List Nat} (h:zr l=0) (hl:l≠[]):0<lit l:=by
 have hp:0<l.length:=List.length_pos_iff.2 hl;rw[lit_jump l 0 h (by omega) hp];omega
def enc (l:List Nat):List Nat:=
 if h:zr l<l.length then
  vb (zr l)++vb (lit (l.drop (zr l)))++(l.drop (zr l)).take (lit (l.drop (zr l)))++enc (l.drop (zr l+lit (l.drop (zr l))))
 else []
termination_by l.length
decreasing_by
 have h1:=zr_full h;have h2:=lit_pos h1.2 h1.1;rw[zw1];omega
theorem enc_stop {l:List Nat} (h:¬zr l<l.length):enc l=[]:=by rw[enc,dif_neg h]
theorem enc_more {l:List Nat} (h:zr l<l.length):enc l=vb (zr l)++vb (lit (l.drop (zr l)))++(l.drop (zr l)).take (lit (l.drop (zr l)))++enc (l.drop (zr l+lit (l.drop (zr l)))):=by rw[enc,dif_pos h]
def diff (xs ys:List Nat):List Nat:=vb ys.length++enc (mix xs ys)
theorem take_small {l:List Nat} (h:∀c∈l,c<256) (n:Nat):∀c∈l.take n,c<256:=fun c hc=>h c (List.mem_of_mem_take hc)
theorem enc_small (k:Nat):∀l:List Nat,l.length≤k→(∀c∈l,c<256)→∀c∈enc l,c<256:=by
 induction k with
 | zero=>
  intro l hl _ c hc;rw[enc_stop (by omega)]at hc;simp at hc
 | succ k ih=>
  intro l hl hb c hc;by_cases h:zr l<l.length
  ·have h1:=zr_full h
   have h2:=lit_pos h1.2 h1.1;rw[enc_more h]at hc;simp only[zw16]at hc;rcases hc with ((hc | hc) | hc) | hc
   ·exact vb_mem _ c hc
   ·exact vb_mem _ c hc
   ·exact take_small (fun d hd=>hb d (List.mem_of_mem_drop hd)) _ c hc
   ·exact ih _ (by rw[zw1];omega) (fun d hd=>hb d (List.mem_of_mem_drop hd)) c hc
  ·rw[enc_stop h]at hc;simp at hc
theorem lit_end (l:List Nat):4≤zr (l.drop (lit l))∨zr (l.drop (lit l))=(l.drop (lit l)).length:=by
 induction l with
 | nil=>right;simp[zr]
 | cons c cs ih=>
  by_cases h:4≤zr (c::cs)∨zr (c::cs)=(c::cs).length
  ·rw[lit_stop h,zw28];exact h
  ·rw[lit,if_neg h,List.drop_succ_cons];exact ih
theorem vb_two {n:Nat} (h:n<16384):(vb n).length≤2:=vb_len 1 n (by omega)
theorem vb_one {n:Nat} (h:n<128):(vb n).length=1:=by rw[vb_small h];rfl
theorem enc_len (k:Nat):∀l:List Nat,l.length≤k→l.length<16384→(enc l).length≤l.length+3∧(4≤zr l∨zr l=l.length→(enc l).length≤l.length):=by
 induction k with
 | zero=>
  intro l hl _;rw[enc_stop (by omega)];simp
 | succ k ih=>
  intro l hl hb;by_cases h:zr l<l.length
  ·have h1:=zr_full h
   have h2:=lit_pos h1.2 h1.1;have h3:=lit_le (l.drop (zr l));have h4:=lit_end (l.drop (zr l));rw[zw31]at h4;have h5:=(ih (l.drop (zr l+lit (l.drop (zr l)))) (by rw[zw1];omega) (by rw[zw1];omega)).2 h4;rw[zw1]at h3 h5;rw[enc_more h];simp only[zw0,zw2,zw1];have v1:=vb_two (n:=zr l) (by omega);have v2:=vb_two (n:=lit (l.drop (zr l))) (by omega);have v0:zr l<4→(vb (zr l)).length=1:=fun hz=>vb_one (by omega);have hmin:min (lit (l.drop (zr l))) (l.length-zr l)=lit (l.drop (zr l)):=Nat.min_eq_left h3;rw[hmin];refine⟨?_,fun hz=>?_⟩
   ·by_cases hz:zr l<4
    ·have:=v0 hz;omega
    ·omega
   ·omega
  ·rw[enc_stop h]
   simp
theorem mix_len (xs ys:List Nat):(mix xs ys).length=ys.length:=mixK_len _ _ _
theorem diff_len (xs ys:List Nat) (h:ys.length≤3000):(diff xs ys).length≤ys.length+2*(ys.length/5)+12:=by
 unfold diff;have h1:=(enc_len _ (mix xs ys) (zw8 _) (by rw[mix_len];omega)).1;have h2:=vb_two (n:=ys.length) (by omega);rw[mix_len]at h1;rw[zw0];omega
theorem list_ext_getD {xs ys:List Nat} (hl:xs.length=ys.length) (h:∀j,j<ys.length→xs.getD j 0=ys.getD j 0):xs=ys:=by
 apply List.ext_getElem?;intro j;rcases Nat.lt_or_ge j ys.length with hj | hj
 ·have:=h j hj
  rw[zw5,zw5,zw6 hj,zw6 (by omega)]at this;rw[zw6 hj,zw6 (by omega)];exact congrArg some this
 ·rw[List.getElem?_eq_none (by omega),List.getElem?_eq_none hj]
theorem mix_at (xs ys:List Nat) (j:Nat) (hj:j<ys.length):(mix xs ys).getD j 0=if j<xs.length then ys.getD j 0 ^^^xs.getD j 0 else ys.getD j 0:=mixK_at _ xs ys j hj
theorem mix_mix (xs ys:List Nat):mix xs (mix xs ys)=ys:=
 list_ext_getD (by rw[mix_len,mix_len]) (fun j hj=>by
  rw[mix_at _ _ j (by rw[mix_len];exact hj),mix_at _ _ j hj];by_cases h:j<xs.length
  ·rw[if_pos h,if_pos h,Nat.xor_assoc,Nat.xor_self,Nat.xor_zero]
  ·rw[if_neg h,if_neg h])
theorem mix_small {xs ys:List Nat} (hx:∀j,xs.getD j 0<256) (hy:∀j,ys.getD j 0<256):∀j,(mix xs ys).getD j 0<256:=mixK_small _ hx hy
theorem diff_small {xs ys:List Nat} (hx:∀j,xs.getD j 0<256) (hy:∀j,ys.getD j 0<256):∀j,(diff xs ys).getD j 0<256:=
 small_app (vb_byte _) (small_mem (enc_small _ _ (zw8 _) (mem_small (mix_small hx hy))))
theorem zr_take (l:List Nat):l.take (zr l)=List.replicate (zr l) 0:=by
 induction l with
 | nil=>rfl
 | cons c cs ih=>
  rw[zr];by_cases h:c=0
  ·rw[if_pos h,List.take_succ_cons,List.replicate_succ,ih,h]
  ·rw[if_neg h];rfl
def lay (x:List Nat) (i:Nat) (ys:List Nat):List Nat:=x.take i++ys++x.drop (i+ys.length)
def pcs (at_:Nat) (l:List Nat):List (Nat × List Nat):=
 if h:zr l<l.length then
  (at_+zr l,(l.drop (zr l)).take (lit (l.drop (zr l))))::pcs (at_+(zr l+lit (l.drop (zr l)))) (l.drop (zr l+lit (l.drop (zr l))))
 else []
termination_by l.length
decreasing_by
 have h1:=zr_full h;have h2:=lit_pos h1.2 h1.1;rw[zw1];omega
theorem pcs_stop {at_:Nat} {l:List Nat} (h:¬zr l<l.length):pcs at_ l=[]:=by rw[pcs,dif_neg h]
theorem pcs_more {at_:Nat} {l:List Nat} (h:zr l<l.length):pcs at_ l=(at_+zr l,(l.drop (zr l)).take (lit (l.drop (zr l))))::pcs (at_+(zr l+lit (l.drop (zr l)))) (l.drop (zr l+lit (l.drop (zr l)))):=by rw[pcs,dif_pos h]
theorem rep_add (a b:Nat):List.replicate (a+b) (0:Nat)=List.replicate a 0++List.replicate b 0:=List.replicate_append_replicate.symm
theorem lay_zeros (pre L:List Nat) (z n:Nat):lay (pre++List.replicate (z+(L.length+n)) 0) (pre.length+z) L=pre++(List.replicate z 0++L)++List.replicate n 0:=by
 unfold lay;rw[rep_add,rep_add];have e1:(pre++(List.replicate z 0++(List.replicate L.length 0++List.replicate n 0))).take (pre.length+z)=pre++List.replicate z 0:=by
  rw[←zw7,List.take_left' (by simp)]
 have e2:(pre++(List.replicate z 0++(List.replicate L.length 0++List.replicate n 0))).drop (pre.length+z+L.length)=List.replicate n 0:=by
  rw[←zw7,←zw7,List.drop_left' (by simp;omega)]
 rw[e1,e2];simp only[zw7]
theorem fill (k:Nat):∀(l pre:List Nat),l.length≤k→(pcs pre.length l).foldl (fun x p=>lay x p.1 p.2) (pre++List.replicate l.length 0)=pre++l:=by
 induction k with
 | zero=>
  intro l pre hl;obtain rfl:l=[]:=zw19 (by omega);rw[pcs_stop (by simp)];rfl
 | succ k ih=>
  intro l pre hl;by_cases h:zr l<l.length
  ·have h1:=zr_full h
   have h2:=lit_pos h1.2 h1.1;have h3:=lit_le (l.drop (zr l));have hL:((l.drop (zr l)).take (lit (l.drop (zr l)))).length=lit (l.drop (zr l)):=by rw[zw2];omega
   have hsplit:l=List.replicate (zr l) 0++(l.drop (zr l)).take (lit (l.drop (zr l)))++l.drop (zr l+lit (l.drop (zr l))):=by
    rw[←zr_take,zw7,←zw31,List.take_append_drop,List.take_append_drop]
   have hrest:(l.drop (zr l+lit (l.drop (zr l)))).length=l.length-(zr l+lit (l.drop (zr l))):=zw1;rw[zw1]at h3;have hlen:l.length=zr l+(((l.drop (zr l)).take (lit (l.drop (zr l)))).length+(l.drop (zr l+lit (l.drop (zr l)))).length):=by rw[hL,hrest];omega
   rw[pcs_more h,List.foldl_cons];have hstep:=lay_zeros pre ((l.drop (zr l)).take (lit (l.drop (zr l)))) (zr l) (l.drop (zr l+lit (l.drop (zr l)))).length;rw[←hlen]at hstep;rw[hstep];have:=ih (l.drop (zr l+lit (l.drop (zr l)))) (pre++(List.replicate (zr l) 0++(l.drop (zr l)).take (lit (l.drop (zr l))))) (by rw[hrest];omega);have hpl:(pre++(List.replicate (zr l) 0++(l.drop (zr l)).take (lit (l.drop (zr l))))).length=pre.length+(zr l+lit (l.drop (zr l))):=by
    rw[zw0,zw0,List.length_replicate,hL]
   rw[hpl]at this;rw[this]
   conv=>rhs;rw[hsplit]
   simp only[zw7]
  ·have hz:zr l=l.length:=by have:=zr_le l;omega
   rw[pcs_stop h];show pre++List.replicate l.length 0=pre++l;have:=zr_take l;rw[hz,List.take_length]at this;rw[←this]
open Go.ChangeShapes Go.WideShapes Go.ChangeAt Go.RowKit Go.Shelf
abbrev Run (n:Nat):= {t:Nat × Nat × Nat//t.1≤n∧t.2.1≤t.2.2∧t.2.2≤n}
def encR (n g c:Nat) (t:Run n):Array Value:= #[.int .i64 (t.1.1:Int),.slice (some ⟨g,t.1.2.1,none⟩) (t.1.2.2-t.1.2.1) (c-t.1.2.1)]
def txt (xs:List Nat) {n:Nat} (t:Run n):List Nat:=vb t.1.1++vb (t.1.2.2-t.1.2.1)++(xs.drop t.1.2.1).take (t.1.2.2-t.1.2.1)
def txts (xs:List Nat) {n:Nat} (l:List (Run n)):List Nat:=(l.map (txt xs)).flatten
theorem txts_snoc (xs:List Nat) {n:Nat} (l:List (Run n)) (t:Run n):txts xs (l++[t])=txts xs l++txt xs t:=by simp[txts]
def Keep2 (x g:Nat) (w w':World):Prop:=w.heap.size≤w'.heap.size∧∀k,k=x∨k=g→k<w.heap.size→w'.heap[k]? =w.heap[k]?
theorem Keep2.trans {x g:Nat} {a b c:World} (h:Keep2 x g a b) (k:Keep2 x g b c):Keep2 x g a c:=⟨zw10 h.1 k.1,fun i hi hl=>(k.2 i hi (zw9 hl h.1)).trans (h.2 i hi hl)⟩
theorem Keep2.cell {x g:Nat} {w w':World} (h:Keep2 x g w w') {k o:Nat} {v:Value} (hk:k=x∨k=g) (hc:w.cell? ⟨k,o,none⟩=some v):w'.cell? ⟨k,o,none⟩=some v:=
 (World.cell?_of_block (h.2 k hk (World.block_lt_of_cell? w _ hc))).trans hc
theorem bs_keep {x:Nat} {w w':World} {g n:Nat} {xs:List Nat} (h:Bs w (some ⟨g,0,none⟩) n xs) (hb:Keep2 x g w w'):Bs w' (some ⟨g,0,none⟩) n xs:=
 ⟨h.1,h.2.1,fun hp=>by
  obtain⟨b,o,he,hlt,hc⟩:=h.2.2 hp;obtain⟨rfl,rfl⟩:b=g∧o=0:=by cases he;exact⟨rfl,rfl⟩
  exact⟨b,0,rfl,zw9 hlt hb.1,fun j hj=>hb.cell (.inr rfl) (hc j hj)⟩⟩
def ItRel (xb g c:Nat) (xs:List Nat) (J:List (Run xs.length)→World→Prop) (av:Value) (wr:World):Prop:=
 ∃(k:Nat) (pre:List (Run xs.length)),k≤xs.length∧av= .int .i64 (k:Int)∧pre.length≤k∧txts xs pre++enc (xs.drop k)=enc xs∧J pre wr∧
  wr.cell? ⟨xb,0,none⟩=some (.slice (some ⟨g,0,none⟩) xs.length c)∧Bs wr (some ⟨g,0,none⟩) xs.length xs
def InRel (xs:List Nat) (j:Nat) (av nv:Value):Prop:=
 ∃i:Nat,j≤i∧i≤xs.length∧av= .int .i64 (i:Int)∧nv= .int .i64 (zr (xs.drop i):Nat)∧lit (xs.drop j)=(i-j)+lit (xs.drop i)
theorem runs1_in (n:Nat) (hn:1≤n) (l xb g c:Nat) (xs:List Nat) (J Jx:List (Run xs.length)→World→Prop) (hxl:xs.length≤4000000000) (hc:xs.length≤c) (hc2:c≤9223372036854775807)
  (hY:∀pre x W,J pre W→pre.length<xs.length→YieldAt Fence.wide (n-1) Tryz.prog l (encR xs.length g c x) W fun e W'=>
   (e= .returned (.bool true)∧J (pre++[x]) W'∧Keep2 xb g W W')∨(e= .returned (.bool false)∧Jx (pre++[x]) W'))
  (W:World) (hX:W.cell? ⟨xb,0,none⟩=some (.slice (some ⟨g,0,none⟩) xs.length c)) (hB:Bs W (some ⟨g,0,none⟩) xs.length xs) (h0:J [] W):
  CallsIn Fence.wide n Tryz.prog 128 #[.func (.yield l) #[] #[],.pointer (some ⟨xb,0,none⟩)] W fun e W'=>(∃v,e= .returned v)∧
   ((∃ys,txts xs ys=enc xs∧J ys W')∨(∃pre,True∧Jx pre W')):=by
 have HY:=zh hY;clear hY;have HB:=zh hB;have HX:=zh hX;clear hB hX;refine callsIn_of_wp Tryz.func128 rfl trivial ?_ rfl;simp only[Tryz.ntmps128,List.size_toArray,zw3,zw26,Nat.reduceAdd,Nat.reduceSub,Array.replicate_succ,Array.replicate_zero,List.push_toArray,List.append_toArray,zw17,List.cons_append]
 gi_wp2_with fail
 gi_loopw [4] (fun av wr=>ItRel xb g c xs J av wr) (fun av _=>xs.length-(intOf av).toNat)
 case atStart=>exact⟨0,[],Nat.zero_le _,rfl,zw8 _,by simp[txts],h0,HX.out,HB.out⟩
 case round=>
  clear HB HX;obtain⟨k,pre,hk,rfl,hpl,hE,hJ,hX,hB⟩:=hrel;have HE:=zh hE;have HJ:=zh hJ;have HB:=zh hB;clear hE hJ hB
  gi_wp2_with fail
  refine⟨trivial,(callsIn_wide.2 (zeros xb xs.length c k (some ⟨g,0,none⟩) xs wr hX HB.out hk hxl)).mono ?_⟩;rintro e w' ⟨rfl,rfl⟩;have hzr:=zr_le (xs.drop k);rw[zw1]at hzr;have HFULL:=zh (fun h=>zr_full (l:=xs.drop k) h);have HMORE:=zh (fun h=>enc_more (l:=xs.drop k) h);have HSTOP:=zh (fun h=>enc_stop (l:=xs.drop k) h);have HDD:=zh (fun m=>zw31 (l:=xs) (i:=m) (j:=k));generalize zr (xs.drop k)=z at*;by_cases hz:k+z=xs.length
  ·have hb:(((k:Int)+(z:Int))==(xs.length:Int))=true:=beq_iff_eq.2 (by omega)
   have HR:Hid (txts xs pre=enc xs):=zh (by rw[←HE.out,HSTOP.out (by rw[zw1];omega),zw18]);clear hz HFULL HMORE HSTOP HDD
   gi_wp2_with fail
   refine bodyPost_ret (results_none rfl _ _ _) rfl ?_;exact⟨⟨_,rfl⟩,.inl ⟨pre,HR.out,HJ.out⟩⟩
  ·have hlz:z<(xs.drop k).length:=by rw[zw1];omega
   have hb:(((k:Int)+(z:Int))==(xs.length:Int))=false:=zw12.2 (by omega);have hj1:k+z<xs.length:=by omega
   have h1:=HFULL.out hlz;have h2:=lit_pos h1.2 h1.1;have h3:=lit_le ((xs.drop k).drop z);have hz0:=h1.2;rw[HDD.out z]at h2 h3 hz0;rw[zw1]at h3;have HM2:Hid (enc (xs.drop k)=vb z++vb (lit (xs.drop (k+z)))++(xs.drop (k+z)).take (lit (xs.drop (k+z)))++enc (xs.drop (k+(z+lit (xs.drop (k+z)))))):=zh (by
    rw[HMORE.out hlz,HDD.out z,HDD.out])
   have HZ0:=zh hz0;clear hlz h1 hz0 HFULL HMORE HSTOP HDD;have HNZ:=zh hz;clear hz
   gi_wp2_with fail
   gi_loop [4,7] (fun av nv=>InRel xs (k+z) av nv) (fun av _=>xs.length-(intOf av).toNat)
   case atStart=>exact⟨k+z,zw8 _,by omega,by go_num,by rw[HZ0.out];rfl,by omega⟩
   case round=>
    obtain⟨i,hi1,hi2,rfl,rfl,hli⟩:=hrel;have HLI:=zh hli;clear hli;have HLJ:=zh (fun m a b c=>lit_jump (xs.drop i) m a b c);have HLS:=zh (fun h=>lit_stop (l:=xs.drop i) h);have hzi:=zr_le (xs.drop i);rw[zw1]at hzi;have HDD:=zh (fun m=>zw31 (l:=xs) (i:=m) (j:=i));generalize hq:zr (xs.drop i)=q at*;have HQ:=zh hq;clear hq;by_cases hgo:q<4∧q<xs.length-i
    ·obtain⟨hg1,hg2⟩:=hgo
     have HN:Hid (lit (xs.drop (k+z))=(i+q+1-(k+z))+lit (xs.drop (i+q+1))):=zh (by
      have e:=HLJ.out q rfl hg1 (by rw[zw1];omega);rw[HDD.out,show i+(q+1)=i+q+1 from by omega]at e;have:=HLI.out;omega)
     clear HLJ HLS HDD
     gi_wp2_with fail
     rw[show((i:Int)+((q:Int)+1))=((i+q+1:Nat):Int)from by omega];refine⟨trivial,(callsIn_wide.2 (zeros xb xs.length c (i+q+1) (some ⟨g,0,none⟩) xs wr hX HB.out (by omega) hxl)).mono ?_⟩;rintro e w' ⟨rfl,rfl⟩
     gi_wp2_with fail
     go_round
     case rel=>exact⟨i+q+1,by omega,by omega,rfl,rfl,HN.out⟩
     case measure=>simp[intOf];omega
    ·have HS0:Hid (lit (xs.drop i)=0):=zh (HLS.out (by rw[zw1];omega))
     have HI:Hid (lit (xs.drop (k+z))=i-(k+z)):=zh (by have:=HLI.out;have:=HS0.out;omega);have hpos:k+z<i:=by have:=HI.out;omega
     have i0:(0:Int)≤(k:Int)+(z:Int):=by omega
     have i1:(k:Int)+(z:Int)≤(i:Int):=by omega
     have i2:(i:Int)≤(c:Int):=by omega
     clear HLJ HLS HDD HLI HS0 h2 h3;have HT:Hid (txts xs (pre++[(⟨(z,k+z,i),by omega,by omega,hi2⟩:Run xs.length)])++enc (xs.drop i)=enc xs):=zh (by
      rw[txts_snoc,←HE.out,HM2.out,HI.out,show k+(z+(i-(k+z)))=i from by omega];simp only[txt,zw7])
     obtain⟨fn,tmps,assign,body,hy,hR⟩:=HY.out pre ⟨(z,k+z,i),by omega,by omega,hi2⟩ wr HJ.out (by omega);simp only[encR]at hy;have HR:=zh hR;clear hR;clear HM2 HE HI HZ0;have hstop:4≤q∨(q<4∧q=xs.length-i):=by omega
     rcases hstop with hc1 | ⟨hc1,hc2⟩
     ·gi_wp2_with fail
      refine HR.out.mono ?_;rintro e W3 (⟨rfl,hJ3,hk3⟩ | ⟨rfl,hJx3⟩)
      ·have hX3:=hk3.cell (.inl rfl) hX
       have HB3:=zh (bs_keep HB.out hk3);have HJ3:=zh hJ3;clear hJ3 hk3 hy
       gi_wp2_with fail
       go_roundw
       case rel=>exact⟨i,_,hi2,rfl,by simp;omega,HT.out,HJ3.out,hX3,HB3.out⟩
       case measure=>simp[intOf];omega
      ·have HJx3:=zh hJx3;clear hJx3 hy
       gi_wp2_with fail
       refine bodyPost_ret (results_none rfl _ _ _) rfl ?_;exact⟨⟨_,rfl⟩,.inr ⟨_,trivial,HJx3.out⟩⟩
     ·have hnl:¬(i:Int)+(q:Int)<(xs.length:Int):=by omega
      clear hc2
      gi_wp2_with fail
      refine HR.out.mono ?_;rintro e W3 (⟨rfl,hJ3,hk3⟩ | ⟨rfl,hJx3⟩)
      ·have hX3:=hk3.cell (.inl rfl) hX
       have HB3:=zh (bs_keep HB.out hk3);have HJ3:=zh hJ3;clear hJ3 hk3 hy
       gi_wp2_with fail
       go_roundw
       case rel=>exact⟨i,_,hi2,rfl,by simp;omega,HT.out,HJ3.out,hX3,HB3.out⟩
       case measure=>simp[intOf];omega
      ·have HJx3:=zh hJx3;clear hJx3 hy
       gi_wp2_with fail
       refine bodyPost_ret (results_none rfl _ _ _) rfl ?_;exact⟨⟨_,rfl⟩,.inr ⟨_,trivial,HJx3.out⟩⟩
theorem same_yes (A B:Option Addr) (n c m d:Nat) (xs:List Nat) (w:World) (hA:Bs w A n xs) (hB:Bs w B m xs):
  Calls Tryz.prog 83 #[.slice A n c,.slice B m d] w fun e w'=>e= .returned (.bool true)∧w=w':=by
 have h1:=hA.conv (P:=Tryz.prog) 48 5 9 Tryz.underlying48 Tryz.underlying5 Tryz.underlying9 c;have h2:=hB.conv (P:=Tryz.prog) 48 5 9 Tryz.underlying48 Tryz.underlying5 Tryz.underlying9 d;clear hA hB;generalize strOf xs=S at*;go_enter Tryz.func83,Tryz.ntmps83;go_wp2_with fail;go_ret;exact⟨rfl,rfl⟩
theorem same_no (A B:Option Addr) (n c m d:Nat) (xs ys:List Nat) (w:World) (hA:Bs w A n xs) (hB:Bs w B m ys) (hne:xs≠ys):
  Calls Tryz.prog 83 #[.slice A n c,.slice B m d] w fun e w'=>e= .returned (.bool false)∧w=w':=by
 have h1:=hA.conv (P:=Tryz.prog) 48 5 9 Tryz.underlying48 Tryz.underlying5 Tryz.underlying9 c;have h2:=hB.conv (P:=Tryz.prog) 48 5 9 Tryz.underlying48 Tryz.underlying5 Tryz.underlying9 d;have h3:((strOf xs).toList==(strOf ys).toList)=false:=zw12.2 (str_ne (fun e=>hne (strOf_inj hA.2.1 hB.2.1 e)));clear hA hB hne;generalize strOf xs=S at*;generalize strOf ys=T at*;go_enter Tryz.func83,Tryz.ntmps83;go_wp2_with fail;go_ret;exact⟨rfl,rfl⟩
theorem natsOf_get (s:ByteArray) (k:Nat) (h:k<s.size):(natsOf s).getD k 0=s[k].toNat:=by
 unfold natsOf;rw[zw5,List.getElem?_map,zw6 (by rw[Array.length_toList];exact h)];rfl
def MRel (w:World) (zs:List Nat) (sv iv:Value) (wr:World):Prop:=∃k:Nat,k≤zs.length∧sv= .string (strOf (zs.take k))∧iv= .int .i64 (k:Int)∧Ext w wr
theorem take_succ_nat {zs:List Nat} {k:Nat} (h:k<zs.length):strOf (zs.take (k+1))=strOf (zs.take k)++strOf [zs.getD k 0]:=by
 rw[←strOf_app,List.take_succ_eq_append_getElem h,zw5,zw6 h];rfl
theorem refMix (s t:ByteArray) (w:World) (hs:s.size≤1000000) (ht:t.size≤1000000):
  Calls Tryz.prog 75 #[.string s,.string t] w fun e w'=>e= .returned (.string (strOf (mix (natsOf s) (natsOf t))))∧Ext w w':=by
 have HZL:Hid ((mix (natsOf s) (natsOf t)).length=t.size):=zh (by rw[mix_len,natsOf_len]);have HZS:=zh (mix_small (natsOf_small s) (natsOf_small t));have HAT:=zh (fun j hj=>mix_at (natsOf s) (natsOf t) j hj);generalize hz:mix (natsOf s) (natsOf t)=zs at*;go_enter Tryz.func75,Tryz.ntmps75;go_wp2_with fail
 go_loopw [5,6] (fun sv iv wr=>MRel w zs sv iv wr) (fun _ iv _=>t.size-(intOf iv).toNat)
 case atStart=>exact⟨0,Nat.zero_le _,rfl,rfl,zxr _⟩
 case round=>
  obtain⟨k,hk,rfl,rfl,hE⟩:=hrel;have HE:=zh hE;clear hE;have hkt:k≤t.size:=by have:=HZL.out;omega
  by_cases hlt:k<t.size
  ·have hsn:=take_succ_nat (zs:=zs) (k:=k) (by rw[HZL.out];exact hlt)
   have hv:=HAT.out k (by rw[natsOf_len];exact hlt);rw[natsOf_get t k hlt,natsOf_len]at hv;have hzb:=HZS.out k;have hcv:=one_conv wr.heap.size (wr.alloc (.cells #[.int .u8 (zs.getD k 0:Nat)] 5)) (zs.getD k 0) hzb (by simp);have hsz:¬(9223372036854775807<(strOf (zs.take k)).size+(strOf [zs.getD k 0]).size):=by
    rw[strOf_size,strOf_size,zw2];simp;omega
   generalize zs.getD k 0=zk at*;generalize strOf (zs.take k)=S at*;generalize strOf [zk]=S1 at*;have HSN:=zh hsn;clear hsn;have ht8:=t[k].toNat_lt;by_cases hks:k<s.size
   ·rw[if_pos hks,natsOf_get s k hks]at hv
    have hs8:=s[k].toNat_lt;have HX:Hid (bits .xor .u8 (t[k].toNat:Int) (s[k].toNat:Int)=(zk:Int)):=zh (by rw[hv];exact xor8 _ _ ht8 hs8);clear hv;have hx:=HX.out;go_wp2_with fail
    go_roundw
    case rel=>exact⟨k+1,by have:=HZL.out;omega,by rw[HSN.out],by go_num,zxa HE.out _⟩
    case measure=>simp[intOf];omega
   ·rw[if_neg hks]at hv
    have HX:Hid ((t[k].toNat:Int)=(zk:Int)):=zh (by rw[hv]);clear hv;have hx:=HX.out;go_wp2_with fail
    go_roundw
    case rel=>exact⟨k+1,by have:=HZL.out;omega,by rw[HSN.out],by go_num,zxa HE.out _⟩
    case measure=>simp[intOf];omega
  ·have HT:Hid (zs.take k=zs):=zh (List.take_of_length_le (by rw[HZL.out];omega))
   rw[HT.out];generalize hS:strOf zs=S;go_wp2_with fail;go_ret;exact⟨by rw[hS];rfl,HE.out⟩
def NRel (l:List Nat) (from_ n:Nat) (iv:Value):Prop:=∃k:Nat,from_≤k∧k≤from_+n∧k≤l.length∧iv= .int .i64 (k:Int)∧k-from_≤zr (l.drop from_)
theorem zr_step {l:List Nat} {from_ k:Nat} (h1:from_≤k) (h2:k-from_≤zr (l.drop from_)):zr (l.drop k)=zr (l.drop from_)-(k-from_):=by
 have:=zr_drop (l.drop from_) (k-from_) h2
 rwa [zw31,show from_+(k-from_)=k from by omega]at this
theorem refZero (s:ByteArray) (from_ n:Nat) (w:World) (hs:s.size≤1000000) (hf:from_≤s.size) (hn:n≤1000000):
  Calls Tryz.prog 76 #[.string s,.int .i64 (from_:Int),.int .i64 (n:Int)] w fun e w'=>e= .returned (.bool (decide (min n (s.size-from_)≤zr ((natsOf s).drop from_))))∧w=w':=by
 have HL:=zh (natsOf_len s);have HST:=zh (fun k (a:from_≤k) (b:k-from_≤zr ((natsOf s).drop from_))=>zr_step (l:=natsOf s) a b);have HAT:=zh (fun k (hk:k<(natsOf s).length)=>zr_at (xs:=natsOf s) hk);have HG:=zh (fun k hk=>natsOf_get s k hk);generalize hb:decide (min n (s.size-from_)≤zr ((natsOf s).drop from_))=b;have HB:=zh hb;clear hb;go_enter Tryz.func76,Tryz.ntmps76;go_wp2_with fail
 go_loop [7] (fun iv=>NRel (natsOf s) from_ n iv) (fun iv=>from_+n-(intOf iv).toNat)
 case atStart=>exact⟨from_,zw8 _,by omega,by rw[HL.out];exact hf,rfl,by omega⟩
 case round=>
  obtain⟨k,h1,h2,h3,rfl,h4⟩:=hrel;have H4:=zh h4;clear h4;rw[HL.out]at h3;have k0:(0:Int)≤(k:Int):=by omega
  by_cases hk:k<from_+n
  ·have hk2:(k:Int)<(from_:Int)+(n:Int):=by omega
   by_cases hlt:k<s.size
   ·have HA:=zh (HAT.out k (by rw[HL.out];exact hlt))
    have HGK:=zh (HG.out k hlt);by_cases h0:s[k].toNat=0
    ·have hx:((s[k].toNat:Int) != 0)=false:=by rw[h0];rfl
     have HN:Hid (k+1-from_≤zr ((natsOf s).drop from_)):=zh (by
      have e1:=HST.out k h1 H4.out;have e2:=HA.out;rw[HGK.out,if_pos h0]at e2;have:=H4.out;omega)
     clear h0;go_wp2_with fail
     go_round
     case rel=>exact⟨k+1,by omega,by omega,by rw[HL.out];omega,by go_num,HN.out⟩
     case measure=>simp[intOf];omega
    ·have hx:((s[k].toNat:Int) != 0)=true:=by rw[bne_iff_ne];omega
     have HF:Hid (b=false):=zh (by
      have e1:=HST.out k h1 H4.out;have e2:=HA.out;rw[HGK.out,if_neg h0]at e2;have:=H4.out;rw[←HB.out];exact zw14 (by omega))
     clear h0;go_wp2_with fail;go_ret;exact⟨by rw[HF.out];rfl,rfl⟩
   ·have HF:Hid (b=true):=zh (by
     have:=H4.out;rw[←HB.out];exact zw15 (by omega))
    go_wp2_with fail;go_ret;exact⟨by rw[HF.out];rfl,rfl⟩
  ·have hk2:¬(k:Int)<(from_:Int)+(n:Int):=by omega
   have HF:Hid (b=true):=zh (by
    have:=H4.out;rw[←HB.out];exact zw15 (by omega))
   go_wp2_with fail;go_ret;exact⟨by rw[HF.out];rfl,rfl⟩
end Go.Proofs.YtidnboeihkeljaaGreatDoor.Delta
