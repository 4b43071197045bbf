
import Derived.Test.YtidnboeihkeljaaGreatDoorF02
set_option maxHeartbeats 16000000
set_option maxRecDepth 100000
set_option linter.all false
namespace Go.Proofs.YtidnboeihkeljaaGreatDoor.Delta
open Go.ChangeShapes Go.WideShapes Go.ChangeAt Go.RowKit
open Wire
theorem wpList_copy_all {w:World} {ops:Array Oper} {rest:List Oper} {o:Oper} {a:Act} {Q:Exit→Act→World→Prop} (hgd:o.guard=none) (d s:Operand)
  (ho:o.op= .call {callee:= .builtin .copy,args:= #[d,s],argTypes:= #[48,48]}) (base g n:Nat) (A:Option Addr) (c:Nat) (zs ys:List Nat)
  (hd:a.eval d= .slice (some ⟨g,0,none⟩) n n) (hs:a.eval s= .slice A n c) (hown:w.ownsRow base 5 1 (.slice (some ⟨g,0,none⟩) n n) n (c8 zs)) (hB:Bs w A n ys)
  (h:∀w',w'.ownsRow base 5 1 (.slice (some ⟨g,0,none⟩) n n) n (c8 ys)→w.grownBy w' (some g)→wpList Tryz.prog ops Q rest (a.put o.dst (goInt n)) w'):wpList Tryz.prog ops Q (o::rest) a w:=by
 have hsz:(Tryz.prog.info? 5).map (·.size)=some 1:=by kernel_rfl
 have hl:(c8 ys).length=n:=by rw[c8_len];exact hB.1
 rcases Nat.eq_zero_or_pos n with h0 | hp
 ·subst h0
  have hy:ys=[]:=zw19 hB.1;have hz:zs=[]:=zw19 (by have:=hown.1;rwa [c8_len,Nat.zero_mul]at this);subst hy hz;refine wpList_copy_nothing hgd d s _ _ ho 5 Tryz.underlying48 hsz _ _ 0 0 0 c hd hs rfl ?_;exact h w hown (World.grownBy.refl _ _)
 ·obtain⟨b,ob,rfl,_,hc⟩:=hB.2.2 hp
  rcases hown.2 with ⟨hq,_⟩ | ⟨g',cap,cur,hq,hb,hg,hnc,hcm,hcs,_⟩
  ·simp at hq
  ·simp only[Value.slice.injEq,Option.some.injEq,Addr.mk.injEq,and_true,true_and]at hq
   obtain⟨rfl,rfl⟩:=hq;have hcl:cur.size=n:=by rw[hcs,Nat.mul_one]
   have hfin:(cur.toList.take 0++(c8 ys++cur.toList.drop (0+(c8 ys).length))).toArray=(c8 ys).toArray:=by
    rw[hl,Nat.zero_add,List.drop_of_length_le (by rw[Array.length_toList,hcl];exact zw8 _)];simp
   refine wpList_copy_own hgd d s _ _ ho 5 Tryz.underlying48 hsz g 0 n n ⟨b,ob,none⟩ n c hd hs cur 5 hg (c8 ys) (by rw[hl];exact(Nat.min_self n).symm) (fun j v hv=>?_) (by rw[hl,hcl];omega) (c8_one ys) ?_
   ·obtain⟨hj,rfl⟩:=c8_get hv
    have hadd:(⟨b,ob,none⟩:Addr).add j=⟨b,ob+j,none⟩:=by unfold Addr.add;split<;>simp_all
    rw[hadd];exact hc j (by rw[hB.1]at hj;exact hj)
   ·rw[hfin,hl]
    refine h _ ⟨by rw[hl,Nat.mul_one],.inr ⟨g,n,_,rfl,hb,setRow_heap w g cur _ _ _ hg,zw8 _,hcm,by simp[hl],?_⟩⟩ ⟨rfl,rfl,rfl,by simp[World.setRow],fun k _ hk=>setRow_other w g k _ (fun e=>hk (by rw[e]))⟩;rw[Nat.mul_one];exact List.take_of_length_le (by simp[hl])
def mixK (k:Nat) (xs ys:List Nat):List Nat:=(List.range ys.length).map fun i=>if i<k then ys.getD i 0 ^^^xs.getD i 0 else ys.getD i 0
def mix (xs ys:List Nat):List Nat:=mixK xs.length xs ys
theorem mixK_len (k:Nat) (xs ys:List Nat):(mixK k xs ys).length=ys.length:=by simp[mixK]
theorem mixK_at (k:Nat) (xs ys:List Nat) (j:Nat) (hj:j<ys.length):(mixK k xs ys).getD j 0=if j<k then ys.getD j 0 ^^^xs.getD j 0 else ys.getD j 0:=by
 unfold mixK;rw[zw5,List.getElem?_map,List.getElem?_range hj];rfl
theorem mixK_zero (xs ys:List Nat):mixK 0 xs ys=ys:=by
 apply List.ext_getElem?;intro j;rcases Nat.lt_or_ge j ys.length with h | h
 ·have h1:=mixK_at 0 xs ys j h
  rw[if_neg (by omega),zw5,zw5,zw6 h,zw6 (by rw[mixK_len];exact h)]at h1;rw[zw6 h,zw6 (by rw[mixK_len];exact h)];exact congrArg some h1
 ·rw[List.getElem?_eq_none h,List.getElem?_eq_none (by rw[mixK_len];exact h)]
theorem mixK_succ (k:Nat) (xs ys:List Nat) (hk:k<ys.length):mixK (k+1) xs ys=(mixK k xs ys).set k (ys.getD k 0 ^^^xs.getD k 0):=by
 apply List.ext_getElem?;intro j;rcases Nat.lt_or_ge j ys.length with h | h
 ·have h1:=mixK_at (k+1) xs ys j h
  have h2:=mixK_at k xs ys j h;rw[zw5,zw6 (by rw[mixK_len];exact h)]at h1 h2;simp only[Option.getD_some]at h1 h2;rw[zw6 (by rw[mixK_len];exact h),h1,List.getElem?_set];by_cases hkj:k=j
  ·subst hkj
   rw[if_pos (show k<k+1 by omega),if_pos rfl,if_pos (show k<(mixK k xs ys).length by rw[mixK_len];exact h)]
  ·rw[if_neg hkj,zw6 (by rw[mixK_len];exact h),h2]
   by_cases hj:j<k
   ·rw[if_pos hj,if_pos (by omega)]
   ·rw[if_neg hj,if_neg (by omega)]
 ·rw[List.getElem?_eq_none (by rw[mixK_len];exact h),List.getElem?_eq_none (by rw[List.length_set,mixK_len];exact h)]
theorem mixK_small (k:Nat) {xs ys:List Nat} (hx:∀j,xs.getD j 0<256) (hy:∀j,ys.getD j 0<256):∀j,(mixK k xs ys).getD j 0<256:=fun j=>by
 rcases Nat.lt_or_ge j ys.length with h | h
 ·rw[mixK_at k xs ys j h]
  split
  ·exact Nat.xor_lt_two_pow (n:=8) (hy j) (hx j)
  ·exact hy j
 ·rw[zw5,List.getElem?_eq_none (by rw[mixK_len];exact h)];simp
theorem xor8 (a b:Nat) (ha:a<256) (hb:b<256):bits .xor .u8 (a:Int) (b:Int)=((a ^^^b:Nat):Int):=by
 have h:bits .xor .u8 (a:Int) (b:Int)=IntKind.u8.wrap ((BitVec.ofInt 8 (a:Int) ^^^BitVec.ofInt 8 (b:Int)).toNat:Int):=rfl;have hl:=Nat.xor_lt_two_pow (n:=8) ha hb;rw[h,BitVec.ofInt_natCast,BitVec.ofInt_natCast,BitVec.toNat_xor,BitVec.toNat_ofNat,BitVec.toNat_ofNat,Nat.mod_eq_of_lt ha,Nat.mod_eq_of_lt hb,IntKind.wrap_u8];omega
theorem mix_min (xs ys:List Nat) (m:Nat) (h:m=xs.length∨(m=ys.length∧ys.length≤xs.length)):mixK m xs ys=mix xs ys:=by
 rcases h with rfl | ⟨rfl,hl⟩
 ·rfl
 ·unfold mix mixK
  refine List.map_congr_left fun i hi=>?_;have:=List.mem_range.1 hi;rw[if_pos this,if_pos (by omega)]
def XRel (w:World) (xs ys:List Nat) (m:Nat) (v iv:Value) (wr:World):Prop:=
 ∃k:Nat,k≤m∧iv= .int .i64 (k:Int)∧wr.ownsRow w.heap.size 5 1 v ys.length (c8 (mixK k xs ys))∧Ext w wr
def XPost (w:World) (zs:List Nat) (e:Ending) (w':World):Prop:=
 ∃g,e= .returned (.slice (some ⟨g,0,none⟩) zs.length zs.length)∧w.heap.size≤g∧Wire.Own w w' (.slice (some ⟨g,0,none⟩) zs.length zs.length) zs∧Ext w w'
theorem xor (A B:Option Addr) (n c n2 c2:Nat) (xs ys:List Nat) (w:World) (hA:Bs w A n xs) (hB:Bs w B n2 ys) (hn:n≤4000000000) (hn2:n2≤4000000000):
  Calls Tryz.prog 65 #[.slice A n c,.slice B n2 c2] w (XPost w (mix xs ys)):=by
 obtain⟨i0,hi0,hz0,hz1,hz2⟩:=info_parts info8;have hxl:xs.length=n:=hA.1;have hyl:ys.length=n2:=hB.1;subst hxl hyl;have HA:=zh hA;have HB:=zh hB;clear hA hB;have HQ0:Hid (i0.bytes*ys.length≤281474976710656):=zh (by rw[hz2];omega);have HQ1:Hid (ys.length≤maxLen):=zh (by unfold maxLen;omega);have HI:=zh (And.intro hi0 (And.intro hz0 hz1));clear hi0 hz0 hz1 hz2;have HZ:Hid ((madeCells (Value.int .u8 0).cells (ys.length*1)).toList=c8 (List.replicate ys.length 0)):=zh (by
  rw[Nat.mul_one];have:=toList_madeCells_one (.int .u8 0) ys.length;rw[show(Value.int .u8 0).cells= #[.int .u8 0]from rfl,this];simp[c8])
 by_cases hmin:xs.length≤ys.length
 ·go_enter Tryz.func65,Tryz.ntmps65
  go_wp2_with (first | (at_make;refine wpList_make_full w rfl (.tmp 8) (.tmp 8) 48 rfl w.heap.size 5 i0 (.int .u8 0) 1 Tryz.underlying48 HI.out.1 HI.out.2.1 HI.out.2.2 .i64 .i64 (ys.length:Int) (ys.length:Int) ys.length rfl rfl rfl rfl HQ0.out HQ1.out (zw8 _) ?_;intro w1 hown1 hg1;rw[HZ.out]at hown1) | (with_reducible refine wpList_copy_all rfl (.tmp 10) (.tmp 11) rfl w.heap.size w.heap.size ys.length B c2 (List.replicate ys.length 0) ys rfl rfl hown1 (HB.out.ext (ext_grown (zxr w) hg1 (fun k hk=>by cases hk))) ?_;intro w2 hown2 hg2))
  have HO1:=zh (show w2.ownsRow w.heap.size 5 1 (.slice (some ⟨w.heap.size,0,none⟩) ys.length ys.length) ys.length (c8 (mixK 0 xs ys))by rw[mixK_zero];exact hown2);have E2:=zh (ext_grown (ext_grown (zxr w) hg1 (fun k hk=>by cases hk)) hg2 (fun k hk=>by obtain rfl:=zw13 hk;exact zw8 _));have HMX:=zh (mix_min xs ys xs.length (.inl rfl));have HSX:=zh HA.out.2.1;have HSY:=zh HB.out.2.1;clear hown1 hg1 hown2 hg2
  go_loopw [18] (fun iv wr=>XRel w xs ys xs.length (.slice (some ⟨w.heap.size,0,none⟩) ys.length ys.length) iv wr) (fun iv _=>xs.length-(intOf iv).toNat)
  case atStart=>exact⟨0,Nat.zero_le _,rfl,HO1.out,E2.out⟩
  case round=>
   obtain⟨k,hk,rfl,hown,hex⟩:=hrel;have HOW:=zh hown;have HE:=zh hex;clear hown hex;by_cases hlt:k<xs.length
   ·obtain⟨b,ob,rfl,_,hcell⟩:=(HA.out.ext HE.out).2.2 (by omega)
    have a0:=hcell k (by omega);have y0:wr.cell? ⟨w.heap.size,k,none⟩=some (.int .u8 (ys.getD k 0:Nat)):=by
     rw[HOW.out.cellAt _ (by omega),c8_at (by rw[mixK_len];omega),mixK_at k xs ys k (by omega),if_neg (by omega)]
    have f0:=HOW.out.frozenAt k;clear hcell;have HXR:=zh (xor8 (ys.getD k 0) (xs.getD k 0) (HSY.out k) (HSX.out k));have HMS:=zh (mixK_succ k xs ys (by omega));have k0:(0:Int)≤(k:Int):=by omega
    have k1:(k:Int)<(xs.length:Int):=by omega
    have k2:(k:Int)<(ys.length:Int):=by omega
    have k3:(k:Int)<(xs.length:Int):=by omega
    generalize xs.getD k 0=xk at*;generalize ys.getD k 0=yk at*;go_wp2_with fail
    go_region
    rw[HXR.out];go_wp2_with fail
    go_roundw
    case rel=>
     have hst:=(HOW.out.stored k (.int .u8 ((yk ^^^xk:Nat):Int))).1;refine⟨k+1,by omega,by go_num,?_,zxd (ext_set HE.out (zw8 _) _)⟩;have e:c8 (mixK (k+1) xs ys)=(c8 (mixK k xs ys)).set k (.int .u8 ((yk ^^^xk:Nat):Int)):=by rw[HMS.out];unfold c8;rw[List.map_set]
     rw[e];exact hst.drew
    case measure=>simp[intOf];omega
   ·have hkm:k=xs.length:=by omega
    have k3:¬(k:Int)<(xs.length:Int):=by omega
    have HF:Hid (Wire.Own w wr (.slice (some ⟨w.heap.size,0,none⟩) (mix xs ys).length (mix xs ys).length) (mix xs ys)):=zh (by
     have hl:(mix xs ys).length=ys.length:=mixK_len _ _ _;have:=HOW.out;rw[hkm,HMX.out]at this;unfold Wire.Own;rw[hl];exact this)
    have HL:Hid ((mix xs ys).length=ys.length):=zh (mixK_len _ _ _);clear hkm;go_wp2_with fail;go_ret;exact⟨w.heap.size,by rw[HL.out];rfl,zw8 _,HF.out,HE.out⟩
 ·go_enter Tryz.func65,Tryz.ntmps65
  go_wp2_with (first | (at_make;refine wpList_make_full w rfl (.tmp 8) (.tmp 8) 48 rfl w.heap.size 5 i0 (.int .u8 0) 1 Tryz.underlying48 HI.out.1 HI.out.2.1 HI.out.2.2 .i64 .i64 (ys.length:Int) (ys.length:Int) ys.length rfl rfl rfl rfl HQ0.out HQ1.out (zw8 _) ?_;intro w1 hown1 hg1;rw[HZ.out]at hown1) | (with_reducible refine wpList_copy_all rfl (.tmp 10) (.tmp 11) rfl w.heap.size w.heap.size ys.length B c2 (List.replicate ys.length 0) ys rfl rfl hown1 (HB.out.ext (ext_grown (zxr w) hg1 (fun k hk=>by cases hk))) ?_;intro w2 hown2 hg2))
  have HO1:=zh (show w2.ownsRow w.heap.size 5 1 (.slice (some ⟨w.heap.size,0,none⟩) ys.length ys.length) ys.length (c8 (mixK 0 xs ys))by rw[mixK_zero];exact hown2);have E2:=zh (ext_grown (ext_grown (zxr w) hg1 (fun k hk=>by cases hk)) hg2 (fun k hk=>by obtain rfl:=zw13 hk;exact zw8 _));have HMX:=zh (mix_min xs ys ys.length (.inr ⟨rfl,by omega⟩));have HSX:=zh HA.out.2.1;have HSY:=zh HB.out.2.1;clear hown1 hg1 hown2 hg2
  go_loopw [18] (fun iv wr=>XRel w xs ys ys.length (.slice (some ⟨w.heap.size,0,none⟩) ys.length ys.length) iv wr) (fun iv _=>ys.length-(intOf iv).toNat)
  case atStart=>exact⟨0,Nat.zero_le _,rfl,HO1.out,E2.out⟩
  case round=>
   obtain⟨k,hk,rfl,hown,hex⟩:=hrel;have HOW:=zh hown;have HE:=zh hex;clear hown hex;by_cases hlt:k<ys.length
   ·obtain⟨b,ob,rfl,_,hcell⟩:=(HA.out.ext HE.out).2.2 (by omega)
    have a0:=hcell k (by omega);have y0:wr.cell? ⟨w.heap.size,k,none⟩=some (.int .u8 (ys.getD k 0:Nat)):=by
     rw[HOW.out.cellAt _ (by omega),c8_at (by rw[mixK_len];omega),mixK_at k xs ys k (by omega),if_neg (by omega)]
    have f0:=HOW.out.frozenAt k;clear hcell;have HXR:=zh (xor8 (ys.getD k 0) (xs.getD k 0) (HSY.out k) (HSX.out k));have HMS:=zh (mixK_succ k xs ys (by omega));have k0:(0:Int)≤(k:Int):=by omega
    have k1:(k:Int)<(xs.length:Int):=by omega
    have k2:(k:Int)<(ys.length:Int):=by omega
    have k3:(k:Int)<(ys.length:Int):=by omega
    generalize xs.getD k 0=xk at*;generalize ys.getD k 0=yk at*;go_wp2_with fail
    go_region
    rw[HXR.out];go_wp2_with fail
    go_roundw
    case rel=>
     have hst:=(HOW.out.stored k (.int .u8 ((yk ^^^xk:Nat):Int))).1;refine⟨k+1,by omega,by go_num,?_,zxd (ext_set HE.out (zw8 _) _)⟩;have e:c8 (mixK (k+1) xs ys)=(c8 (mixK k xs ys)).set k (.int .u8 ((yk ^^^xk:Nat):Int)):=by rw[HMS.out];unfold c8;rw[List.map_set]
     rw[e];exact hst.drew
    case measure=>simp[intOf];omega
   ·have hkm:k=ys.length:=by omega
    have k3:¬(k:Int)<(ys.length:Int):=by omega
    have HF:Hid (Wire.Own w wr (.slice (some ⟨w.heap.size,0,none⟩) (mix xs ys).length (mix xs ys).length) (mix xs ys)):=zh (by
     have hl:(mix xs ys).length=ys.length:=mixK_len _ _ _;have:=HOW.out;rw[hkm,HMX.out]at this;unfold Wire.Own;rw[hl];exact this)
    have HL:Hid ((mix xs ys).length=ys.length):=zh (mixK_len _ _ _);clear hkm;go_wp2_with fail;go_ret;exact⟨w.heap.size,by rw[HL.out];rfl,zw8 _,HF.out,HE.out⟩
def zr:List Nat→Nat
 | []=>0
 | c::cs=>if c=0 then zr cs+1 else 0
theorem zr_le (l:List Nat):zr l≤l.length:=by
 induction l with
 | nil=>simp[zr]
 | cons c cs ih=>
  rw[zr,zw3]
  split<;>omega
theorem zr_at {xs:List Nat} {k:Nat} (h:k<xs.length):zr (xs.drop k)=if xs.getD k 0=0 then zr (xs.drop (k+1))+1 else 0:=by
 rw[zw20 h,zr,zw5,zw6 h];rfl
def ZRel (xs:List Nat) (from_:Nat) (tv:Value):Prop:=∃k:Nat,from_≤k∧k≤xs.length∧tv= .int .i64 (k:Int)∧k+zr (xs.drop k)=from_+zr (xs.drop from_)
theorem zeros (xb n c from_:Nat) (A:Option Addr) (xs:List Nat) (w:World) (hx:w.cell? ⟨xb,0,none⟩=some (.slice A n c)) (hB:Bs w A n xs) (hf:from_≤n) (hn:n≤4000000000):
  Calls Tryz.prog 129 #[.int .i64 (from_:Int),.pointer (some ⟨xb,0,none⟩)] w fun e w'=>e= .returned (.int .i64 (zr (xs.drop from_):Nat))∧w=w':=by
 have hxl:xs.length=n:=hB.1;subst hxl;have HB:=zh hB;clear hB;have HZL:=zh (zr_le (xs.drop from_));go_enter Tryz.func129,Tryz.ntmps129;go_wp2_with fail
 go_loop [4] (fun tv=>ZRel xs from_ tv) (fun tv=>xs.length-(intOf tv).toNat)
 case atStart=>exact⟨from_,zw8 _,hf,rfl,rfl⟩
 case round=>
  obtain⟨k,hk1,hk2,rfl,hz⟩:=hrel;have HZ:=zh hz;clear hz;have k0:(0:Int)≤(k:Int):=by omega
  by_cases hlt:k<xs.length
  ·have k1:(k:Int)<(xs.length:Int):=by omega
   obtain⟨b,o,rfl,_,hcell⟩:=HB.out.2.2 (by omega);have a0:=hcell k hlt;clear hcell;have HA:=zh (zr_at hlt);by_cases h0:xs.getD k 0=0
   ·have HA2:Hid (zr (xs.drop k)=zr (xs.drop (k+1))+1):=zh (by rw[HA.out,if_pos h0])
    rw[h0]at a0;clear h0;go_wp2_with fail
    go_round
    case rel=>exact⟨k+1,by omega,by omega,by go_num,by have:=HZ.out;have:=HA2.out;omega⟩
    case measure=>simp[intOf];omega
   ·have HA2:Hid (zr (xs.drop k)=0):=zh (by rw[HA.out,if_neg h0])
    have hb:(((xs.getD k 0:Nat):Int)==0)=false:=zw12.2 (by omega);have HR:Hid (IntKind.i64.wrap ((k:Int)-(from_:Int))=((zr (xs.drop from_):Nat):Int)):=zh (by rw[IntWalk.i64_in _ (by omega)];have:=HZ.out;have:=HA2.out;omega);have HR2:Hid ((k:Int)-(from_:Int)=((zr (xs.drop from_):Nat):Int)):=zh (by have:=HZ.out;have:=HA2.out;omega);clear h0;generalize xs.getD k 0=xk at*;go_wp2_with fail;go_ret;exact⟨ret_int HR2.out,rfl⟩
  ·have k1:¬(k:Int)<(xs.length:Int):=by omega
   have HR2:Hid ((k:Int)-(from_:Int)=((zr (xs.drop from_):Nat):Int)):=zh (by
    have:=HZ.out;rw[List.drop_of_length_le (show xs.length≤k by omega),zr]at this;omega)
   go_wp2_with fail;go_ret;exact⟨ret_int HR2.out,rfl⟩
def lit:List Nat→Nat
 | []=>0
 | c::cs=>if 4≤zr (c::cs)∨zr (c::cs)=(c::cs).length then 0 else lit cs+1
theorem lit_le (l:List Nat):lit l≤l.length:=by
 induction l with
 | nil=>simp[lit]
 | cons c cs ih=>
  rw[lit,zw3]
  split<;>omega
theorem lit_stop {l:List Nat} (h:4≤zr l∨zr l=l.length):lit l=0:=by
 cases l with
 | nil=>rfl
 | cons c cs=>rw[lit,if_pos h]
theorem zr_drop (l:List Nat):∀n,n≤zr l→zr (l.drop n)=zr l-n:=by
 induction l with
 | nil=>intro n h;simp[zr]
 | cons c cs ih=>
  intro n h
  cases n with
  | zero=>simp
  | succ n=>
   rw[zr]at h;by_cases hc:c=0
   ·rw[if_pos hc]at h
    rw[List.drop_succ_cons,ih n (by omega),zr,if_pos hc];omega
   ·rw[if_neg hc]at h;omega
theorem zr_full {l:List Nat} (h:zr l<l.length):l.drop (zr l)≠[]∧zr (l.drop (zr l))=0:=by
 refine⟨fun e=>?_,by rw[zr_drop l _ (zw8 _)];omega⟩;have:=congrArg List.length e;rw[zw1]at this;simp at this;omega
theorem lit_jump (l:List Nat):∀n,zr l=n→n<4→n<l.length→lit l=n+1+lit (l.drop (n+1)):=by
 induction l with
 | nil=>intro n _ _ h;simp at h
 | cons c cs ih=>
  intro n hz h4 hl;have hstop:¬(4≤zr (c::cs)∨zr (c::cs)=(c::cs).length):=by omega
  rw[lit,if_neg hstop]
  cases n with
  | zero=>rw[List.drop_succ_cons,zw28];omega
  | succ n=>
   rw[zr]at hz;by_cases hc:c=0
   ·rw[if_pos hc]at hz
    rw[ih n (by omega) (by omega) (by rw[zw3]at hl;omega),List.drop_succ_cons];omega
   ·rw[if_neg hc]at hz;omega
theorem lit_pos {l:List Nat} (h:zr l=0) (hl:l≠[]):0<lit l:=by
 have hp:0<l.length:=List.length_pos_iff.2 hl;rw[lit_jump l 0 h (by omega) hp];omega
def enc (l:List Nat):List Nat:=
 if h:zr l<l.length then
  vb (zr l)++vb (lit (l.drop (zr l)))++(l.drop (zr l)).take (lit (l.drop (zr l)))++enc (l.drop (zr l+lit (l.drop (zr l))))
 else []
termination_by l.length
decreasing_by
 have h1:=zr_full h;have h2:=lit_pos h1.2 h1.1;rw[zw1];omega
theorem enc_stop {l:List Nat} (h:¬zr l<l.length):enc l=[]:=by rw[enc,dif_neg h]
theorem enc_more {l:List Nat} (h:zr l<l.length):enc l=vb (zr l)++vb (lit (l.drop (zr l)))++(l.drop (zr l)).take (lit (l.drop (zr l)))++enc (l.drop (zr l+lit (l.drop (zr l)))):=by rw[enc,dif_pos h]
def diff (xs ys:List Nat):List Nat:=vb ys.length++enc (mix xs ys)
theorem take_small {l:List Nat} (h:∀c∈l,c<256) (n:Nat):∀c∈l.take n,c<256:=fun c hc=>h c (List.mem_of_mem_take hc)
theorem enc_small (k:Nat):∀l:List Nat,l.length≤k→(∀c∈l,c<256)→∀c∈enc l,c<256:=by
 induction k with
 | zero=>
  intro l hl _ c hc;rw[enc_stop (by omega)]at hc;simp at hc
 | succ k ih=>
  intro l hl hb c hc;by_cases h:zr l<l.length
  ·have h1:=zr_full h
   have h2:=lit_pos h1.2 h1.1;rw[enc_more h]at hc;simp only[zw16]at hc;rcases hc with ((hc | hc) | hc) | hc
   ·exact vb_mem _ c hc
   ·exact vb_mem _ c hc
   ·exact take_small (fun d hd=>hb d (List.mem_of_mem_drop hd)) _ c hc
   ·exact ih _ (by rw[zw1];omega) (fun d hd=>hb d (List.mem_of_mem_drop hd)) c hc
  ·rw[enc_stop h]at hc;simp at hc
theorem lit_end (l:List Nat):4≤zr (l.drop (lit l))∨zr (l.drop (lit l))=(l.drop (lit l)).length:=by
 induction l with
 | nil=>right;simp[zr]
 | cons c cs ih=>
  by_cases h:4≤zr (c::cs)∨zr (c::cs)=(c::cs).length
  ·rw[lit_stop h,zw28];exact h
  ·rw[lit,if_neg h,List.drop_succ_cons];exact ih
theorem vb_two {n:Nat} (h:n<16384):(vb n).length≤2:=vb_len 1 n (by omega)
theorem vb_one {n:Nat} (h:n<128):(vb n).length=1:=by rw[vb_small h];rfl
theorem enc_len (k:Nat):∀l:List Nat,l.length≤k→l.length<16384→(enc l).length≤l.length+3∧(4≤zr l∨zr l=l.length→(enc l).length≤l.length):=by
 induction k with
 | zero=>
  intro l hl _;rw[enc_stop (by omega)];simp
 | succ k ih=>
  intro l hl hb;by_cases h:zr l<l.length
  ·have h1:=zr_full h
   have h2:=lit_pos h1.2 h1.1;have h3:=lit_le (l.drop (zr l));have h4:=lit_end (l.drop (zr l));rw[zw31]at h4;have h5:=(ih (l.drop (zr l+lit (l.drop (zr l)))) (by rw[zw1];omega) (by rw[zw1];omega)).2 h4;rw[zw1]at h3 h5;rw[enc_more h];simp only[zw0,zw2,zw1];have v1:=vb_two (n:=zr l) (by omega);have v2:=vb_two (n:=lit (l.drop (zr l))) (by omega);have v0:zr l<4→(vb (zr l)).length=1:=fun hz=>vb_one (by omega);have hmin:min (lit (l.drop (zr l))) (l.length-zr l)=lit (l.drop (zr l)):=Nat.min_eq_left h3;rw[hmin];refine⟨?_,fun hz=>?_⟩
   ·by_cases hz:zr l<4
    ·have:=v0 hz;omega
    ·omega
   ·omega
  ·rw[enc_stop h]
   simp
theorem mix_len (xs ys:List Nat):(mix xs ys).length=ys.length:=mixK_len _ _ _
theorem diff_len (xs ys:List Nat) (h:ys.length≤3000):(diff xs ys).length≤ys.length+2*(ys.length/5)+12:=by
 unfold diff;have h1:=(enc_len _ (mix xs ys) (zw8 _) (by rw[mix_len];omega)).1;have h2:=vb_two (n:=ys.length) (by omega);rw[mix_len]at h1;rw[zw0];omega
theorem list_ext_getD {xs ys:List Nat} (hl:xs.length=ys.length) (h:∀j,j<ys.length→xs.getD j 0=ys.getD j 0):xs=ys:=by
 apply List.ext_getElem?;intro j;rcases Nat.lt_or_ge j ys.length with hj | hj
 ·have:=h j hj
  rw[zw5,zw5,zw6 hj,zw6 (by omega)]at this;rw[zw6 hj,zw6 (by omega)];exact congrArg some this
 ·rw[List.getElem?_eq_none (by omega),List.getElem?_eq_none hj]
theorem mix_at (xs ys:List Nat) (j:Nat) (hj:j<ys.length):(mix xs ys).getD j 0=if j<xs.length then ys.getD j 0 ^^^xs.getD j 0 else ys.getD j 0:=mixK_at _ xs ys j hj
theorem mix_mix (xs ys:List Nat):mix xs (mix xs ys)=ys:=
 list_ext_getD (by rw[mix_len,mix_len]) (fun j hj=>by
  rw[mix_at _ _ j (by rw[mix_len];exact hj),mix_at _ _ j hj];by_cases h:j<xs.length
  ·rw[if_pos h,if_pos h,Nat.xor_assoc,Nat.xor_self,Nat.xor_zero]
  ·rw[if_neg h,if_neg h])
theorem mix_small {xs ys:List Nat} (hx:∀j,xs.getD j 0<256) (hy:∀j,ys.getD j 0<256):∀j,(mix xs ys).getD j 0<256:=mixK_small _ hx hy
theorem diff_small {xs ys:List Nat} (hx:∀j,xs.getD j 0<256) (hy:∀j,ys.getD j 0<256):∀j,(diff xs ys).getD j 0<256:=
 small_app (vb_byte _) (small_mem (enc_small _ _ (zw8 _) (mem_small (mix_small hx hy))))
theorem zr_take (l:List Nat):l.take (zr l)=List.replicate (zr l) 0:=by
 induction l with
 | nil=>rfl
 | cons c cs ih=>
  rw[zr];by_cases h:c=0
  ·rw[if_pos h,List.take_succ_cons,List.replicate_succ,ih,h]
  ·rw[if_neg h];rfl
def lay (x:List Nat) (i:Nat) (ys:List Nat):List Nat:=x.take i++ys++x.drop (i+ys.length)
def pcs (at_:Nat) (l:List Nat):List (Nat × List Nat):=
 if h:zr l<l.length then
  (at_+zr l,(l.drop (zr l)).take (lit (l.drop (zr l))))::pcs (at_+(zr l+lit (l.drop (zr l)))) (l.drop (zr l+lit (l.drop (zr l))))
 else []
termination_by l.length
decreasing_by
 have h1:=zr_full h;have h2:=lit_pos h1.2 h1.1;rw[zw1];omega
theorem pcs_stop {at_:Nat} {l:List Nat} (h:¬zr l<l.length):pcs at_ l=[]:=by rw[pcs,dif_neg h]
theorem pcs_more {at_:Nat} {l:List Nat} (h:zr l<l.length):pcs at_ l=(at_+zr l,(l.drop (zr l)).take (lit (l.drop (zr l))))::pcs (at_+(zr l+lit (l.drop (zr l)))) (l.drop (zr l+lit (l.drop (zr l)))):=by rw[pcs,dif_pos h]
theorem rep_add (a b:Nat):List.replicate (a+b) (0:Nat)=List.replicate a 0++List.replicate b 0:=List.replicate_append_replicate.symm
theorem lay_zeros (pre L:List Nat) (z n:Nat):lay (pre++List.replicate (z+(L.length+n)) 0) (pre.length+z) L=pre++(List.replicate z 0++L)++List.replicate n 0:=by
 unfold lay;rw[rep_add,rep_add];have e1:(pre++(List.replicate z 0++(List.replicate L.length 0++List.replicate n 0))).take (pre.length+z)=pre++List.replicate z 0:=by
  rw[←zw7,List.take_left' (by simp)]
 have e2:(pre++(List.replicate z 0++(List.replicate L.length 0++List.replicate n 0))).drop (pre.length+z+L.length)=List.replicate n 0:=by
  rw[←zw7,←zw7,List.drop_left' (by simp;omega)]
 rw[e1,e2];simp only[zw7]
theorem fill (k:Nat):∀(l pre:List Nat),l.length≤k→(pcs pre.length l).foldl (fun x p=>lay x p.1 p.2) (pre++List.replicate l.length 0)=pre++l:=by
 induction k with
 | zero=>
  intro l pre hl;obtain rfl:l=[]:=zw19 (by omega);rw[pcs_stop (by simp)];rfl
 | succ k ih=>
  intro l pre hl;by_cases h:zr l<l.length
  ·have h1:=zr_full h
   have h2:=lit_pos h1.2 h1.1;have h3:=lit_le (l.drop (zr l));have hL:((l.drop (zr l)).take (lit (l.drop (zr l)))).length=lit (l.drop (zr l)):=by rw[zw2];omega
   have hsplit:l=List.replicate (zr l) 0++(l.drop (zr l)).take (lit (l.drop (zr l)))++l.drop (zr l+lit (l.drop (zr l))):=by
    rw[←zr_take,zw7,←zw31,List.take_append_drop,List.take_append_drop]
   have hrest:(l.drop (zr l+lit (l.drop (zr l)))).length=l.length-(zr l+lit (l.drop (zr l))):=zw1;rw[zw1]at h3;have hlen:l.length=zr l+(((l.drop (zr l)).take (lit (l.drop (zr l)))).length+(l.drop (zr l+lit (l.drop (zr l)))).length):=by rw[hL,hrest];omega
   rw[pcs_more h,List.foldl_cons];have hstep:=lay_zeros pre ((l.drop (zr l)).take (lit (l.drop (zr l)))) (zr l) (l.drop (zr l+lit (l.drop (zr l)))).length;rw[←hlen]at hstep;rw[hstep];have:=ih (l.drop (zr l+lit (l.drop (zr l)))) (pre++(List.replicate (zr l) 0++(l.drop (zr l)).take (lit (l.drop (zr l))))) (by rw[hrest];omega);have hpl:(pre++(List.replicate (zr l) 0++(l.drop (zr l)).take (lit (l.drop (zr l))))).length=pre.length+(zr l+lit (l.drop (zr l))):=by
    rw[zw0,zw0,List.length_replicate,hL]
   rw[hpl]at this;rw[this]
   conv=>rhs;rw[hsplit]
   simp only[zw7]
  ·have hz:zr l=l.length:=by have:=zr_le l;omega
   rw[pcs_stop h];show pre++List.replicate l.length 0=pre++l;have:=zr_take l;rw[hz,List.take_length]at this;rw[←this]
open Go.ChangeShapes Go.WideShapes Go.ChangeAt Go.RowKit Go.Shelf
abbrev Run (n:Nat):= {t:Nat × Nat × Nat//t.1≤n∧t.2.1≤t.2.2∧t.2.2≤n}
def encR (n g c:Nat) (t:Run n):Array Value:= #[.int .i64 (t.1.1:Int),.slice (some ⟨g,t.1.2.1,none⟩) (t.1.2.2-t.1.2.1) (c-t.1.2.1)]
def txt (xs:List Nat) {n:Nat} (t:Run n):List Nat:=vb t.1.1++vb (t.1.2.2-t.1.2.1)++(xs.drop t.1.2.1).take (t.1.2.2-t.1.2.1)
def txts (xs:List Nat) {n:Nat} (l:List (Run n)):List Nat:=(l.map (txt xs)).flatten
theorem txts_snoc (xs:List Nat) {n:Nat} (l:List (Run n)) (t:Run n):txts xs (l++[t])=txts xs l++txt xs t:=by simp[txts]
def Keep2 (x g:Nat) (w w':World):Prop:=w.heap.size≤w'.heap.size∧∀k,k=x∨k=g→k<w.heap.size→w'.heap[k]? =w.heap[k]?
theorem Keep2.trans {x g:Nat} {a b c:World} (h:Keep2 x g a b) (k:Keep2 x g b c):Keep2 x g a c:=⟨zw10 h.1 k.1,fun i hi hl=>(k.2 i hi (zw9 hl h.1)).trans (h.2 i hi hl)⟩
theorem Keep2.cell {x g:Nat} {w w':World} (h:Keep2 x g w w') {k o:Nat} {v:Value} (hk:k=x∨k=g) (hc:w.cell? ⟨k,o,none⟩=some v):w'.cell? ⟨k,o,none⟩=some v:=
 (World.cell?_of_block (h.2 k hk (World.block_lt_of_cell? w _ hc))).trans hc
theorem bs_keep {x:Nat} {w w':World} {g n:Nat} {xs:List Nat} (h:Bs w (some ⟨g,0,none⟩) n xs) (hb:Keep2 x g w w'):Bs w' (some ⟨g,0,none⟩) n xs:=
 ⟨h.1,h.2.1,fun hp=>by
  obtain⟨b,o,he,hlt,hc⟩:=h.2.2 hp;obtain⟨rfl,rfl⟩:b=g∧o=0:=by cases he;exact⟨rfl,rfl⟩
  exact⟨b,0,rfl,zw9 hlt hb.1,fun j hj=>hb.cell (.inr rfl) (hc j hj)⟩⟩
def ItRel (xb g c:Nat) (xs:List Nat) (J:List (Run xs.length)→World→Prop) (av:Value) (wr:World):Prop:=
 ∃(k:Nat) (pre:List (Run xs.length)),k≤xs.length∧av= .int .i64 (k:Int)∧pre.length≤k∧txts xs pre++enc (xs.drop k)=enc xs∧J pre wr∧
  wr.cell? ⟨xb,0,none⟩=some (.slice (some ⟨g,0,none⟩) xs.length c)∧Bs wr (some ⟨g,0,none⟩) xs.length xs
def InRel (xs:List Nat) (j:Nat) (av nv:Value):Prop:=
 ∃i:Nat,j≤i∧i≤xs.length∧av= .int .i64 (i:Int)∧nv= .int .i64 (zr (xs.drop i):Nat)∧lit (xs.drop j)=(i-j)+lit (xs.drop i)
theorem runs1_in (n:Nat) (hn:1≤n) (l xb g c:Nat) (xs:List Nat) (J Jx:List (Run xs.length)→World→Prop) (hxl:xs.length≤4000000000) (hc:xs.length≤c) (hc2:c≤9223372036854775807)
  (hY:∀pre x W,J pre W→pre.length<xs.length→YieldAt Fence.wide (n-1) Tryz.prog l (encR xs.length g c x) W fun e W'=>
   (e= .returned (.bool true)∧J (pre++[x]) W'∧Keep2 xb g W W')∨(e= .returned (.bool false)∧Jx (pre++[x]) W'))
  (W:World) (hX:W.cell? ⟨xb,0,none⟩=some (.slice (some ⟨g,0,none⟩) xs.length c)) (hB:Bs W (some ⟨g,0,none⟩) xs.length xs) (h0:J [] W):
  CallsIn Fence.wide n Tryz.prog 128 #[.func (.yield l) #[] #[],.pointer (some ⟨xb,0,none⟩)] W fun e W'=>(∃v,e= .returned v)∧
   ((∃ys,txts xs ys=enc xs∧J ys W')∨(∃pre,True∧Jx pre W')):=by
 have HY:=zh hY;clear hY;have HB:=zh hB;have HX:=zh hX;clear hB hX;refine callsIn_of_wp Tryz.func128 rfl trivial ?_ rfl;simp only[Tryz.ntmps128,List.size_toArray,zw3,zw26,Nat.reduceAdd,Nat.reduceSub,Array.replicate_succ,Array.replicate_zero,List.push_toArray,List.append_toArray,zw17,List.cons_append]
 gi_wp2_with fail
 gi_loopw [4] (fun av wr=>ItRel xb g c xs J av wr) (fun av _=>xs.length-(intOf av).toNat)
 case atStart=>exact⟨0,[],Nat.zero_le _,rfl,zw8 _,by simp[txts],h0,HX.out,HB.out⟩
 case round=>
  clear HB HX;obtain⟨k,pre,hk,rfl,hpl,hE,hJ,hX,hB⟩:=hrel;have HE:=zh hE;have HJ:=zh hJ;have HB:=zh hB;clear hE hJ hB
  gi_wp2_with fail
  refine⟨trivial,(callsIn_wide.2 (zeros xb xs.length c k (some ⟨g,0,none⟩) xs wr hX HB.out hk hxl)).mono ?_⟩;rintro e w' ⟨rfl,rfl⟩;have hzr:=zr_le (xs.drop k);rw[zw1]at hzr;have HFULL:=zh (fun h=>zr_full (l:=xs.drop k) h);have HMORE:=zh (fun h=>enc_more (l:=xs.drop k) h);have HSTOP:=zh (fun h=>enc_stop (l:=xs.drop k) h);have HDD:=zh (fun m=>zw31 (l:=xs) (i:=m) (j:=k));generalize zr (xs.drop k)=z at*;by_cases hz:k+z=xs.length
  ·have hb:(((k:Int)+(z:Int))==(xs.length:Int))=true:=beq_iff_eq.2 (by omega)
   have HR:Hid (txts xs pre=enc xs):=zh (by rw[←HE.out,HSTOP.out (by rw[zw1];omega),zw18]);clear hz HFULL HMORE HSTOP HDD
   gi_wp2_with fail
   refine bodyPost_ret (results_none rfl _ _ _) rfl ?_;exact⟨⟨_,rfl⟩,.inl ⟨pre,HR.out,HJ.out⟩⟩
  ·have hlz:z<(xs.drop k).length:=by rw[zw1];omega
   have hb:(((k:Int)+(z:Int))==(xs.length:Int))=false:=zw12.2 (by omega);have hj1:k+z<xs.length:=by omega
   have h1:=HFULL.out hlz;have h2:=lit_pos h1.2 h1.1;have h3:=lit_le ((xs.drop k).drop z);have hz0:=h1.2;rw[HDD.out z]at h2 h3 hz0;rw[zw1]at h3;have HM2:Hid (enc (xs.drop k)=vb z++vb (lit (xs.drop (k+z)))++(xs.drop (k+z)).take (lit (xs.drop (k+z)))++enc (xs.drop (k+(z+lit (xs.drop (k+z)))))):=zh (by
    rw[HMORE.out hlz,HDD.out z,HDD.out])
   have HZ0:=zh hz0;clear hlz h1 hz0 HFULL HMORE HSTOP HDD;have HNZ:=zh hz;clear hz
   gi_wp2_with fail
   gi_loop [4,7] (fun av nv=>InRel xs (k+z) av nv) (fun av _=>xs.length-(intOf av).toNat)
   case atStart=>exact⟨k+z,zw8 _,by omega,by go_num,by rw[HZ0.out];rfl,by omega⟩
   case round=>
    obtain⟨i,hi1,hi2,rfl,rfl,hli⟩:=hrel;have HLI:=zh hli;clear hli;have HLJ:=zh (fun m a b c=>lit_jump (xs.drop i) m a b c);have HLS:=zh (fun h=>lit_stop (l:=xs.drop i) h);have hzi:=zr_le (xs.drop i);rw[zw1]at hzi;have HDD:=zh (fun m=>zw31 (l:=xs) (i:=m) (j:=i));generalize hq:zr (xs.drop i)=q at*;have HQ:=zh hq;clear hq;by_cases hgo:q<4∧q<xs.length-i
    ·obtain⟨hg1,hg2⟩:=hgo
     have HN:Hid (lit (xs.drop (k+z))=(i+q+1-(k+z))+lit (xs.drop (i+q+1))):=zh (by
      have e:=HLJ.out q rfl hg1 (by rw[zw1];omega);rw[HDD.out,show i+(q+1)=i+q+1 from by omega]at e;have:=HLI.out;omega)
     clear HLJ HLS HDD
     gi_wp2_with fail
     rw[show((i:Int)+((q:Int)+1))=((i+q+1:Nat):Int)from by omega];refine⟨trivial,(callsIn_wide.2 (zeros xb xs.length c (i+q+1) (some ⟨g,0,none⟩) xs wr hX HB.out (by omega) hxl)).mono ?_⟩;rintro e w' ⟨rfl,rfl⟩
     gi_wp2_with fail
     go_round
     case rel=>exact⟨i+q+1,by omega,by omega,rfl,rfl,HN.out⟩
     case measure=>simp[intOf];omega
    ·have HS0:Hid (lit (xs.drop i)=0):=zh (HLS.out (by rw[zw1];omega))
     have HI:Hid (lit (xs.drop (k+z))=i-(k+z)):=zh (by have:=HLI.out;have:=HS0.out;omega);have hpos:k+z<i:=by have:=HI.out;omega
     have i0:(0:Int)≤(k:Int)+(z:Int):=by omega
     have i1:(k:Int)+(z:Int)≤(i:Int):=by omega
     have i2:(i:Int)≤(c:Int):=by omega
     clear HLJ HLS HDD HLI HS0 h2 h3;have HT:Hid (txts xs (pre++[(⟨(z,k+z,i),by omega,by omega,hi2⟩:Run xs.length)])++enc (xs.drop i)=enc xs):=zh (by
      rw[txts_snoc,←HE.out,HM2.out,HI.out,show k+(z+(i-(k+z)))=i from by omega];simp only[txt,zw7])
     obtain⟨fn,tmps,assign,body,hy,hR⟩:=HY.out pre ⟨(z,k+z,i),by omega,by omega,hi2⟩ wr HJ.out (by omega);simp only[encR]at hy;have HR:=zh hR;clear hR;clear HM2 HE HI HZ0;have hstop:4≤q∨(q<4∧q=xs.length-i):=by omega
     rcases hstop with hc1 | ⟨hc1,hc2⟩
     ·gi_wp2_with fail
      refine HR.out.mono ?_;rintro e W3 (⟨rfl,hJ3,hk3⟩ | ⟨rfl,hJx3⟩)
      ·have hX3:=hk3.cell (.inl rfl) hX
       have HB3:=zh (bs_keep HB.out hk3);have HJ3:=zh hJ3;clear hJ3 hk3 hy
       gi_wp2_with fail
       go_roundw
       case rel=>exact⟨i,_,hi2,rfl,by simp;omega,HT.out,HJ3.out,hX3,HB3.out⟩
       case measure=>simp[intOf];omega
      ·have HJx3:=zh hJx3;clear hJx3 hy
       gi_wp2_with fail
       refine bodyPost_ret (results_none rfl _ _ _) rfl ?_;exact⟨⟨_,rfl⟩,.inr ⟨_,trivial,HJx3.out⟩⟩
     ·have hnl:¬(i:Int)+(q:Int)<(xs.length:Int):=by omega
      clear hc2
      gi_wp2_with fail
      refine HR.out.mono ?_;rintro e W3 (⟨rfl,hJ3,hk3⟩ | ⟨rfl,hJx3⟩)
      ·have hX3:=hk3.cell (.inl rfl) hX
       have HB3:=zh (bs_keep HB.out hk3);have HJ3:=zh hJ3;clear hJ3 hk3 hy
       gi_wp2_with fail
       go_roundw
       case rel=>exact⟨i,_,hi2,rfl,by simp;omega,HT.out,HJ3.out,hX3,HB3.out⟩
       case measure=>simp[intOf];omega
      ·have HJx3:=zh hJx3;clear hJx3 hy
       gi_wp2_with fail
       refine bodyPost_ret (results_none rfl _ _ _) rfl ?_;exact⟨⟨_,rfl⟩,.inr ⟨_,trivial,HJx3.out⟩⟩
attribute [local go_sem] Oper.semAt_some

theorem runs_in (n:Nat) (A:Option Addr) (m c:Nat) (w:World):
  CallsIn Fence.wide n Tryz.prog 108 #[.slice A m c] w fun e w'=>e= .returned (.func (.func 128) #[] #[.pointer (some ⟨w.heap.size,0,none⟩)])∧w'=w.alloc (.cells #[.slice A m c] 48):=by
 refine callsIn_of_wp Tryz.func108 rfl trivial ?_ rfl;simp only[Tryz.ntmps108,List.size_toArray,zw3,zw26,Nat.reduceAdd,Nat.reduceSub,Array.replicate_succ,Array.replicate_zero,List.push_toArray,List.append_toArray,zw17,List.cons_append]
 gi_wp2
 go_ret;exact⟨rfl,rfl⟩
theorem runs_stops (n:Nat) (hn:1≤n) (xb g c:Nat) (xs:List Nat) (hxl:xs.length≤4000000000) (hc:xs.length≤c) (hc2:c≤9223372036854775807) (w:World)
  (hX:w.cell? ⟨xb,0,none⟩=some (.slice (some ⟨g,0,none⟩) xs.length c)) (hB:Bs w (some ⟨g,0,none⟩) xs.length xs):
  SeqStopsK Fence.wide n Tryz.prog 128 #[.pointer (some ⟨xb,0,none⟩)] (encR xs.length g c) (Keep2 xb g) (fun ys=>txts xs ys=enc xs) (fun _=>True) xs.length w:=fun l J Jx W hW _ _ hY h0=>
 runs1_in n hn l xb g c xs J Jx hxl hc hc2 hY W ((hW.cell (p:=⟨xb,0,none⟩) (World.block_lt_of_cell? w _ hX)).trans hX) (hB.ext hW) h0
theorem wpListIn_of_append {F:Fence} {n:Nat} {P:Program} {w:World} {ops:Array Oper} {rest:List Oper} {o:Oper} {a:Act} {Q:Exit→Act→World→Prop} (hgd:o.guard=none) (s x:Operand) (t tx:TypeId)
  (ho:o.op= .call {callee:= .builtin .append,args:= #[s,x],argTypes:= #[t,tx]}) (vs vx:Value) (hs:a.eval s=vs) (hx:a.eval x=vx) {v':Value} {w':World}
  (hr:(Builtin.append_ #[t,tx] o.type #[vs,vx]).run P w= .ok v' w') (h:wpListIn F n P ops Q rest (a.put o.dst v') w'):wpListIn F n P ops Q (o::rest) a w:=by
 refine wpListIn_plain hgd fun K hK=>?_;unfold Oper.wpIn;refine⟨?_,?_⟩
 ·simp[Oper.about,ho,resolve,Target.leads,Sem.run_pure]
 ·rw[Oper.semAt_plain F _ _ (by rw[ho];intro c hc';cases hc')]
  simp[execOp,ho,resolve,invoke,builtin,hs,hx,hr,Result.andThen];exact hK _ _ h
theorem txt_len (xs:List Nat) {n:Nat} (t:Run n) (hn:n≤1000000):(txt xs t).length≤1000020:=by
 obtain⟨⟨z,a,b⟩,h1,h2,h3⟩:=t;dsimp only at h1 h2 h3;have v1:=vb_ten (n:=z) (by omega);have v2:=vb_ten (n:=b-a) (by omega);simp only[txt,zw0,zw2];omega
theorem txts_len (xs:List Nat) {n:Nat} (hn:n≤1000000) (l:List (Run n)):(txts xs l).length≤l.length*1000020:=by
 induction l with
 | nil=>simp[txts]
 | cons t l ih=>
  have h1:=txt_len xs t hn;have e:txts xs (t::l)=txt xs t++txts xs l:=by simp[txts]
  rw[e,zw0,zw3];omega
theorem bs_cut {w:World} {g n:Nat} {xs:List Nat} (h:Bs w (some ⟨g,0,none⟩) n xs) (a m:Nat) (ham:a+m≤n):Bs w (some ⟨g,a,none⟩) m ((xs.drop a).take m):=by
 have hl:=h.1;refine⟨by rw[zw2,zw1];omega,fun j=>?_,fun hp=>?_⟩
 ·rcases Nat.lt_or_ge j m with hj | hj
  ·rw[zw5,List.getElem?_take_of_lt hj,List.getElem?_drop,←zw5];exact h.2.1 _
  ·rw[zw5,List.getElem?_eq_none (by rw[zw2];omega)];simp
 ·obtain⟨b,o,he,hlt,hc⟩:=h.2.2 (by omega)
  obtain⟨rfl,rfl⟩:b=g∧o=0:=by cases he;exact⟨rfl,rfl⟩
  refine⟨b,a,rfl,hlt,fun j hj=>?_⟩;have:=hc (a+j) (by omega);rw[Nat.zero_add]at this;rw[this,zw5,zw5,List.getElem?_take_of_lt hj,List.getElem?_drop]
def EncW (w:World) (D xb:Nat) (sl:Value) (zs:List Nat) (W:World):Prop:=
 ((∃v,Boxed W D 48 v∧W.ownsRow w.heap.size 5 1 v zs.length (c8 zs)∧True)∧Boxed W xb 48 sl)∧Ext w W
def Rd (xb g:Nat) (W W':World):Prop:=KeepsOthers W W'∧Keep2 xb g W W'
theorem Rd.trans {xb g:Nat} {a b c:World} (h:Rd xb g a b) (k:Rd xb g b c):Rd xb g a c:=⟨h.1.trans k.1,h.2.trans k.2⟩
theorem rd_ext {xb g:Nat} {W W':World} (h:Ext W W'):Rd xb g W W':=
 ⟨⟨h.size,fun k o hk _=>(h.block k (Array.getElem?_eq_some_iff.1 hk).1).trans hk⟩,h.size,fun k _ hl=>h.block k hl⟩
theorem boxed_ext {W W':World} {B:Nat} {t:TypeId} {v:Value} (h:Boxed W B t v) (hE:Ext W W'):Boxed W' B t v:=(hE.block B h.lt).trans h
theorem enc_store {w W1 W2:World} {D xb g:Nat} {sl v v':Value} {xs ys:List Nat} (hg:g<w.heap.size) (hD:w.heap.size≤D) (hne:D≠xb) (hv:Boxed W1 D 48 v) (hx:Boxed W1 xb 48 sl)
  (hr:W1.ownsRow w.heap.size 5 1 v xs.length (c8 xs)) (hE:Ext w W1) (ho:W2.ownsRow w.heap.size 5 1 v' (xs.length+ys.length) (c8 xs++c8 ys)) (hgr:W1.grownBy W2 v.ownBlock):
  (W2.cell? ⟨D,0,none⟩=some v∧W2.frozen? ⟨D,0,none⟩=false)∧EncW w D xb sl (xs++ys) (W2.setCell ⟨D,0,none⟩ v')∧Rd xb g W1 (W2.setCell ⟨D,0,none⟩ v'):=by
 have hv2:=hv.kept hgr (hv.not_row (by decide) hr);have hx2:=hx.kept hgr (hx.not_row (by decide) hr);refine⟨⟨hv2.cell,hv2.frozen⟩,⟨⟨⟨v',hv2.set v',?_,trivial⟩,hx2.other (Ne.symm hne) v'⟩,ext_set (ext_grown hE hgr (own_ge hr)) hD _⟩,?_,?_⟩
 ·rw[zw0,c8_app]
  exact ho.kept (grownBy_setCell' W2 D v') (.inr (hv2.not_row (by decide) ho).symm)
 ·refine(KeepsOthers.of_grownBy hgr fun j o ej hj=>?_).trans (KeepsOthers.setCell _ _ _)
  rcases hr.2 with ⟨rfl,_⟩ | ⟨g',cap,cur,rfl,_,hgb,_⟩
  ·simp[Value.ownBlock]at ej
  ·obtain rfl:g'=j:=by simpa [Value.ownBlock]using ej
   rw[hgb]at hj;cases hj;rfl
 ·refine⟨by simpa [World.setCell]using hgr.size,fun k hk hl=>?_⟩
  have h1:W2.heap[k]? =W1.heap[k]? :=hgr.block k hl (by
   rcases hk with rfl | rfl
   ·exact hx.not_row (by decide) hr
   ·intro e
    have:=own_ge hr k e.symm;omega)
  exact(zw46 W2 ⟨D,0,none⟩ v' k (by rintro rfl;rcases hk with rfl | rfl;exact hne rfl;show False;omega)).trans h1
theorem encode (g c:Nat) (xs:List Nat) (w:World) (hB:Bs w (some ⟨g,0,none⟩) xs.length xs) (hg:g<w.heap.size) (hxl:xs.length≤1000000) (hc:xs.length≤c) (hc2:c≤9223372036854775807):
  Calls Tryz.prog 64 #[.slice (some ⟨g,0,none⟩) xs.length c] w (Puts w (vb xs.length++enc xs)):=by
 refine(callsIn_wide (n:=6)).1 ?_;refine callsIn_of_wp_marks Tryz.func64 rfl trivial ?_ rfl;simp only[Tryz.ntmps64,List.size_toArray,zw3,zw26,Nat.reduceAdd,Nat.reduceSub,Array.replicate_succ,Array.replicate_zero,List.push_toArray,List.append_toArray,zw17,List.cons_append];have hw3:IntKind.u64.wrap (xs.length:Int)=(xs.length:Int):=by rw[IntKind.wrap_u64];omega
 gi_wp2_with fail
 refine⟨trivial,(callsIn_wide.2 (put none 0 0 [] xs.length (by omega) w (Bs.none _ _) (fun _=>⟨rfl,rfl⟩) (by omega) (by omega) (by omega))).mono ?_⟩;rintro e w1 ⟨g1,c1,rfl,hc3,hc4,hg1,hO1,hE1⟩;rw[zw17]at hO1 hc3 ⊢;have HO1:=zh hO1;have HE1:=zh hE1;clear hO1 hE1 hw3
 gi_wp2_with fail
 refine⟨trivial,(runs_in _ _ _ _ _).mono ?_⟩;rintro e w' ⟨rfl,rfl⟩
 gi_wp2_with fail
 have hsz1:w.heap.size≤w1.heap.size:=HE1.out.size;have hgw1:g<w1.heap.size:=by omega
 have bD:=Boxed.new w1 48 (.slice (some ⟨g1,0,none⟩) (vb xs.length).length c1);have bX:=Boxed.new (w1.alloc (.cells #[.slice (some ⟨g1,0,none⟩) (vb xs.length).length c1] 48)) 48 (.slice (some ⟨g,0,none⟩) xs.length c);rw[zw22]at bX;have hE2:Ext w ((w1.alloc (.cells #[.slice (some ⟨g1,0,none⟩) (vb xs.length).length c1] 48)).alloc (.cells #[.slice (some ⟨g,0,none⟩) xs.length c] 48)):=zxa (zxa HE1.out _) _;have hI0:EncW w w1.heap.size (w1.heap.size+1) (.slice (some ⟨g,0,none⟩) xs.length c) (vb xs.length++txts xs ([]:List (Run xs.length))) ((w1.alloc (.cells #[.slice (some ⟨g1,0,none⟩) (vb xs.length).length c1] 48)).alloc (.cells #[.slice (some ⟨g,0,none⟩) xs.length c] 48)):=
  ⟨⟨⟨_,bD.alloc _,by simp only[txts,List.map_nil,List.flatten_nil,zw18];exact own_ext HO1.out (zxa (zxa (zxr w1) _) _),trivial⟩,bX⟩,hE2⟩
 refine wpIn_rangeFunc_ownF rfl (by omega) (gf:=128) (lb:= #[.pointer (some ⟨w1.heap.size+1,0,none⟩)]) rfl trivial (enters_of Tryz.func128 (by kernel_rfl) rfl)
  (runs_stops 5 (by omega) (w1.heap.size+1) g c xs (by omega) hc hc2 _ bX.cell (hB.ext hE2)) (fun h k=>h.trans k)
  (fun W l o o' hl ho _ _=>⟨by simp,fun k hk hlt=>World.putObj_heap_other (by simp at hl;rcases hk with rfl | rfl<;>omega)⟩) (Below.refl _ _) (fun _=>rfl)
  (fun pre W=>EncW w w1.heap.size (w1.heap.size+1) (.slice (some ⟨g,0,none⟩) xs.length c) (vb xs.length++txts xs pre) W)
  (fun _ _ _=>False)
  (OwnFrom.and (OwnFrom.and (Own.from (holdsRow_own w.heap.size w1.heap.size 48 5 1 (fun pre=>(vb xs.length++txts xs pre).length) (fun pre=>c8 (vb xs.length++txts xs pre)) (fun _ _=>True)) _) (Own.from (boxed_own _ _ _) _)) (ownFrom_below (zw8 _) (by simp;omega)))
  (fun _ _ _ _ _ hs _ _=>hs)
  hI0 ?a1 ?assign ?body ?done ?stop
 case a1=>exact fun x=> {tmps:= #[.slice (some ⟨g,0,none⟩) xs.length c,undef,.slice none 0 0,.pointer (some ⟨w1.heap.size,0,none⟩),.int .i64 (x.1.1:Int),.slice (some ⟨g,x.1.2.1,none⟩) (x.1.2.2-x.1.2.1) (c-x.1.2.1),.slice (some ⟨g,0,none⟩) xs.length c,.int .i64 (xs.length:Int),.int .u64 (xs.length:Int),.slice (some ⟨g1,0,none⟩) (vb xs.length).length c1,.slice (some ⟨g,0,none⟩) xs.length c,.func (.func 128) #[] #[.pointer (some ⟨w1.heap.size+1,0,none⟩)],.int .i64 (x.1.1:Int),.slice (some ⟨g,x.1.2.1,none⟩) (x.1.2.2-x.1.2.1) (c-x.1.2.1),undef,undef,undef,undef,undef,undef,undef,undef,undef,undef,undef,undef,undef,undef,undef],defers:=[]}
 case assign=>
  intro l x W K hK;simp only[encR]
  gi_wp2
  exact hK
 case body=>
  rintro l pre ⟨⟨z,a,b⟩,hx1,hx2,hx3⟩ W ⟨⟨⟨v,hv,hr,_⟩,hx⟩,hE⟩ hlt;dsimp only at hx1 hx2 hx3 ⊢;have hmx:Tryz.prog.follows .mixedOrders=true:=by kernel_rfl
  obtain⟨i0,hi0,hz0,hz1,hz2⟩:=info_parts info8;have HI:=zh (And.intro hi0 (And.intro hz0 (And.intro hz1 hz2)));clear hi0 hz0 hz1 hz2;have hl1:=txts_len xs hxl pre;have hl2:=vb_ten (n:=xs.length) (by omega);have hl3:(vb xs.length++txts xs pre).length≤2000000000000:=by rw[zw0];omega
  have HT:Hid (vb xs.length++txts xs (pre++[⟨(z,a,b),hx1,hx2,hx3⟩])=vb xs.length++txts xs pre++vb z++vb (b-a)++(xs.drop a).take (b-a)):=zh (by rw[txts_snoc];simp only[txt,zw7]);have HBg:=zh (hB.ext hE);have HB0:=zh hB;have hab:a+(b-a)≤xs.length:=by omega
  have hv1:=vb_ten (n:=z) (by omega);have HLIT:=zh (bs_cut HBg.out a (b-a) (by omega));have HLS:=zh (HLIT.out.1);have hml:b-a≤xs.length:=by omega
  clear hB hl1 hl2;generalize b-a=m at*;have hv2:=vb_ten (n:=m) (by omega);generalize vb xs.length++txts xs pre=zs at*;have HV:=zh hv;have HX:=zh hx;have HR:=zh hr;have HE:=zh hE;have hc:=hv.cell;have hWs:=hE.size;have hDl:=hv.lt;clear hv hx hr hE;have hw3:IntKind.u64.wrap (z:Int)=(z:Int):=by rw[IntKind.wrap_u64];omega
  gi_wp2_with fail
  gi_cut []from 14 (fun wx=>EncW w w1.heap.size (w1.heap.size+1) (.slice (some ⟨g,0,none⟩) xs.length c) (zs++vb z) wx∧Rd (w1.heap.size+1) g W wx)
  case first=>
   refine region_round (S:=fun _=>True) hmx (by kernel_rfl) ?_
   (refine zw40 (i:=1) (v:=?_) rfl (by kernel_rfl) (by kernel_rfl) (by kernel_rfl) (fun _ _ _ h=>h) (Or.inl ⟨by rfl,?_⟩) trivial ?_);rotate_left
   ·(intro w hSw;go_simp;try with_reducible rfl)
   (refine zw40 (i:=2) (v:=?_) rfl (by kernel_rfl) (by kernel_rfl) (by kernel_rfl) (fun _ _ _ h=>h) (Or.inl ⟨by rfl,?_⟩) trivial ?_);rotate_left
   ·(intro w hSw;go_simp;try with_reducible rfl)
   refine zw41 (rs:=[0,3]) (by kernel_rfl) (by simp) ?_;refine AllReadyH.cons rfl (fun K hK=>?_) (AllReadyH.cons rfl (fun K hK=>?_) zw42)
   ·go_simp
    refine hK.out _ _ trivial fun _=>?_;clear hK K;refine zqO (i:=3) (by kernel_rfl) rfl fun K hK=>?_;go_simp;refine(put none 0 0 [] z (by omega) _ (Bs.none _ _) (fun _=>⟨rfl,rfl⟩) (by omega) (by omega) (by omega)).mono ?_;rintro e w8 ⟨g2,c2,rfl,hd3,hd4,hg2,hO2,hE8⟩;rw[zw17]at hO2 hd3 ⊢;have he8:Ext W w8:=zxt (zxd (zxr W)) hE8;have hv8:=boxed_ext HV.out he8;have hc8:=hv8.cell;have hx8:=zh (boxed_ext HX.out he8);have hr8:=zh (own_ext HR.out he8);have hs8:=he8.size;have HE8:=zh (zxt HE.out he8);have HD8:=zh (rd_ext (xb:=w1.heap.size+1) (g:=g) he8);have HV8:=zh hv8;clear hv8;obtain⟨v2,w9,hrun,ho2,hgr2⟩:=run_app_own (P:=Tryz.prog) 48 48 48 5 i0 (.int .u8 0) 1 1 Tryz.underlying48 HI.out.1 HI.out.2.1 HI.out.2.2.1 HI.out.2.2.2 rfl w.heap.size v zs.length (c8 zs) hr8.out (.slice (some ⟨g2,0,none⟩) (vb z).length c2) (vb z).length (c8 (vb z)) ((Own.bs hO2 (vb_byte z)).src Tryz.underlying48 c2) (by unfold maxLen;omega) (by omega) (by omega);have hst:=enc_store hg hsz1 (show w1.heap.size≠w1.heap.size+1 by omega) HV8.out hx8.out hr8.out HE8.out ho2 hgr2;obtain⟨A2,c3,rfl,_⟩:=own_shape ho2;obtain⟨⟨hc9,hf9⟩,hew,hrd⟩:=hst;have HEW:=zh hew;have HRD:=zh (HD8.out.trans hrd);have HRUN:=zh hrun;clear hew hrd hrun ho2 hgr2 hO2 hE8 he8
    (try go_wp2_with fail)
    refine hK.out _ _ trivial fun _=>?_;clear hK K;refine zqO (i:=4) (by kernel_rfl) rfl fun K hK=>?_;refine wanted_append rfl (.tmp 14) (.tmp 17) 48 48 rfl _ _ rfl rfl HRUN.out ?_;refine hK.out _ _ trivial fun _=>?_;clear hK K;refine zqO (i:=5) (by kernel_rfl) rfl fun K hK=>?_;go_simp;refine hK.out _ _ trivial fun _=>?_;clear hK K;refine zw39 (by kernel_rfl) ?_ _;simp only[Plainly]
    gi_wp2
    gi_meet
    exact⟨HEW.out,HRD.out⟩
   ·go_simp
    refine(put none 0 0 [] z (by omega) _ (Bs.none _ _) (fun _=>⟨rfl,rfl⟩) (by omega) (by omega) (by omega)).mono ?_;rintro e w8 ⟨g2,c2,rfl,hd3,hd4,hg2,hO2,hE8⟩;rw[zw17]at hO2 hd3 ⊢;have he8:Ext W w8:=zxt (zxd (zxr W)) hE8;have hv8:=boxed_ext HV.out he8;have hc8:=hv8.cell;have hx8:=zh (boxed_ext HX.out he8);have hr8:=zh (own_ext HR.out he8);have hs8:=he8.size;have HE8:=zh (zxt HE.out he8);have HD8:=zh (rd_ext (xb:=w1.heap.size+1) (g:=g) he8);have HV8:=zh hv8;clear hv8;obtain⟨v2,w9,hrun,ho2,hgr2⟩:=run_app_own (P:=Tryz.prog) 48 48 48 5 i0 (.int .u8 0) 1 1 Tryz.underlying48 HI.out.1 HI.out.2.1 HI.out.2.2.1 HI.out.2.2.2 rfl w.heap.size v zs.length (c8 zs) hr8.out (.slice (some ⟨g2,0,none⟩) (vb z).length c2) (vb z).length (c8 (vb z)) ((Own.bs hO2 (vb_byte z)).src Tryz.underlying48 c2) (by unfold maxLen;omega) (by omega) (by omega);have hst:=enc_store hg hsz1 (show w1.heap.size≠w1.heap.size+1 by omega) HV8.out hx8.out hr8.out HE8.out ho2 hgr2;obtain⟨A2,c3,rfl,_⟩:=own_shape ho2;obtain⟨⟨hc9,hf9⟩,hew,hrd⟩:=hst;have HEW:=zh hew;have HRD:=zh (HD8.out.trans hrd);have HRUN:=zh hrun;clear hew hrd hrun ho2 hgr2 hO2 hE8 he8
    (try go_wp2_with fail)
    refine hK.out _ _ trivial fun _=>?_;clear hK K;refine zqO (i:=0) (by kernel_rfl) rfl fun K hK=>?_;go_simp;refine hK.out _ _ trivial fun _=>?_;clear hK K;refine zqO (i:=4) (by kernel_rfl) rfl fun K hK=>?_;refine wanted_append rfl (.tmp 14) (.tmp 17) 48 48 rfl _ _ rfl rfl HRUN.out ?_;refine hK.out _ _ trivial fun _=>?_;clear hK K;refine zqO (i:=5) (by kernel_rfl) rfl fun K hK=>?_;go_simp;refine hK.out _ _ trivial fun _=>?_;clear hK K;refine zw39 (by kernel_rfl) ?_ _;simp only[Plainly]
    gi_wp2
    gi_meet
    exact⟨HEW.out,HRD.out⟩
  case rest=>
   clear HV HX HR HE hc hDl hWs;obtain⟨⟨⟨⟨v,hv,hr,_⟩,hx⟩,hE⟩,hRW⟩:=hcut;have HV:=zh hv;have HX:=zh hx;have HR:=zh hr;have HE:=zh hE;have HRW:=zh hRW;have hc:=hv.cell;have hWs:=hE.size;have hDl:=hv.lt;have hl4:(zs++vb z).length≤2000000000010:=by rw[zw0];omega
   generalize zs++vb z=zs2 at*;clear hv hx hr hE hRW;have hw4:IntKind.u64.wrap (m:Int)=(m:Int):=by rw[IntKind.wrap_u64];omega
   gi_wp2_with fail
   gi_cut []from 14 (fun wx=>EncW w w1.heap.size (w1.heap.size+1) (.slice (some ⟨g,0,none⟩) xs.length c) (zs2++vb m) wx∧Rd (w1.heap.size+1) g W wx)
   case first=>
    refine region_round (S:=fun _=>True) hmx (by kernel_rfl) ?_
    (refine zw40 (i:=1) (v:=?_) rfl (by kernel_rfl) (by kernel_rfl) (by kernel_rfl) (fun _ _ _ h=>h) (Or.inl ⟨by rfl,?_⟩) trivial ?_);rotate_left
    ·(intro w hSw;go_simp;try with_reducible rfl)
    (refine zw40 (i:=2) (v:=?_) rfl (by kernel_rfl) (by kernel_rfl) (by kernel_rfl) (fun _ _ _ h=>h) (Or.inl ⟨by rfl,?_⟩) trivial ?_);rotate_left
    ·(intro w hSw;go_simp;try with_reducible rfl)
    (refine zw40 (i:=3) (v:=?_) rfl (by kernel_rfl) (by kernel_rfl) (by kernel_rfl) (fun _ _ _ h=>h) (Or.inl ⟨by rfl,?_⟩) trivial ?_);rotate_left
    ·(intro w hSw;go_simp;try with_reducible rfl)
    refine zw41 (rs:=[0,4]) (by kernel_rfl) (by simp) ?_;refine AllReadyH.cons rfl (fun K hK=>?_) (AllReadyH.cons rfl (fun K hK=>?_) zw42)
    ·go_simp
     refine hK.out _ _ trivial fun _=>?_;clear hK K;refine zqO (i:=4) (by kernel_rfl) rfl fun K hK=>?_;go_simp;refine(put none 0 0 [] m (by omega) _ (Bs.none _ _) (fun _=>⟨rfl,rfl⟩) (by omega) (by omega) (by omega)).mono ?_;rintro e w8 ⟨g2,c2,rfl,hd3,hd4,hg2,hO2,hE8⟩;rw[zw17]at hO2 hd3 ⊢;have he8:Ext wc w8:=zxt (zxd (zxr wc)) hE8;have hv8:=boxed_ext HV.out he8;have hc8:=hv8.cell;have hx8:=zh (boxed_ext HX.out he8);have hr8:=zh (own_ext HR.out he8);have hs8:=he8.size;have HE8:=zh (zxt HE.out he8);have HD8:=zh (rd_ext (xb:=w1.heap.size+1) (g:=g) he8);have HV8:=zh hv8;clear hv8;obtain⟨v2,w9,hrun,ho2,hgr2⟩:=run_app_own (P:=Tryz.prog) 48 48 48 5 i0 (.int .u8 0) 1 1 Tryz.underlying48 HI.out.1 HI.out.2.1 HI.out.2.2.1 HI.out.2.2.2 rfl w.heap.size v zs2.length (c8 zs2) hr8.out (.slice (some ⟨g2,0,none⟩) (vb m).length c2) (vb m).length (c8 (vb m)) ((Own.bs hO2 (vb_byte m)).src Tryz.underlying48 c2) (by unfold maxLen;omega) (by omega) (by omega);have hst:=enc_store hg hsz1 (show w1.heap.size≠w1.heap.size+1 by omega) HV8.out hx8.out hr8.out HE8.out ho2 hgr2;obtain⟨A2,c3,rfl,_⟩:=own_shape ho2;obtain⟨⟨hc9,hf9⟩,hew,hrd⟩:=hst;have HEW:=zh hew;have HRD:=zh ((HRW.out.trans HD8.out).trans hrd);have HRUN:=zh hrun;clear hew hrd hrun ho2 hgr2 hO2 hE8 he8
     (try go_wp2_with fail)
     refine hK.out _ _ trivial fun _=>?_;clear hK K;refine zqO (i:=5) (by kernel_rfl) rfl fun K hK=>?_;refine wanted_append rfl (.tmp 19) (.tmp 23) 48 48 rfl _ _ rfl rfl HRUN.out ?_;refine hK.out _ _ trivial fun _=>?_;clear hK K;refine zqO (i:=6) (by kernel_rfl) rfl fun K hK=>?_;go_simp;refine hK.out _ _ trivial fun _=>?_;clear hK K;refine zw39 (by kernel_rfl) ?_ _;simp only[Plainly]
     gi_wp2
     gi_meet
     exact⟨HEW.out,HRD.out⟩
    ·go_simp
     refine(put none 0 0 [] m (by omega) _ (Bs.none _ _) (fun _=>⟨rfl,rfl⟩) (by omega) (by omega) (by omega)).mono ?_;rintro e w8 ⟨g2,c2,rfl,hd3,hd4,hg2,hO2,hE8⟩;rw[zw17]at hO2 hd3 ⊢;have he8:Ext wc w8:=zxt (zxd (zxr wc)) hE8;have hv8:=boxed_ext HV.out he8;have hc8:=hv8.cell;have hx8:=zh (boxed_ext HX.out he8);have hr8:=zh (own_ext HR.out he8);have hs8:=he8.size;have HE8:=zh (zxt HE.out he8);have HD8:=zh (rd_ext (xb:=w1.heap.size+1) (g:=g) he8);have HV8:=zh hv8;clear hv8;obtain⟨v2,w9,hrun,ho2,hgr2⟩:=run_app_own (P:=Tryz.prog) 48 48 48 5 i0 (.int .u8 0) 1 1 Tryz.underlying48 HI.out.1 HI.out.2.1 HI.out.2.2.1 HI.out.2.2.2 rfl w.heap.size v zs2.length (c8 zs2) hr8.out (.slice (some ⟨g2,0,none⟩) (vb m).length c2) (vb m).length (c8 (vb m)) ((Own.bs hO2 (vb_byte m)).src Tryz.underlying48 c2) (by unfold maxLen;omega) (by omega) (by omega);have hst:=enc_store hg hsz1 (show w1.heap.size≠w1.heap.size+1 by omega) HV8.out hx8.out hr8.out HE8.out ho2 hgr2;obtain⟨A2,c3,rfl,_⟩:=own_shape ho2;obtain⟨⟨hc9,hf9⟩,hew,hrd⟩:=hst;have HEW:=zh hew;have HRD:=zh ((HRW.out.trans HD8.out).trans hrd);have HRUN:=zh hrun;clear hew hrd hrun ho2 hgr2 hO2 hE8 he8
     (try go_wp2_with fail)
     refine hK.out _ _ trivial fun _=>?_;clear hK K;refine zqO (i:=0) (by kernel_rfl) rfl fun K hK=>?_;go_simp;refine hK.out _ _ trivial fun _=>?_;clear hK K;refine zqO (i:=5) (by kernel_rfl) rfl fun K hK=>?_;refine wanted_append rfl (.tmp 19) (.tmp 23) 48 48 rfl _ _ rfl rfl HRUN.out ?_;refine hK.out _ _ trivial fun _=>?_;clear hK K;refine zqO (i:=6) (by kernel_rfl) rfl fun K hK=>?_;go_simp;refine hK.out _ _ trivial fun _=>?_;clear hK K;refine zw39 (by kernel_rfl) ?_ _;simp only[Plainly]
     gi_wp2
     gi_meet
     exact⟨HEW.out,HRD.out⟩
   case rest=>
    clear HV HX HR HE HRW hc hDl hWs;obtain⟨⟨⟨⟨v,hv,hr,_⟩,hx⟩,hE⟩,hRW⟩:=hcut;have hl5:(zs2++vb m).length≤2000000000020:=by rw[zw0];omega
    generalize zs2++vb m=zs3 at*;have hc:=hv.cell;have hWs:=hE.size;have HLW:=zh (HB0.out.ext hE);have hLL:=(bs_cut HLW.out a m hab).1;obtain⟨v2,w9,hrun,ho2,hgr2⟩:=run_app_own (P:=Tryz.prog) 48 48 48 5 i0 (.int .u8 0) 1 1 Tryz.underlying48 HI.out.1 HI.out.2.1 HI.out.2.2.1 HI.out.2.2.2 rfl w.heap.size v zs3.length (c8 zs3) hr (.slice (some ⟨g,a,none⟩) m (c-a)) m (c8 ((xs.drop a).take m)) ((bs_cut HLW.out a m hab).src Tryz.underlying48 (c-a)) (by unfold maxLen;omega) (by omega) (by omega);have ho3:w9.ownsRow w.heap.size 5 1 v2 (zs3.length+((xs.drop a).take m).length) (c8 zs3++c8 ((xs.drop a).take m)):=by rw[hLL];exact ho2
    have hst:=enc_store hg hsz1 (show w1.heap.size≠w1.heap.size+1 by omega) hv hx hr hE ho3 hgr2;obtain⟨A2,c3,rfl,_⟩:=own_shape ho2;obtain⟨⟨hc9,hf9⟩,hew,hrd⟩:=hst;have HEW:=zh hew;have HRD:=zh (hRW.trans hrd);have HRUN:=zh hrun;clear hew hrd hrun ho2 ho3 hgr2 hv hx hr hE hRW hLL
    gi_wp2_with (gi_at_builtin;refine wpListIn_of_append rfl (.tmp 25) (.tmp 26) 48 48 rfl _ _ rfl rfl HRUN.out ?_)
    exact⟨HRD.out.1,HRD.out.2,by have e:=HT.out;show EncW _ _ _ _ (vb xs.length++txts xs (pre++[_])) _;rw[e];exact HEW.out⟩
 case done=>
  rintro D ys W hD hS ⟨⟨⟨v,hv,hr,_⟩,hx⟩,hE⟩ hK;have hc:=hv.cell;have HS:=zh hS;clear hS
  gi_wp2
  refine⟨by simp,.inl ⟨_,_,rfl,run_takeDeferred hK,?_⟩⟩;refine⟨_,results_tmp rfl _ _ _,?_⟩;rw[←HS.out];have hp:=vb_pos xs.length;exact puts_of (ownsRow_putObj hr _ hK rfl) (hE.trans (belowK_b (w:=w) (zw8 _) W D _ _ (by simp at hD;omega) hK rfl rfl)) (by rw[zw0];omega)
 case stop=>
  rintro D cc pre W hD _ h _;exact h.elim
end Go.Proofs.YtidnboeihkeljaaGreatDoor.Delta
