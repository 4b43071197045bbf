
import Derived.Test.YtidnboeihkeljaaGreatDoorF00
import Derived.WalkLawsBesides
import Derived.Deep.QuietTactic
import Derived.BigQuiet
import Derived.RegionTactic
import Derived.StillTailTactics
import Derived.WalkMore
import Derived.BigRegion
import Derived.Deep.RegionHeld
import Derived.Deep.RegionHeld3
import Derived.Laws.CopyOwn
import Derived.Lib.BufferWrite
import Derived.LoopIn
import Derived.LoopNIn
import Derived.LoopTactic
import Derived.Maps.AppendAt
import Derived.OrdersHeld
import Derived.OwnWalkIn
import Derived.RangeFuncBound
import Derived.RangeFuncBox
import Derived.RangeFuncCalls
import Derived.RangeFuncLeaves
import Derived.RangeFuncNested
import Derived.Shelf.Abstract
import Derived.Shelf.RegionOpen
import Derived.Sort.CutIn
import Derived.TacticsInMore
set_option maxHeartbeats 16000000
set_option maxRecDepth 100000
set_option linter.all false
open Go.ChangeShapes Go.WideShapes Go.ChangeAt Go.RowKit
namespace Go.Proofs.YtidnboeihkeljaaGreatDoor.Wire
theorem wp_still {P:Program} {id:Nat} {Q:Exit→Act→World→Prop} {a:Act} {w:World} {l:List Oper} (hm:P.follows .mixedOrders=true) (hB:Region.lexB .any l.toArray=true)
  (h:wpStill P l.toArray w.drew (fun a'=>Q .normal a' w.drew) l a):(Code.region id l.toArray true).wp P Q a w:=wp_region_still_lit hm hB h
theorem wp_still_tail {P:Program} {id:Nat} {Q:Exit→Act→World→Prop} {a:Act} {w:World} {l:List Oper} (n:Nat) (hm:P.follows .mixedOrders=true) (hB:Region.lexTailB .any l.toArray n=true)
  (h:wpStill P l.toArray w.drew (fun a'=>wpList P l.toArray Q (l.drop n) a' w.drew) (l.take n) a):(Code.region id l.toArray true).wp P Q a w:=wp_region_still_tail n hm hB h
theorem gb_refl (w:World) (row:Option Nat):w.grownBy w row:=⟨rfl,rfl,rfl,zw8 _,fun _ _ _=>rfl⟩
theorem gb_trans {a b c:World} {row:Option Nat} (h:a.grownBy b row) (k:b.grownBy c row):a.grownBy c row:=
 ⟨k.os.trans h.os,k.tape.trans h.tape,k.output.trans h.output,zw10 h.size k.size,fun i hi hne=>(k.block i (zw9 hi h.size) hne).trans (h.block i hi hne)⟩
theorem gb_ext {a b:World} (h:Ext a b) (row:Option Nat):a.grownBy b row:=⟨h.os,h.tape,h.output,h.size,fun k hk _=>h.block k hk⟩
theorem gb_set (w:World) (g i:Nat) (v:Value):w.grownBy (w.setCell ⟨g,i,none⟩ v) (some g):=
 ⟨rfl,rfl,rfl,by simp[World.setCell],fun k _ hk=>zw46 w ⟨g,i,none⟩ v k (fun e=>hk (by rw[e]))⟩
def Rdr (w:World) (g:Nat) (s:Value) (at_:Nat) (e:Int):Prop:=Blk w g 184 #[s,.int .i64 (at_:Int),.int .i64 e]
def Eff (w w':World) (g:Nat) (s:Value) (at_:Nat) (e:Int):Prop:=Rdr w' g s at_ e∧w.grownBy w' (some g)
theorem Eff.trans {a b c:World} {g:Nat} {s s':Value} {i j:Nat} {e f:Int} (h:Eff a b g s i e) (k:Eff b c g s' j f):Eff a c g s' j f:=⟨k.1,gb_trans h.2 k.2⟩
theorem Rdr.ext {w w':World} {g:Nat} {s:Value} {i:Nat} {e:Int} (h:Rdr w g s i e) (hb:Ext w w'):Rdr w' g s i e:=Blk.ext h hb
theorem Rdr.eff {w w':World} {g:Nat} {s:Value} {i:Nat} {e:Int} (h:Rdr w g s i e) (hb:Ext w w'):Eff w w' g s i e:=⟨h.ext hb,gb_ext hb _⟩
theorem Eff.ext {a b c:World} {g:Nat} {s:Value} {i:Nat} {e:Int} (h:Eff a b g s i e) (hb:Ext b c):Eff a c g s i e:=h.trans (h.1.eff hb)
theorem Rdr.cells {w:World} {g:Nat} {s:Value} {i:Nat} {e:Int} (h:Rdr w g s i e):w.cell? ⟨g,0,none⟩=some s∧w.cell? ⟨g,1,none⟩=some (.int .i64 (i:Int))∧w.cell? ⟨g,2,none⟩=some (.int .i64 e)∧w.frozen? ⟨g,1,none⟩=false∧w.frozen? ⟨g,2,none⟩=false:=
 ⟨Blk.cell h 0,Blk.cell h 1,Blk.cell h 2,Blk.frozen h 1,Blk.frozen h 2⟩
theorem Rdr.setErr {w:World} {g:Nat} {s:Value} {i:Nat} {e:Int} (h:Rdr w g s i e) (f:Int):Eff w (w.setCell ⟨g,2,none⟩ (.int .i64 f)) g s i f:=
 ⟨Blk.set_ h 2 _,gb_set w g 2 _⟩
theorem Rdr.setAt {w:World} {g:Nat} {s:Value} {i:Nat} {e:Int} (h:Rdr w g s i e) (j:Nat):Eff w (w.setCell ⟨g,1,none⟩ (.int .i64 (j:Int))) g s j e:=
 ⟨Blk.set_ h 1 _,gb_set w g 1 _⟩
theorem and127:∀x:Nat,x<256→bits BinOp.and IntKind.u8 (x:Int) 127=((x%128:Nat):Int):=by decide+kernel
theorem or64 (a b:Nat):bits .or .u64 (a:Int) (b:Int)=((BitVec.ofNat 64 a ||| BitVec.ofNat 64 b).toNat:Int):=by
 show IntKind.u64.wrap ((BitVec.ofInt 64 (a:Int) ||| BitVec.ofInt 64 (b:Int)).toNat:Int)=_;rw[BitVec.ofInt_natCast,BitVec.ofInt_natCast];have:=(BitVec.ofNat 64 a ||| BitVec.ofNat 64 b).isLt;rw[IntKind.wrap_u64];omega
theorem pow128 (s:Nat):2 ^(7*s)=128 ^s:=by rw[Nat.pow_mul]
theorem pow128_le {s:Nat} (h:s≤8):128 ^s≤72057594037927936:=by
 have:128 ^s≤128 ^8:=Nat.pow_le_pow_right (by omega) h
 simpa using this
theorem or_val (acc size cb:Nat) (hs:size≤9) (hacc:acc<128 ^size) (hcb:cb<256):
  ∃z:Nat,z<18446744073709551616∧bits BinOp.or IntKind.u64 (acc:Int) (IntKind.u64.wrap (IntKind.u64.wrap (bits BinOp.and IntKind.u8 (cb:Int) 127)*2 ^(7*size)))=(z:Int)∧
   (size≤8∨cb≤1→z=acc+(cb%128)*128 ^size):=by
 have e1:IntKind.u64.wrap (bits BinOp.and IntKind.u8 (cb:Int) 127)=((cb%128:Nat):Int):=by rw[and127 cb hcb,IntKind.wrap_u64];omega
 have e2:(((cb%128:Nat):Int)*2 ^(7*size))=(((cb%128)*128 ^size:Nat):Int):=by
  rw[Int.natCast_mul,←pow128,Int.natCast_pow];rfl
 have e3:IntKind.u64.wrap ((((cb%128)*128 ^size:Nat)):Int)=((((cb%128)*128 ^size)%18446744073709551616:Nat):Int):=by rw[IntKind.wrap_u64];omega
 rw[e1,e2,e3,or64];have hl:128 ^size≤128 ^9:=Nat.pow_le_pow_right (by omega) hs;have hl2:(128:Nat) ^9=9223372036854775808:=by decide
 refine⟨_,(BitVec.ofNat 64 acc ||| BitVec.ofNat 64 ((cb%128)*128 ^size%18446744073709551616)).isLt,rfl,fun h=>?_⟩;have hsm:(cb%128)*128 ^size<18446744073709551616:=by
  rcases h with h | h
  ·have h8:=pow128_le h
   have:(cb%128)*128 ^size≤127*72057594037927936:=Nat.mul_le_mul (by omega) h8;omega
  ·have:(cb%128)*128 ^size≤1*9223372036854775808:=Nat.mul_le_mul (by omega) (by omega)
   omega
 rw[BitVec.toNat_or,BitVec.toNat_ofNat,BitVec.toNat_ofNat,Nat.mod_eq_of_lt hsm,Nat.mod_eq_of_lt (show acc<2 ^64 by omega),Nat.mod_eq_of_lt (show(cb%128)*128 ^size<2 ^64 by omega)];have:=Nat.shiftLeft_add_eq_or_of_lt (i:=7*size) (b:=acc) (by rw[pow128];exact hacc) (cb%128);rw[Nat.shiftLeft_eq,pow128]at this;rw[Nat.or_comm,←this,Nat.add_comm]
theorem Rdr.setAt' {w:World} {g:Nat} {s:Value} {i:Nat} {e:Int} (h:Rdr w g s i e) (j:Nat) {z:Int} (hz:z=(j:Int)):Eff w (w.setCell ⟨g,1,none⟩ (.int .i64 z)) g s j e:=by subst hz;exact h.setAt j
def VPost (w:World) (g:Nat) (s:Value) (at_:Nat) (R:VR) (e:Ending) (w':World):Prop:=
 ∃(z j:Nat) (err:Int),e= .returned (.int .u64 (z:Int))∧z<18446744073709551616∧Eff w w' g s (at_+j) err∧
  (match R with | .short=>err=3 | .form=>err=4 | .ok v k=>z=v∧j=k∧err=0)
def VRel (w:World) (xs:List Nat) (at_:Nat) (R:VR) (nv sv:Value) (wr:World):Prop:=
 ∃(size acc:Nat),size≤9∧at_+size≤xs.length∧nv= .int .u64 (acc:Int)∧sv= .int .i64 (size:Int)∧acc<128 ^size∧vr size acc (xs.drop (at_+size))=R∧Ext w wr
def RB (w:World) (g:Nat) (A:Option Addr) (n c:Nat) (xs:List Nat):Prop:=Bs w A n xs∧n≤c∧c≤9223372036854775807∧(A=none→n=0∧c=0)∧(0<n→∀a,A=some a→a.block≠g)
theorem RB.eff {w w':World} {g:Nat} {A:Option Addr} {n c:Nat} {xs:List Nat} (hB:RB w g A n c xs) (h:w.grownBy w' (some g)):RB w' g A n c xs:=by
 refine⟨?_,hB.2⟩;rcases Nat.eq_zero_or_pos n with h0 | hp
 ·subst h0
  have:xs=[]:=zw19 hB.1.1;subst this;exact Bs.none _ _
 ·exact hB.1.kept h (fun a ha=>by have:=hB.2.2.2.2 hp a ha;simpa using this)
theorem Bs.drop {w:World} {b o n:Nat} {xs:List Nat} (h:Bs w (some ⟨b,o,none⟩) n xs) (m:Nat) (hm:m≤n):Bs w (some ⟨b,o+m,none⟩) (n-m) (xs.drop m):=by
 refine⟨by rw[zw1,h.1],fun j=>?_,fun hn=>?_⟩
 ·rw[zw5,List.getElem?_drop,←zw5];exact h.2.1 _
 ·obtain⟨b',o',e,hl,hcell⟩:=h.2.2 (by omega)
  simp only[Option.some.injEq,Addr.mk.injEq,and_true]at e;obtain⟨rfl,rfl⟩:=e;refine⟨b,o+m,rfl,hl,fun j hj=>?_⟩;rw[Nat.add_assoc,hcell (m+j) (by omega)];simp[zw5,List.getElem?_drop]
def PPost (w:World) (g:Nat) (s:Value) (at_ m:Nat) (ys:List Nat) (e:Ending) (w':World):Prop:=
 ∃(A':Option Addr) (c':Nat),e= .returned (.slice A' m c')∧m≤c'∧c'≤9223372036854775807∧(A'=none→m=0∧c'=0)∧Bs w' A' m ys∧Eff w w' g s (at_+m) 0
theorem piece_nil (g:Nat) (F:Value) (w:World) (h:Rdr w g (.slice none 0 0) 0 0):
  Calls Tryz.prog 141 #[.pointer (some ⟨g,0,none⟩),.int .u64 0,F] w fun e w'=>e= .returned (.slice none 0 0)∧Eff w w' g (.slice none 0 0) 0 0:=by
 obtain⟨c0,c1',c2,f1,f2⟩:=h.cells;have c1:w.cell? ⟨g,1,none⟩=some (.int .i64 0):=c1';have H:=zh h;clear h c1';go_enter Tryz.func141,Tryz.ntmps141;go_wp2_with fail;refine wp_still (by kernel_rfl) (by kernel_rfl) ?_
 repeat still_step
 refine wpStill_nil ?_;go_wp2_with fail;refine wp_still (by kernel_rfl) (by kernel_rfl) ?_
 repeat still_step
 refine wpStill_nil ?_;go_wp2_with fail;go_ret;exact⟨rfl,(H.out.setAt' 0 rfl).ext (zxd (zxd (zxr _)))⟩
theorem piece_ok (g n c at_ m:Nat) (A:Option Addr) (F:Value) (xs:List Nat) (w:World) (h:Rdr w g (.slice A n c) at_ 0) (hB:RB w g A n c xs) (hat:at_+m≤n) (hn:n≤4000000000):
  Calls Tryz.prog 141 #[.pointer (some ⟨g,0,none⟩),.int .u64 (m:Int),F] w (PPost w g (.slice A n c) at_ m ((xs.drop at_).take m)):=by
 obtain⟨c0,c1,c2,f1,f2⟩:=h.cells;have H:=zh h;have HB:=zh hB;clear h hB;obtain⟨L,hL⟩:∃L:Nat,L=n-at_:=⟨_,rfl⟩;have hLm:¬(L:Int)<(m:Int):=by omega
 have HW1:Hid (IntKind.i64.wrap ((n:Int)-(at_:Int))=(L:Int)):=zh (by rw[IntWalk.i64_in _ (by omega)];omega);have HW2:Hid (IntKind.u64.wrap (L:Int)=(L:Int)):=zh (by rw[IntKind.wrap_u64];omega);clear hL;have b1:(0:Int)≤(at_:Int):=by omega
 have b2:(at_:Int)≤(at_:Int)+(m:Int):=by omega
 have hnc:=HB.out.2.1;have hcm:=HB.out.2.2.1;have b3:(at_:Int)+(m:Int)≤(c:Int):=by omega
 have HEF:=zh (H.out.eff (zxd (zxr _)));rcases A with _ | a
 ·obtain⟨rfl,rfl⟩:=HB.out.2.2.2.1 rfl
  obtain rfl:at_=0:=by omega
  obtain rfl:m=0:=by omega
  refine(piece_nil g F w H.out).mono ?_;rintro e w' ⟨rfl,hE⟩;exact⟨none,0,rfl,zw8 _,by omega,fun _=>⟨rfl,rfl⟩,by rw[zw29];exact Bs.none _ _,hE⟩
 ·have hmn:((at_:Int)+(m:Int)).toNat=at_+m:=by omega
  have HXX:Hid (xs.length=n):=zh HB.out.1.1;obtain⟨A',hA'⟩:∃A':Option Addr,(if c=at_ then some a else some (a.add at_))=A':=⟨_,rfl⟩;have HIF:=zh hA';clear hA';go_enter Tryz.func141,Tryz.ntmps141;go_wp2_with fail;have hw1:=HW1.out;have hw2:=HW2.out;refine wp_still (by kernel_rfl) (by kernel_rfl) ?_
  repeat still_step
  refine wpStill_nil ?_;clear hw1 hw2;go_wp2_with fail;have hif:=HIF.out;refine wp_still (by kernel_rfl) (by kernel_rfl) ?_
  repeat still_step
  refine wpStill_nil ?_;clear hif;go_wp2_with fail;go_ret;have hif:=HIF.out;have hEE:=(H.out.setAt' (at_+m) (z:=(at_:Int)+(m:Int)) (by omega)).ext (zxd (zxd (zxr _)));refine⟨A',c-at_,rfl,by omega,by omega,(fun h=>by rw[←hif]at h;split at h<;>cases h),?_,hEE⟩
  have hb:=(HB.out.eff hEE.2).1;rcases Nat.eq_zero_or_pos m with h0 | hp
  ·rw[h0,zw29];exact Bs.none _ _
  ·rw[←hif,if_neg (by omega)]
   obtain⟨b,o,e,_,_⟩:=hb.2.2 (by omega);obtain rfl:a=⟨b,o,none⟩:=zw13 e;have hadd:(⟨b,o,none⟩:Addr).add at_=⟨b,o+at_,none⟩:=by unfold Addr.add;split<;>simp_all
   rw[hadd];exact(Bs.drop hb at_ (by omega)).take (by omega)
def CP (w:World) (g:Nat) (s:Value) (Φ:Value→Nat→Int→World→Prop) (e:Ending) (w':World):Prop:=
 ∃(v:Value) (a':Nat) (err:Int),e= .returned v∧Eff w w' g s a' err∧Φ v a' err w'
def RP (w:World) (g:Nat) (s zero:Value) (at_:Nat) (Φ:Value→Nat→Int→World→Prop) (e:Ending) (w':World):Prop:=
 (∃(v:Value) (a':Nat),e= .returned v∧Eff w w' g s a' 0∧Φ v a' 0 w')∨
 (∃err:Int,err≠0∧e= .returned zero∧Eff w w' g s at_ err∧∃v0 a0 w0,Φ v0 a0 err w0)
theorem fail0_69 (w:World) (pb g:Nat) (s:Value) (i:Nat) (f:Int) (hp:w.cell? ⟨pb,0,none⟩=some (.pointer (some ⟨g,0,none⟩))) (h:Rdr w g s i 0):
  Calls Tryz.prog 150 #[.int .i64 f,.pointer (some ⟨pb,0,none⟩)] w fun e w'=>e= .returned (.tuple #[])∧Eff w w' g s i f:=by
 obtain⟨c0,c1,c2,f1,f2⟩:=h.cells;have H:=zh h;clear h;go_enter Tryz.func150,Tryz.ntmps150
 go_wp2
 go_end0
 exact⟨rfl,H.out.setErr f⟩
theorem piece_short_69 (pb g n c at_ m:Nat) (A:Option Addr) (xs:List Nat) (w:World) (hp:w.cell? ⟨pb,0,none⟩=some (.pointer (some ⟨g,0,none⟩))) (h:Rdr w g (.slice A n c) at_ 0) (hat:at_≤n) (hn:n≤4000000000) (hm:n-at_<m):
  Calls Tryz.prog 141 #[.pointer (some ⟨g,0,none⟩),.int .u64 (m:Int),.func (.func 150) #[] #[.pointer (some ⟨pb,0,none⟩)]] w fun e w'=>e= .returned (.slice none 0 0)∧Eff w w' g (.slice A n c) at_ 3:=by
 obtain⟨c0,c1,c2,f1,f2⟩:=h.cells;have HP:=zh (kc (zxd (zxr w)) hp);have H:=zh h;clear hp h;have HRD:=zh (H.out.ext (zxd (zxr _)));obtain⟨L,hL⟩:∃L:Nat,L=n-at_:=⟨_,rfl⟩;have hLm:(L:Int)<(m:Int):=by omega
 have HW1:Hid (IntKind.i64.wrap ((n:Int)-(at_:Int))=(L:Int)):=zh (by rw[IntWalk.i64_in _ (by omega)];omega);have HW2:Hid (IntKind.u64.wrap (L:Int)=(L:Int)):=zh (by rw[IntKind.wrap_u64];omega);clear hL;go_enter Tryz.func141,Tryz.ntmps141;go_wp2_with fail;have hw1:=HW1.out;have hw2:=HW2.out;refine wp_still (by kernel_rfl) (by kernel_rfl) ?_
 repeat still_step
 refine wpStill_nil ?_;clear hw1 hw2;go_wp2_with fail;refine(fail0_69 _ pb g _ at_ 3 HP.out HRD.out).mono ?_;rintro e w3 ⟨rfl,hE3⟩;have HE3:=zh hE3;clear hE3;go_wp2_with fail;go_ret;exact⟨rfl,(H.out.eff (zxd (zxr _))).trans HE3.out⟩
theorem reading_69 (g at_:Nat) (s:Value) (q0:Value) (Φ:Value→Nat→Int→World→Prop) (w:World) (h:Rdr w g s at_ 0)
  (hC:Calls Tryz.prog 143 #[.func (.func 150) #[] #[.pointer (some ⟨w.heap.size,0,none⟩)],q0] (w.alloc (.cells #[.pointer (some ⟨g,0,none⟩)] 145)) (CP (w.alloc (.cells #[.pointer (some ⟨g,0,none⟩)] 145)) g s Φ)):
  Calls Tryz.prog 142 #[.pointer (some ⟨g,0,none⟩),.func (.func 143) #[] #[q0]] w (RP w g s (.int .u32 0) at_ Φ):=by
 have hne:w.heap.size≠g:=by have:=Blk.lt h;omega
 have hgl:g<w.heap.size:=Blk.lt h;have HE0:=zh (zxa (zxr w) (.cells #[.pointer (some ⟨g,0,none⟩)] 145));obtain⟨c0,c1,c2,f1,f2⟩:=h.cells;have H:=zh h;have HC:=zh hC;clear h hC;go_enter Tryz.func142,Tryz.ntmps142;go_wp2_with fail;refine(HC.out).mono ?_;rintro e w3 ⟨v,a',err,rfl,hE3,hm⟩;obtain⟨d0,d1,d2,g1,g2⟩:=hE3.1.cells;have p3:w3.cell? ⟨w.heap.size,0,none⟩=some (.pointer (some ⟨g,0,none⟩)):=hE3.2.cell (a:=⟨w.heap.size,0,none⟩) (by simp) (by simpa using hne);have HE3:=zh hE3;have HM:=zh hm;clear hE3 hm;have HEF:Hid (Eff w w3 g s a' err):=zh ((H.out.eff HE0.out).trans HE3.out);by_cases he:err=0
 ·subst he
  go_wp2_with fail;go_ret;exact .inl ⟨v,a',rfl,HEF.out,HM.out⟩
 ·have hb:(err==0)=false:=zw12.2 he
  have HNE:=zh he;clear he;go_wp2_with fail;go_ret;exact .inr ⟨err,HNE.out,rfl,HEF.out.trans (HEF.out.1.setAt' at_ rfl),_,_,_,HM.out⟩
theorem reading_err_69 (g at_:Nat) (s F:Value) (e0:Int) (w:World) (h:Rdr w g s at_ e0) (he:(e0==0)=false):
  Calls Tryz.prog 142 #[.pointer (some ⟨g,0,none⟩),F] w fun e w'=>e= .returned (.int .u32 0)∧Ext w w':=by
 have hne:w.heap.size≠g:=by have:=Blk.lt h;omega
 have hgl:g<w.heap.size:=Blk.lt h;obtain⟨c0,c1,c2,f1,f2⟩:=h.cells;clear h;go_enter Tryz.func142,Tryz.ntmps142;go_wp2_with fail;go_ret;exact⟨rfl,by repeat (first | exact zxr _ | refine zxd ?_ | refine zxa ?_ _)⟩
theorem fail0_68 (w : World) (pb g : Nat) (s : Value) (i : Nat) (f : Int) (hp : w.cell? ⟨pb, 0, none⟩ = some (.pointer (some ⟨g, 0, none⟩))) (h : Rdr w g s i 0) :
    Calls Tryz.prog 138 #[.int .i64 f,.pointer (some ⟨pb,0,none⟩)] w fun e w'=>e= .returned (.tuple #[])∧Eff w w' g s i f:=by
  obtain⟨c0,c1,c2,f1,f2⟩:=h.cells;have H:=zh h;clear h;go_enter Tryz.func138,Tryz.ntmps138
  go_wp2
  go_end0
  exact⟨rfl,H.out.setErr f⟩
theorem fail1_68 (w : World) (pb g : Nat) (s : Value) (i : Nat) (f e0 : Int) (hp : w.cell? ⟨pb, 0, none⟩ = some (.pointer (some ⟨g, 0, none⟩))) (h : Rdr w g s i e0) (he : (e0 == 0) = false) :
    Calls Tryz.prog 138 #[.int .i64 f,.pointer (some ⟨pb,0,none⟩)] w fun e w'=>e= .returned (.tuple #[])∧Eff w w' g s i e0:=by
  obtain⟨c0,c1,c2,f1,f2⟩:=h.cells;have H:=zh h;clear h;go_enter Tryz.func138,Tryz.ntmps138
  go_wp2
  go_end0
  exact⟨rfl,H.out.eff (zxr _)⟩
theorem varint_68 (pb g n c at_ : Nat) (A : Option Addr) (xs : List Nat) (w : World) (hp : w.cell? ⟨pb, 0, none⟩ = some (.pointer (some ⟨g, 0, none⟩))) (h : Rdr w g (.slice A n c) at_ 0) (hB : Bs w A n xs) (hat : at_ ≤ n) (hn : n ≤ 4000000000) :
    Calls Tryz.prog 116 #[.pointer (some ⟨g,0,none⟩),.func (.func 138) #[] #[.pointer (some ⟨pb,0,none⟩)]] w (VPost w g (.slice A n c) at_ (vr 0 0 (xs.drop at_))):=by
  have hxl:xs.length=n:=hB.1;subst hxl;have HP:=zh hp;have H:=zh h;have HB:=zh hB;clear hp h hB;generalize hR:vr 0 0 (xs.drop at_)=R at*;have HR:=zh hR;clear hR;go_enter Tryz.func116,Tryz.ntmps116
  go_wp2
  go_step3
  go_wp2
  go_step3
  go_wp2
  go_loopw [5,6] (fun nv sv wr=>VRel w xs at_ R nv sv wr) (fun _ sv _=>10-(intOf sv).toNat)
  case atStart=>exact⟨0,0,by omega,by omega,rfl,rfl,by decide,HR.out,zxr _⟩
  case round=>
    obtain⟨size,acc,hs,hat2,rfl,rfl,hacc,hvr,hE⟩:=hrel;have HVR:=zh hvr;have HE:=zh hE;have HAC:=zh hacc;clear hvr hE hacc;have HRW:=zh (H.out.ext HE.out);have HRD:=zh (HRW.out.ext (zxd (zxr _)));obtain⟨c0,c1,c2,f1,f2⟩:=HRW.out.cells;have p0:=kc HE.out HP.out;have i1:(0:Int)≤(size:Int):=by omega
    have i2:(size:Int)≤9:=by omega
    have i3:(at_:Int)+(size:Int)≤(xs.length:Int):=by omega
    have HWR:Hid (IntKind.i64.wrap ((at_:Int)+(size:Int))=(at_:Int)+(size:Int)):=zh (IntWalk.i64_in _ (by omega));by_cases hge:at_+size<xs.length
    · have hge2:(at_:Int)+(size:Int)<(xs.length:Int):=by omega
      have hi0:(0:Int)≤(at_:Int)+(size:Int):=by omega
      have hidx:((at_:Int)+(size:Int)).toNat=at_+size:=by omega
      obtain⟨b,o,rfl,_,hc⟩:=(HB.out.ext HE.out).2.2 (by omega);have cb0:wr.cell? ⟨b,o+(at_+size),none⟩=some (.int .u8 (xs.getD (at_+size) 0:Nat)):=hc _ hge;clear hc;have hcb:=HB.out.2.1 (at_+size);have hd:xs.drop (at_+size)=xs.getD (at_+size) 0::xs.drop (at_+size+1):=by
        rw[zw20 hge,zw5,zw6 hge];rfl
      have HV2:Hid _:=zh (hd▸HVR.out);generalize xs.getD (at_+size) 0=cb at*;have hcb2:(cb:Int)<256:=by omega
      clear hd;obtain⟨z,hz1,hz2,hz3⟩:=or_val acc size cb hs HAC.out hcb;have HZ1:=zh hz1;have HZ3:=zh hz3;clear hz1 hz3;go_wp2_with fail;have hw:=HWR.out
      (refine wp_still (by kernel_rfl) (by kernel_rfl) ?_;repeat still_step);refine wpStill_nil ?_;clear hw;go_wp2_with fail;have hw:=HWR.out
      (refine wp_still (by kernel_rfl) (by kernel_rfl) ?_;repeat still_step);refine wpStill_nil ?_;clear hw;go_wp2_with fail
      all_goals clear hz2
      all_goals first
        | (((with_reducible refine(fail0_68 _ pb g _ at_ 4 (kc (zxd (zxd (zxr wr))) p0) (HRD.out.ext (zxd (zxr _)))).mono ?_));(rintro e w3 ⟨rfl,hE3⟩);
           (have hR2:R= .form:=by
              have hf:(size=9∧1<cb)∨(0<size∧cb=0):=by
                first
                | (left;omega)
                | (right;have h0:((cb:Int)==0)=true:=by assumption
                   have:=eq_of_beq h0;omega)
              have:=HV2.out;rw[vr,if_pos hf]at this;exact this.symm);
           (have HR2:=zh hR2;clear hR2);
           (obtain⟨d0,d1,d2,g1,g2⟩:=hE3.1.cells);
           (have HE3:=zh hE3;clear hE3);
           go_wp2_with fail;
           (try rw[Exit.noGoto_ret]);
           go_ret;
           exact⟨z,size+1,4,rfl,HZ1.out,(((H.out.eff HE.out).ext (zxd (zxd (zxr _)))).trans HE3.out).trans (HE3.out.1.setAt' (at_+(size+1)) (by omega)),by rw[HR2.out]⟩)
        | (go_roundw
           case rel=>
             have hnf:¬((size=9∧1<cb)∨(0<size∧cb=0)):=by
               first
               | omega
               | (have h0:((cb:Int)==0)=false:=by assumption
                  have:=ne_of_beq_false h0;omega)
             have h128:¬cb<128:=by omega
             have h8:size≤8:=by omega
             have hz:=HZ3.out (.inl h8);rw[show cb%128=cb-128 from by omega]at hz;have hv:=HV2.out;rw[vr,if_neg hnf,if_neg h128,←hz]at hv;have hlt:z<128 ^(size+1):=by
               have ha:=HAC.out;rw[Nat.pow_succ,hz];have:(cb-128)*128 ^size≤127*128 ^size:=Nat.mul_le_mul (by omega) (zw8 _);omega
             exact⟨size+1,z,by omega,by omega,rfl,by go_num,hlt,by rw[←Nat.add_assoc];exact hv,zxd (zxd HE.out)⟩
           case measure=>simp[intOf];omega)
        | ((have hR2 : R = .ok z (size + 1) := by
              have hnf:¬((size=9∧1<cb)∨(0<size∧cb=0)):=by
                first
                | omega
                | (have h0:((cb:Int)==0)=false:=by assumption
                   have:=ne_of_beq_false h0;omega)
              have h128:cb<128:=by omega
              have hz:=HZ3.out (by omega);rw[Nat.mod_eq_of_lt h128]at hz;have hv:=HV2.out;rw[vr,if_neg hnf,if_pos h128,←hz]at hv;exact hv.symm);
           (have HR2:=zh hR2;clear hR2);
           (try rw[Exit.noGoto_ret]);
           go_ret;
           exact⟨z,size+1,0,rfl,HZ1.out,((H.out.eff HE.out).ext (zxd (zxd (zxr _)))).trans ((HRD.out.ext (zxd (zxr _))).setAt' (at_+(size+1)) (by omega)),by rw[HR2.out];exact⟨rfl,rfl,rfl⟩⟩)
    · have hge2:¬(at_:Int)+(size:Int)<(xs.length:Int):=by omega
      have hR2:R= .short:=by
        have:=HVR.out;rw[zw21 (by omega)]at this;exact this.symm
      have HR2:=zh hR2;clear hR2;go_wp2_with fail;have hw:=HWR.out
      (refine wp_still (by kernel_rfl) (by kernel_rfl) ?_;repeat still_step);refine wpStill_nil ?_;clear hw;go_wp2_with fail;refine(fail0_68 _ pb g _ at_ 3 (kc (zxd (zxr wr)) p0) HRD.out).mono ?_;rintro e w3 ⟨rfl,hE3⟩;obtain⟨d0,d1,d2,g1,g2⟩:=hE3.1.cells;have HE3:=zh hE3;clear hE3;go_wp2_with fail
      try rw[Exit.noGoto_ret]
      go_ret;have HAL:acc<18446744073709551616:=by
        have h1:=HAC.out;have h2:128 ^size≤128 ^9:=Nat.pow_le_pow_right (by omega) hs;have h3:(128:Nat) ^9=9223372036854775808:=by decide
        omega
      exact⟨acc,size,3,rfl,HAL,((H.out.eff HE.out).ext (zxd (zxr _))).trans (HE3.out.trans (HE3.out.1.setAt' (at_+size) (by omega))),by rw[HR2.out]⟩
theorem reading_68 (g at_:Nat) (s:Value) (q0:Value) (Φ:Value→Nat→Int→World→Prop) (w:World) (h:Rdr w g s at_ 0)
  (hC:Calls Tryz.prog 115 #[.func (.func 138) #[] #[.pointer (some ⟨w.heap.size,0,none⟩)],q0] (w.alloc (.cells #[.pointer (some ⟨g,0,none⟩)] 145)) (CP (w.alloc (.cells #[.pointer (some ⟨g,0,none⟩)] 145)) g s Φ)):
  Calls Tryz.prog 114 #[.pointer (some ⟨g,0,none⟩),.func (.func 115) #[] #[q0]] w (RP w g s (.int .i64 0) at_ Φ):=by
 have hne:w.heap.size≠g:=by have:=Blk.lt h;omega
 have hgl:g<w.heap.size:=Blk.lt h;have HE0:=zh (zxa (zxr w) (.cells #[.pointer (some ⟨g,0,none⟩)] 145));obtain⟨c0,c1,c2,f1,f2⟩:=h.cells;have H:=zh h;have HC:=zh hC;clear h hC;go_enter Tryz.func114,Tryz.ntmps114;go_wp2_with fail;refine(HC.out).mono ?_;rintro e w3 ⟨v,a',err,rfl,hE3,hm⟩;obtain⟨d0,d1,d2,g1,g2⟩:=hE3.1.cells;have p3:w3.cell? ⟨w.heap.size,0,none⟩=some (.pointer (some ⟨g,0,none⟩)):=hE3.2.cell (a:=⟨w.heap.size,0,none⟩) (by simp) (by simpa using hne);have HE3:=zh hE3;have HM:=zh hm;clear hE3 hm;have HEF:Hid (Eff w w3 g s a' err):=zh ((H.out.eff HE0.out).trans HE3.out);by_cases he:err=0
 ·subst he
  go_wp2_with fail;go_ret;exact .inl ⟨v,a',rfl,HEF.out,HM.out⟩
 ·have hb:(err==0)=false:=zw12.2 he
  have HNE:=zh he;clear he;go_wp2_with fail;go_ret;exact .inr ⟨err,HNE.out,rfl,HEF.out.trans (HEF.out.1.setAt' at_ rfl),_,_,_,HM.out⟩
theorem reading_err_68 (g at_:Nat) (s F:Value) (e0:Int) (w:World) (h:Rdr w g s at_ e0) (he:(e0==0)=false):
  Calls Tryz.prog 114 #[.pointer (some ⟨g,0,none⟩),F] w fun e w'=>e= .returned (.int .i64 0)∧Ext w w':=by
 have hne:w.heap.size≠g:=by have:=Blk.lt h;omega
 have hgl:g<w.heap.size:=Blk.lt h;obtain⟨c0,c1,c2,f1,f2⟩:=h.cells;clear h;go_enter Tryz.func114,Tryz.ntmps114;go_wp2_with fail;go_ret;exact⟨rfl,by repeat (first | exact zxr _ | refine zxd ?_ | refine zxa ?_ _)⟩
def lim:VR→VR
 | .ok v k=>if v≤2147483647 then .ok v k else .form
 | r=>r
def IPhi (at_:Nat) (R:VR) (v:Value) (a':Nat) (err:Int) (w':World):Prop:=
 ∃z:Int,v= .int .i64 z∧(match lim R with | .short=>err=3 | .form=>err=4 | .ok k l=>z=(k:Int)∧a'=at_+l∧err=0)
theorem int1 (pb rb g n c at_:Nat) (A:Option Addr) (xs:List Nat) (w:World) (hp:w.cell? ⟨pb,0,none⟩=some (.pointer (some ⟨g,0,none⟩))) (hr:w.cell? ⟨rb,0,none⟩=some (.pointer (some ⟨g,0,none⟩))) (hpg:pb≠g)
  (h:Rdr w g (.slice A n c) at_ 0) (hB:Bs w A n xs) (hat:at_≤n) (hn:n≤4000000000):
  Calls Tryz.prog 115 #[.func (.func 138) #[] #[.pointer (some ⟨pb,0,none⟩)],.pointer (some ⟨rb,0,none⟩)] w (CP w g (.slice A n c) (IPhi at_ (vr 0 0 (xs.drop at_)))):=by
 have HC:=zh (varint_68 pb g n c at_ A xs w hp h hB hat hn);have HP:=zh hp;have H:=zh h;clear hp h hB;generalize vr 0 0 (xs.drop at_)=R at*;go_enter Tryz.func115,Tryz.ntmps115;go_wp2_with fail;refine(HC.out).mono ?_;rintro e w3 ⟨z,j,err,rfl,hz,hE3,hm⟩;have p3:=hE3.2.cell HP.out (by simpa using hpg);have HE3:=zh hE3;clear hE3;clear hz
 cases R with
 | short=>
  obtain rfl:err=3:=hm;by_cases hbig:z≤2147483647
  ·have hbig2:¬(2147483647:Int)<(z:Int):=by omega
   go_wp2_with fail;go_ret;exact⟨_,at_+j,3,rfl,HE3.out,_,rfl,rfl⟩
  ·have hbig2:(2147483647:Int)<(z:Int):=by omega
   go_wp2_with fail;refine(fail1_68 _ pb g _ (at_+j) 4 3 p3 HE3.out.1 (by decide)).mono ?_;rintro e w4 ⟨rfl,hE4⟩;have HE4:=zh hE4;clear hE4;go_wp2_with fail;go_ret;exact⟨_,at_+j,3,rfl,HE3.out.trans HE4.out,_,rfl,rfl⟩
 | form=>
  obtain rfl:err=4:=hm;by_cases hbig:z≤2147483647
  ·have hbig2:¬(2147483647:Int)<(z:Int):=by omega
   go_wp2_with fail;go_ret;exact⟨_,at_+j,4,rfl,HE3.out,_,rfl,rfl⟩
  ·have hbig2:(2147483647:Int)<(z:Int):=by omega
   go_wp2_with fail;refine(fail1_68 _ pb g _ (at_+j) 4 4 p3 HE3.out.1 (by decide)).mono ?_;rintro e w4 ⟨rfl,hE4⟩;have HE4:=zh hE4;clear hE4;go_wp2_with fail;go_ret;exact⟨_,at_+j,4,rfl,HE3.out.trans HE4.out,_,rfl,rfl⟩
 | ok v k=>
  obtain⟨rfl,rfl,rfl⟩:=hm;by_cases hbig:z≤2147483647
  ·have hbig2:¬(2147483647:Int)<(z:Int):=by omega
   go_wp2_with fail;go_ret;exact⟨_,at_+j,0,rfl,HE3.out,(z:Int),rfl,by simp[lim,hbig]⟩
  ·have hbig2:(2147483647:Int)<(z:Int):=by omega
   go_wp2_with fail;refine(fail0_68 _ pb g _ (at_+j) 4 p3 HE3.out.1).mono ?_;rintro e w4 ⟨rfl,hE4⟩;have HE4:=zh hE4;clear hE4;go_wp2_with fail;go_ret;exact⟨_,at_+j,4,rfl,HE3.out.trans HE4.out,_,rfl,by simp only[lim,if_neg hbig]⟩
def IPost (w:World) (g:Nat) (s:Value) (at_:Nat) (R:VR) (e:Ending) (w':World):Prop:=
 ∃(z j:Nat) (err:Int),e= .returned (.int .i64 (z:Int))∧z≤2147483647∧Eff w w' g s (at_+j) err∧
  (match lim R with | .short=>z=0∧j=0∧err=3 | .form=>z=0∧j=0∧err=4 | .ok v k=>z=v∧j=k∧err=0)
theorem lim_le {R:VR} {v k:Nat} (h:lim R= .ok v k):v≤2147483647:=by
 cases R with
 | short=>cases h
 | form=>cases h
 | ok a b=>
  simp only[lim]at h;by_cases hb:a≤2147483647
  ·rw[if_pos hb]at h;cases h;exact hb
  ·rw[if_neg hb]at h;cases h
theorem ipost_of {w w':World} {g:Nat} {s:Value} {at_:Nat} {R:VR} {e:Ending} (h:RP w g s (.int .i64 0) at_ (IPhi at_ R) e w'):IPost w g s at_ R e w':=by
 rcases h with ⟨v,a',rfl,hE,z,rfl,hm⟩ | ⟨err,hne,rfl,hE,v0,a0,w0,z,rfl,hm⟩
 ·cases hR:lim R with
  | short=>rw[hR]at hm;exact absurd (show(0:Int)=3 from hm) (by decide)
  | form=>rw[hR]at hm;exact absurd (show(0:Int)=4 from hm) (by decide)
  | ok k l=>
   rw[hR]at hm;obtain⟨rfl,rfl,_⟩:=hm;exact⟨k,l,0,rfl,lim_le hR,hE,by rw[hR];exact⟨rfl,rfl,rfl⟩⟩
 ·cases hR:lim R with
  | short=>rw[hR]at hm;obtain rfl:err=3:=hm;exact⟨0,0,3,rfl,by omega,hE,by rw[hR];exact⟨rfl,rfl,rfl⟩⟩
  | form=>rw[hR]at hm;obtain rfl:err=4:=hm;exact⟨0,0,4,rfl,by omega,hE,by rw[hR];exact⟨rfl,rfl,rfl⟩⟩
  | ok k l=>rw[hR]at hm;exact absurd hm.2.2 hne
theorem eff_alloc {w w':World} {g:Nat} {s:Value} {i:Nat} {e:Int} (o:Obj) (h:Eff (w.alloc o) w' g s i e):Eff w w' g s i e:=
 ⟨h.1,gb_trans (gb_ext (zxa (zxr w) o) _) h.2⟩
theorem rp_alloc {w w':World} {g:Nat} {s zero:Value} {at_:Nat} {Φ:Value→Nat→Int→World→Prop} {e:Ending} (o:Obj) (h:RP (w.alloc o) g s zero at_ Φ e w'):RP w g s zero at_ Φ e w':=by
 rcases h with ⟨v,a',he,hE,hm⟩ | ⟨err,hne,he,hE,hm⟩
 ·exact .inl ⟨v,a',he,eff_alloc o hE,hm⟩
 ·exact .inr ⟨err,hne,he,eff_alloc o hE,hm⟩
theorem int (g n c at_:Nat) (A:Option Addr) (xs:List Nat) (w:World) (h:Rdr w g (.slice A n c) at_ 0) (hB:Bs w A n xs) (hat:at_≤n) (hn:n≤4000000000):
  Calls Tryz.prog 80 #[.pointer (some ⟨g,0,none⟩)] w (IPost w g (.slice A n c) at_ (vr 0 0 (xs.drop at_))):=by
 have hgl:g<w.heap.size:=Blk.lt h;have ha:=zxa (zxr w) (.cells #[.pointer (some ⟨g,0,none⟩)] 145);have hb:=zxa (zxr (w.alloc (.cells #[.pointer (some ⟨g,0,none⟩)] 145))) (.cells #[.pointer (some ⟨g,0,none⟩)] 145);have HC:=zh (reading_68 g at_ (.slice A n c) (.pointer (some ⟨w.heap.size,0,none⟩)) (IPhi at_ (vr 0 0 (xs.drop at_))) (w.alloc (.cells #[.pointer (some ⟨g,0,none⟩)] 145)) (h.ext ha)
  (int1 (w.alloc (.cells #[.pointer (some ⟨g,0,none⟩)] 145)).heap.size w.heap.size g n c at_ A xs _ (by simp) (kc hb (by simp)) (by simp;omega) ((h.ext ha).ext hb) ((hB.ext ha).ext hb) hat hn))
 clear h hB ha hb;generalize vr 0 0 (xs.drop at_)=R at*;go_enter Tryz.func80,Tryz.ntmps80;go_wp2_with fail;refine(HC.out).mono ?_;intro e w3 hq;have hp:=ipost_of (rp_alloc _ hq);clear hq;obtain⟨z,j,err,rfl,hz,hE3,hm⟩:=hp;have HP:Hid (IPost w g (.slice A n c) at_ R (.returned (.int .i64 (z:Int))) w3):=zh ⟨z,j,err,rfl,hz,hE3,hm⟩;clear hz hE3 hm;go_wp2_with fail;go_ret;exact HP.out
theorem int_err (g at_:Nat) (s:Value) (e0:Int) (w:World) (h:Rdr w g s at_ e0) (he:(e0==0)=false):
  Calls Tryz.prog 80 #[.pointer (some ⟨g,0,none⟩)] w fun e w'=>e= .returned (.int .i64 0)∧Ext w w':=by
 have ha:=zxa (zxr w) (.cells #[.pointer (some ⟨g,0,none⟩)] 145);have HC:=zh (fun F=>reading_err_68 g at_ s F e0 _ (h.ext ha) he);clear h he;have HA:=zh ha;clear ha;go_enter Tryz.func80,Tryz.ntmps80;go_wp2_with fail;refine(HC.out _).mono ?_;rintro e w3 ⟨rfl,hE3⟩;have HE3:=zh hE3;clear hE3;go_wp2_with fail;go_ret;exact⟨rfl,zxt HA.out HE3.out⟩
def be (ys:List Nat):Nat:=ys.foldl (fun a c=>a*256+c) 0
theorem be_snoc (ys:List Nat) (k:Nat) (h:k<ys.length):be (ys.take (k+1))=be (ys.take k)*256+ys.getD k 0:=by
 unfold be;rw[List.take_succ_eq_append_getElem h,List.foldl_append];simp[zw5,zw6 h]
theorem be_fx {m:Nat} (h:m<4294967296):be (fx m)=m:=by
 simp only[be,fx,List.foldl_cons,List.foldl_nil];omega
theorem or32 (a b:Nat):bits .or .u32 (a:Int) (b:Int)=((BitVec.ofNat 32 a ||| BitVec.ofNat 32 b).toNat:Int):=by
 show IntKind.u32.wrap ((BitVec.ofInt 32 (a:Int) ||| BitVec.ofInt 32 (b:Int)).toNat:Int)=_;rw[BitVec.ofInt_natCast,BitVec.ofInt_natCast];have:=(BitVec.ofNat 32 a ||| BitVec.ofNat 32 b).isLt;rw[IntKind.wrap_u32];omega
theorem be_val (acc cb:Nat) (ha:acc<16777216) (hc:cb<256):bits BinOp.or IntKind.u32 ((acc:Int)*256) (cb:Int)=((acc*256+cb:Nat):Int):=by
 rw[show((acc:Int)*256)=((acc*256:Nat):Int)from by omega,or32,BitVec.toNat_or,BitVec.toNat_ofNat,BitVec.toNat_ofNat,Nat.mod_eq_of_lt (show acc*256<2 ^32 by omega),Nat.mod_eq_of_lt (show cb<2 ^32 by omega)];have:=Nat.shiftLeft_add_eq_or_of_lt (i:=8) (b:=cb) (by omega) acc;rw[Nat.shiftLeft_eq]at this;rw[show acc*256=acc*2 ^8 from rfl,←this]
def FPhi (at_:Nat) (rest:List Nat) (v:Value) (a':Nat) (err:Int) (w':World):Prop:=
 (4≤rest.length∧v= .int .u32 (be (rest.take 4):Nat)∧a'=at_+4∧err=0)∨(rest.length<4∧err=3)
def FRel (ys:List Nat) (nv iv:Value):Prop:=∃k:Nat,k≤4∧nv= .int .u32 (be (ys.take k):Nat)∧iv= .int .i64 (k:Int)∧be (ys.take k)<256 ^k
theorem fixed1 (pb rb g n c at_:Nat) (A:Option Addr) (xs:List Nat) (w:World) (hp:w.cell? ⟨pb,0,none⟩=some (.pointer (some ⟨g,0,none⟩))) (hr:w.cell? ⟨rb,0,none⟩=some (.pointer (some ⟨g,0,none⟩)))
  (h:Rdr w g (.slice A n c) at_ 0) (hB:RB w g A n c xs) (hat:at_≤n) (hn:n≤4000000000):
  Calls Tryz.prog 143 #[.func (.func 150) #[] #[.pointer (some ⟨pb,0,none⟩)],.pointer (some ⟨rb,0,none⟩)] w (CP w g (.slice A n c) (FPhi at_ (xs.drop at_))):=by
 have hxl:(xs.drop at_).length=n-at_:=by rw[zw1,hB.1.1]
 by_cases h4:at_+4≤n
 ·have HC:=zh (show Calls Tryz.prog 141 #[.pointer (some ⟨g,0,none⟩),.int .u64 4,.func (.func 150) #[] #[.pointer (some ⟨pb,0,none⟩)]] w (PPost w g (.slice A n c) at_ 4 ((xs.drop at_).take 4))from piece_ok g n c at_ 4 A _ xs w h hB h4 hn)
  have HF:Hid (∀w',FPhi at_ (xs.drop at_) (.int .u32 (be ((xs.drop at_).take 4):Nat)) (at_+4) 0 w'):=zh (fun w'=> .inl ⟨by omega,rfl,rfl,rfl⟩);have HYL:Hid (((xs.drop at_).take 4).length=4):=zh (by rw[zw2];omega);clear hp h hB hxl;generalize FPhi at_ (xs.drop at_)=Φ at*;generalize (xs.drop at_).take 4=ys at*;go_enter Tryz.func143,Tryz.ntmps143;go_wp2_with fail;refine(HC.out).mono ?_;rintro e w3 ⟨A',c',rfl,hc1,hc2,hc3,hB3,hE3⟩;obtain⟨b,o,rfl,_,hcell⟩:=hB3.2.2 (by omega);have HBY:=zh hB3.2.1;have HE3:=zh hE3;have HCE:=zh hcell;clear hE3 hB3 hcell hc3;go_wp2_with fail
  go_loop [4,6,11] (fun nv _ iv=>FRel ys nv iv) (fun _ _ iv=>4-(intOf iv).toNat)
  case atStart=>exact⟨0,by omega,rfl,rfl,Nat.zero_lt_one⟩
  case round=>
   obtain⟨k,hk,rfl,rfl,hbe⟩:=hrel;by_cases hlt:k<4
   ·have q0:=HCE.out k hlt
    have q1:=HBY.out k;have HSN:=zh (be_snoc ys k (by rw[HYL.out];exact hlt));have hpow:256 ^k≤256 ^3:=Nat.pow_le_pow_right (by omega) (by omega);have hs:be (ys.take k)<16777216:=by
     have:(256:Nat) ^3=16777216:=by decide
     omega
    have HBE:Hid (be (ys.take (k+1))<256 ^(k+1)):=zh (by rw[HSN.out,Nat.pow_succ];omega);clear hpow hbe;generalize be (ys.take k)=acc at*;generalize ys.getD k 0=cb at*;have HV:=zh (be_val acc cb hs q1);have k0:(0:Int)≤(k:Int):=by omega
    have k1:(k:Int)<4:=by omega
    have s0:(acc:Int)<16777216:=by omega
    have q2:(cb:Int)<256:=by omega
    go_wp2_with fail
    go_round
    case rel=>exact⟨k+1,by omega,by rw[HSN.out,HV.out],by go_num,HBE.out⟩
    case measure=>simp[intOf];omega
   ·obtain rfl:k=4:=by omega
    have HTK:Hid (ys.take 4=ys):=zh (List.take_of_length_le (by rw[HYL.out];exact zw8 _));rw[HTK.out];clear hbe;generalize be ys=y at*;go_wp2_with fail;go_ret;exact⟨_,at_+4,0,rfl,HE3.out,HF.out _⟩
 ·have HC:=zh (show Calls Tryz.prog 141 #[.pointer (some ⟨g,0,none⟩),.int .u64 4,.func (.func 150) #[] #[.pointer (some ⟨pb,0,none⟩)]] w (fun e w'=>e= .returned (.slice none 0 0)∧Eff w w' g (.slice A n c) at_ 3)from piece_short_69 pb g n c at_ 4 A xs w hp h hat hn (by omega))
  have HF:Hid (∀v w',FPhi at_ (xs.drop at_) v at_ 3 w'):=zh (fun v w'=> .inr ⟨by omega,rfl⟩);clear hp h hB hxl;generalize FPhi at_ (xs.drop at_)=Φ at*;go_enter Tryz.func143,Tryz.ntmps143;go_wp2_with fail;refine(HC.out).mono ?_;rintro e w3 ⟨rfl,hE3⟩;have HE3:=zh hE3;clear hE3;go_wp2_with fail
  go_loop [4,6,11] (fun nv _ iv=>nv= .int .u32 0∧iv= .int .i64 0) (fun _ _ _=>0)
  case atStart=>exact⟨rfl,rfl⟩
  case round=>
   obtain⟨rfl,rfl⟩:=hrel;go_wp2_with fail;go_ret;exact⟨_,at_,3,rfl,HE3.out,HF.out _ _⟩
def FPost (w:World) (g:Nat) (s:Value) (at_:Nat) (rest:List Nat) (e:Ending) (w':World):Prop:=
 (4≤rest.length∧e= .returned (.int .u32 (be (rest.take 4):Nat))∧Eff w w' g s (at_+4) 0)∨(rest.length<4∧e= .returned (.int .u32 0)∧Eff w w' g s at_ 3)
theorem fpost_of {w w':World} {g:Nat} {s:Value} {at_:Nat} {rest:List Nat} {e:Ending} (h:RP w g s (.int .u32 0) at_ (FPhi at_ rest) e w'):FPost w g s at_ rest e w':=by
 rcases h with ⟨v,a',rfl,hE,⟨h1,rfl,rfl,_⟩ | ⟨_,h2⟩⟩ | ⟨err,hne,rfl,hE,v0,a0,w0,⟨_,_,_,h2⟩ | ⟨h1,h2⟩⟩
 ·exact .inl ⟨h1,rfl,hE⟩
 ·exact absurd h2 (by decide)
 ·exact absurd h2 hne
 ·subst h2;exact .inr ⟨h1,rfl,hE⟩
theorem fixed (g n c at_:Nat) (A:Option Addr) (xs:List Nat) (w:World) (h:Rdr w g (.slice A n c) at_ 0) (hB:RB w g A n c xs) (hat:at_≤n) (hn:n≤4000000000):
  Calls Tryz.prog 119 #[.pointer (some ⟨g,0,none⟩)] w (FPost w g (.slice A n c) at_ (xs.drop at_)):=by
 have ha:=zxa (zxr w) (.cells #[.pointer (some ⟨g,0,none⟩)] 145);have hb:=zxa (zxr (w.alloc (.cells #[.pointer (some ⟨g,0,none⟩)] 145))) (.cells #[.pointer (some ⟨g,0,none⟩)] 145);have HC:=zh (reading_69 g at_ (.slice A n c) (.pointer (some ⟨w.heap.size,0,none⟩)) (FPhi at_ (xs.drop at_)) (w.alloc (.cells #[.pointer (some ⟨g,0,none⟩)] 145)) (h.ext ha)
  (fixed1 (w.alloc (.cells #[.pointer (some ⟨g,0,none⟩)] 145)).heap.size w.heap.size g n c at_ A xs _ (by simp) (kc hb (by simp)) ((h.ext ha).ext hb) ((hB.eff (gb_ext ha _)).eff (gb_ext hb _)) hat hn))
 clear h hB ha hb;generalize xs.drop at_=rest at*;go_enter Tryz.func119,Tryz.ntmps119;go_wp2_with fail;refine(HC.out).mono ?_;intro e w3 hq;have hp:=fpost_of (rp_alloc _ hq);clear hq;have HP:=zh hp;rcases hp with ⟨h1,rfl,hE⟩ | ⟨h1,rfl,hE⟩
 all_goals
  clear h1 hE;go_wp2_with fail;go_ret;exact HP.out
theorem fail0_71 (w:World) (pb g:Nat) (s:Value) (i:Nat) (f:Int) (hp:w.cell? ⟨pb,0,none⟩=some (.pointer (some ⟨g,0,none⟩))) (h:Rdr w g s i 0):
  Calls Tryz.prog 152 #[.int .i64 f,.pointer (some ⟨pb,0,none⟩)] w fun e w'=>e= .returned (.tuple #[])∧Eff w w' g s i f:=by
 obtain⟨c0,c1,c2,f1,f2⟩:=h.cells;have H:=zh h;clear h;go_enter Tryz.func152,Tryz.ntmps152
 go_wp2
 go_end0
 exact⟨rfl,H.out.setErr f⟩
theorem piece_short_71 (pb g n c at_ m:Nat) (A:Option Addr) (xs:List Nat) (w:World) (hp:w.cell? ⟨pb,0,none⟩=some (.pointer (some ⟨g,0,none⟩))) (h:Rdr w g (.slice A n c) at_ 0) (hat:at_≤n) (hn:n≤4000000000) (hm:n-at_<m):
  Calls Tryz.prog 141 #[.pointer (some ⟨g,0,none⟩),.int .u64 (m:Int),.func (.func 152) #[] #[.pointer (some ⟨pb,0,none⟩)]] w fun e w'=>e= .returned (.slice none 0 0)∧Eff w w' g (.slice A n c) at_ 3:=by
 obtain⟨c0,c1,c2,f1,f2⟩:=h.cells;have HP:=zh (kc (zxd (zxr w)) hp);have H:=zh h;clear hp h;have HRD:=zh (H.out.ext (zxd (zxr _)));obtain⟨L,hL⟩:∃L:Nat,L=n-at_:=⟨_,rfl⟩;have hLm:(L:Int)<(m:Int):=by omega
 have HW1:Hid (IntKind.i64.wrap ((n:Int)-(at_:Int))=(L:Int)):=zh (by rw[IntWalk.i64_in _ (by omega)];omega);have HW2:Hid (IntKind.u64.wrap (L:Int)=(L:Int)):=zh (by rw[IntKind.wrap_u64];omega);clear hL;go_enter Tryz.func141,Tryz.ntmps141;go_wp2_with fail;have hw1:=HW1.out;have hw2:=HW2.out;refine wp_still (by kernel_rfl) (by kernel_rfl) ?_
 repeat still_step
 refine wpStill_nil ?_;clear hw1 hw2;go_wp2_with fail;refine(fail0_71 _ pb g _ at_ 3 HP.out HRD.out).mono ?_;rintro e w3 ⟨rfl,hE3⟩;have HE3:=zh hE3;clear hE3;go_wp2_with fail;go_ret;exact⟨rfl,(H.out.eff (zxd (zxr _))).trans HE3.out⟩
theorem reading_71 (g at_:Nat) (s:Value) (q0:Value) (q1:Value) (Φ:Value→Nat→Int→World→Prop) (w:World) (h:Rdr w g s at_ 0)
  (hC:Calls Tryz.prog 148 #[.func (.func 152) #[] #[.pointer (some ⟨w.heap.size,0,none⟩)],q0,q1] (w.alloc (.cells #[.pointer (some ⟨g,0,none⟩)] 145)) (CP (w.alloc (.cells #[.pointer (some ⟨g,0,none⟩)] 145)) g s Φ)):
  Calls Tryz.prog 147 #[.pointer (some ⟨g,0,none⟩),.func (.func 148) #[] #[q0,q1]] w (RP w g s (.slice none 0 0) at_ Φ):=by
 have hne:w.heap.size≠g:=by have:=Blk.lt h;omega
 have hgl:g<w.heap.size:=Blk.lt h;have HE0:=zh (zxa (zxr w) (.cells #[.pointer (some ⟨g,0,none⟩)] 145));obtain⟨c0,c1,c2,f1,f2⟩:=h.cells;have H:=zh h;have HC:=zh hC;clear h hC;go_enter Tryz.func147,Tryz.ntmps147;go_wp2_with fail;refine(HC.out).mono ?_;rintro e w3 ⟨v,a',err,rfl,hE3,hm⟩;obtain⟨d0,d1,d2,g1,g2⟩:=hE3.1.cells;have p3:w3.cell? ⟨w.heap.size,0,none⟩=some (.pointer (some ⟨g,0,none⟩)):=hE3.2.cell (a:=⟨w.heap.size,0,none⟩) (by simp) (by simpa using hne);have HE3:=zh hE3;have HM:=zh hm;clear hE3 hm;have HEF:Hid (Eff w w3 g s a' err):=zh ((H.out.eff HE0.out).trans HE3.out);by_cases he:err=0
 ·subst he
  go_wp2_with fail;go_ret;exact .inl ⟨v,a',rfl,HEF.out,HM.out⟩
 ·have hb:(err==0)=false:=zw12.2 he
  have HNE:=zh he;clear he;go_wp2_with fail;go_ret;exact .inr ⟨err,HNE.out,rfl,HEF.out.trans (HEF.out.1.setAt' at_ rfl),_,_,_,HM.out⟩
theorem reading_err_71 (g at_:Nat) (s F:Value) (e0:Int) (w:World) (h:Rdr w g s at_ e0) (he:(e0==0)=false):
  Calls Tryz.prog 147 #[.pointer (some ⟨g,0,none⟩),F] w fun e w'=>e= .returned (.slice none 0 0)∧Ext w w':=by
 have hne:w.heap.size≠g:=by have:=Blk.lt h;omega
 have hgl:g<w.heap.size:=Blk.lt h;obtain⟨c0,c1,c2,f1,f2⟩:=h.cells;clear h;go_enter Tryz.func147,Tryz.ntmps147;go_wp2_with fail;go_ret;exact⟨rfl,by repeat (first | exact zxr _ | refine zxd ?_ | refine zxa ?_ _)⟩
end Go.Proofs.YtidnboeihkeljaaGreatDoor.Wire
namespace Go.Proofs.YtidnboeihkeljaaGreatDoor.Com
open Wire
theorem eff_app {w w3 w5:World} {g i:Nat} {s:Value} {e:Int} {t:TypeId} {size n:Nat} {v:Value} {xs:List Value} (hE:Eff w w3 g s i e) (hO:w3.ownsRow w.heap.size t size v n xs) (hg:g<w.heap.size) (hgr:w3.grownBy w5 v.ownBlock):Eff w w5 g s i e:=by
 have hne:∀k,k<w.heap.size→some k≠v.ownBlock:=fun k hk e=>by have:=own_ge hO k e.symm;omega
 refine⟨(hgr.block g (zw9 hg hE.2.size) (hne g hg)).trans hE.1,⟨hgr.os.trans hE.2.os,hgr.tape.trans hE.2.tape,hgr.output.trans hE.2.output,zw10 hE.2.size hgr.size,fun k hk hkg=>?_⟩⟩;exact(hgr.block k (zw9 hk hE.2.size) (hne k hk)).trans (hE.2.block k hk hkg)
theorem own_low {w:World} {base base':Nat} {e:TypeId} {size n:Nat} {v:Value} {xs:List Value} (h:w.ownsRow base e size v n xs) (hb:base'≤base):w.ownsRow base' e size v n xs:=by
 refine⟨h.1,?_⟩;rcases h.2 with h | ⟨g,cap,cur,h1,h2,h3⟩
 ·exact .inl h
 ·exact .inr ⟨g,cap,cur,h1,zw10 hb h2,h3⟩
theorem str_ext (X:ByteArray) (j i:Nat):X.extract j i=strOf (((natsOf X).drop j).take (i-j)):=by
 have h1:=strOf_nats (X.extract j i);rw[←h1]
 congr 1
 unfold natsOf;rw[ByteArray.data_extract,Array.toList_extract,List.extract];simp[List.map_take,List.map_drop]
theorem natsOf_get (s:ByteArray) (k:Nat) (h:k<s.size):(natsOf s).getD k 0=s[k].toNat:=by
 unfold natsOf;rw[zw5,List.getElem?_map,zw6 (by rw[Array.length_toList];exact h)];rfl
theorem conv8 {w:World} {A:Option Addr} {n:Nat} {xs:List Nat} (h:Bs w A n xs) (c:Nat):(convert 48 9 (.slice A n c)).run Tryz.prog w= .ok (.string (strOf xs)) w:=
 h.conv (P:=Tryz.prog) 48 5 9 Tryz.underlying48 Tryz.underlying5 Tryz.underlying9 c
theorem nats_ext (s:ByteArray) (k:Nat):natsOf (s.extract k s.size)=(natsOf s).drop k:=by
 rw[str_ext,nats_strOf]
 ·rw[List.take_of_length_le];rw[zw1,natsOf_len];exact zw8 _
 ·exact small_mem (fun c hc=>mem_small (natsOf_small s) c (List.mem_of_mem_drop (List.mem_of_mem_take hc)))
end Go.Proofs.YtidnboeihkeljaaGreatDoor.Com
namespace Go.Proofs.YtidnboeihkeljaaGreatDoor.Wire
theorem reading_70 (g at_:Nat) (s:Value) (q0:Value) (q1:Value) (Φ:Value→Nat→Int→World→Prop) (w:World) (h:Rdr w g s at_ 0)
  (hC:Calls Tryz.prog 140 #[.func (.func 149) #[] #[.pointer (some ⟨w.heap.size,0,none⟩)],q0,q1] (w.alloc (.cells #[.pointer (some ⟨g,0,none⟩)] 145)) (CP (w.alloc (.cells #[.pointer (some ⟨g,0,none⟩)] 145)) g s Φ)):
  Calls Tryz.prog 139 #[.pointer (some ⟨g,0,none⟩),.func (.func 140) #[] #[q0,q1]] w (RP w g s (.string ⟨#[]⟩) at_ Φ):=by
 have hne:w.heap.size≠g:=by have:=Blk.lt h;omega
 have hgl:g<w.heap.size:=Blk.lt h;have HE0:=zh (zxa (zxr w) (.cells #[.pointer (some ⟨g,0,none⟩)] 145));obtain⟨c0,c1,c2,f1,f2⟩:=h.cells;have H:=zh h;have HC:=zh hC;clear h hC;go_enter Tryz.func139,Tryz.ntmps139;go_wp2_with fail;refine(HC.out).mono ?_;rintro e w3 ⟨v,a',err,rfl,hE3,hm⟩;obtain⟨d0,d1,d2,g1,g2⟩:=hE3.1.cells;have p3:w3.cell? ⟨w.heap.size,0,none⟩=some (.pointer (some ⟨g,0,none⟩)):=hE3.2.cell (a:=⟨w.heap.size,0,none⟩) (by simp) (by simpa using hne);have HE3:=zh hE3;have HM:=zh hm;clear hE3 hm;have HEF:Hid (Eff w w3 g s a' err):=zh ((H.out.eff HE0.out).trans HE3.out);by_cases he:err=0
 ·subst he
  go_wp2_with fail;go_ret;exact .inl ⟨v,a',rfl,HEF.out,HM.out⟩
 ·have hb:(err==0)=false:=zw12.2 he
  have HNE:=zh he;clear he;go_wp2_with fail;go_ret;exact .inr ⟨err,HNE.out,rfl,HEF.out.trans (HEF.out.1.setAt' at_ rfl),_,_,_,HM.out⟩
theorem reading_err_70 (g at_:Nat) (s F:Value) (e0:Int) (w:World) (h:Rdr w g s at_ e0) (he:(e0==0)=false):
  Calls Tryz.prog 139 #[.pointer (some ⟨g,0,none⟩),F] w fun e w'=>e= .returned (.string ⟨#[]⟩)∧Ext w w':=by
 have hne:w.heap.size≠g:=by have:=Blk.lt h;omega
 have hgl:g<w.heap.size:=Blk.lt h;obtain⟨c0,c1,c2,f1,f2⟩:=h.cells;clear h;go_enter Tryz.func139,Tryz.ntmps139;go_wp2_with fail;go_ret;exact⟨rfl,by repeat (first | exact zxr _ | refine zxd ?_ | refine zxa ?_ _)⟩
end Go.Proofs.YtidnboeihkeljaaGreatDoor.Wire
