
import Derived.Test.YtbopblbhjcemaaaGreatDoorF00
import Derived.WalkSpells
set_option maxHeartbeats 16000000
set_option maxRecDepth 100000
set_option linter.all false
open Go.ChangeShapes Go.WideShapes Go.ChangeAt Go.RowKit
namespace Go.Proofs.YtbopblbhjcemaaaGreatDoor.Wire
theorem fail0_69 (w:World) (pb g:Nat) (s:Value) (i:Nat) (f:Int) (hp:w.cell? ⟨pb,0,none⟩=some (.pointer (some ⟨g,0,none⟩))) (h:Rdr w g s i 0):
  Calls Tryz.prog 139 #[.int .i64 f,.pointer (some ⟨pb,0,none⟩)] w fun e w'=>e= .returned (.tuple #[])∧Eff w w' g s i f:=by
 obtain⟨c0,c1,c2,f1,f2⟩:=h.cells;have H:=zh h;clear h;go_enter Tryz.func139,Tryz.ntmps139
 go_wp2
 go_end0
 exact⟨rfl,H.out.setErr f⟩
theorem piece_short_69 (pb g n c at_ m:Nat) (A:Option Addr) (xs:List Nat) (w:World) (hp:w.cell? ⟨pb,0,none⟩=some (.pointer (some ⟨g,0,none⟩))) (h:Rdr w g (.slice A n c) at_ 0) (hat:at_≤n) (hn:n≤4000000000) (hm:n-at_<m):
  Calls Tryz.prog 124 #[.pointer (some ⟨g,0,none⟩),.int .u64 (m:Int),.func (.func 139) #[] #[.pointer (some ⟨pb,0,none⟩)]] w fun e w'=>e= .returned (.slice none 0 0)∧Eff w w' g (.slice A n c) at_ 3:=by
 obtain⟨c0,c1,c2,f1,f2⟩:=h.cells;have HP:=zh (kc (zxd (zxr w)) hp);have H:=zh h;clear hp h;have HRD:=zh (H.out.ext (zxd (zxr _)));obtain⟨L,hL⟩:∃L:Nat,L=n-at_:=⟨_,rfl⟩;have hLm:(L:Int)<(m:Int):=by omega
 have HW1:Hid (IntKind.i64.wrap ((n:Int)-(at_:Int))=(L:Int)):=zh (by rw[IntWalk.i64_in _ (by omega)];omega);have HW2:Hid (IntKind.u64.wrap (L:Int)=(L:Int)):=zh (by rw[IntKind.wrap_u64];omega);clear hL;go_enter Tryz.func124,Tryz.ntmps124;go_wp2_with fail;have hw1:=HW1.out;have hw2:=HW2.out;refine wp_still (by kernel_rfl) (by kernel_rfl) ?_
 repeat still_step
 refine wpStill_nil ?_;clear hw1 hw2;go_wp2_with fail;refine(fail0_69 _ pb g _ at_ 3 HP.out HRD.out).mono ?_;rintro e w3 ⟨rfl,hE3⟩;have HE3:=zh hE3;clear hE3;go_wp2_with fail;go_ret;exact⟨rfl,(H.out.eff (zxd (zxr _))).trans HE3.out⟩
theorem reading_69 (g at_:Nat) (s:Value) (q0:Value) (Φ:Value→Nat→Int→World→Prop) (w:World) (h:Rdr w g s at_ 0)
  (hC:Calls Tryz.prog 123 #[.func (.func 139) #[] #[.pointer (some ⟨w.heap.size,0,none⟩)],q0] (w.alloc (.cells #[.pointer (some ⟨g,0,none⟩)] 133)) (CP (w.alloc (.cells #[.pointer (some ⟨g,0,none⟩)] 133)) g s Φ)):
  Calls Tryz.prog 122 #[.pointer (some ⟨g,0,none⟩),.func (.func 123) #[] #[q0]] w (RP w g s (.int .u32 0) at_ Φ):=by
 have hne:w.heap.size≠g:=by have:=Blk.lt h;omega
 have hgl:g<w.heap.size:=Blk.lt h;have HE0:=zh (zxa (zxr w) (.cells #[.pointer (some ⟨g,0,none⟩)] 133));obtain⟨c0,c1,c2,f1,f2⟩:=h.cells;have H:=zh h;have HC:=zh hC;clear h hC;go_enter Tryz.func122,Tryz.ntmps122;go_wp2_with fail;refine(HC.out).mono ?_;rintro e w3 ⟨v,a',err,rfl,hE3,hm⟩;obtain⟨d0,d1,d2,g1,g2⟩:=hE3.1.cells;have p3:w3.cell? ⟨w.heap.size,0,none⟩=some (.pointer (some ⟨g,0,none⟩)):=hE3.2.cell (a:=⟨w.heap.size,0,none⟩) (by simp) (by simpa using hne);have HE3:=zh hE3;have HM:=zh hm;clear hE3 hm;have HEF:Hid (Eff w w3 g s a' err):=zh ((H.out.eff HE0.out).trans HE3.out);by_cases he:err=0
 ·subst he
  go_wp2_with fail;go_ret;exact .inl ⟨v,a',rfl,HEF.out,HM.out⟩
 ·have hb:(err==0)=false:=zw12.2 he
  have HNE:=zh he;clear he;go_wp2_with fail;go_ret;exact .inr ⟨err,HNE.out,rfl,HEF.out.trans (HEF.out.1.setAt' at_ rfl),_,_,_,HM.out⟩
theorem reading_err_69 (g at_:Nat) (s F:Value) (e0:Int) (w:World) (h:Rdr w g s at_ e0) (he:(e0==0)=false):
  Calls Tryz.prog 122 #[.pointer (some ⟨g,0,none⟩),F] w fun e w'=>e= .returned (.int .u32 0)∧Ext w w':=by
 have hne:w.heap.size≠g:=by have:=Blk.lt h;omega
 have hgl:g<w.heap.size:=Blk.lt h;obtain⟨c0,c1,c2,f1,f2⟩:=h.cells;clear h;go_enter Tryz.func122,Tryz.ntmps122;go_wp2_with fail;go_ret;exact⟨rfl,by repeat (first | exact zxr _ | refine zxd ?_ | refine zxa ?_ _)⟩
theorem fail0_68 (w : World) (pb g : Nat) (s : Value) (i : Nat) (f : Int) (hp : w.cell? ⟨pb, 0, none⟩ = some (.pointer (some ⟨g, 0, none⟩))) (h : Rdr w g s i 0) :
    Calls Tryz.prog 132 #[.int .i64 f,.pointer (some ⟨pb,0,none⟩)] w fun e w'=>e= .returned (.tuple #[])∧Eff w w' g s i f:=by
  obtain⟨c0,c1,c2,f1,f2⟩:=h.cells;have H:=zh h;clear h;go_enter Tryz.func132,Tryz.ntmps132
  go_wp2
  go_end0
  exact⟨rfl,H.out.setErr f⟩
theorem fail1_68 (w : World) (pb g : Nat) (s : Value) (i : Nat) (f e0 : Int) (hp : w.cell? ⟨pb, 0, none⟩ = some (.pointer (some ⟨g, 0, none⟩))) (h : Rdr w g s i e0) (he : (e0 == 0) = false) :
    Calls Tryz.prog 132 #[.int .i64 f,.pointer (some ⟨pb,0,none⟩)] w fun e w'=>e= .returned (.tuple #[])∧Eff w w' g s i e0:=by
  obtain⟨c0,c1,c2,f1,f2⟩:=h.cells;have H:=zh h;clear h;go_enter Tryz.func132,Tryz.ntmps132
  go_wp2
  go_end0
  exact⟨rfl,H.out.eff (zxr _)⟩
theorem varint_68 (pb g n c at_ : Nat) (A : Option Addr) (xs : List Nat) (w : World) (hp : w.cell? ⟨pb, 0, none⟩ = some (.pointer (some ⟨g, 0, none⟩))) (h : Rdr w g (.slice A n c) at_ 0) (hB : Bs w A n xs) (hat : at_ ≤ n) (hn : n ≤ 4000000000) :
    Calls Tryz.prog 100 #[.pointer (some ⟨g,0,none⟩),.func (.func 132) #[] #[.pointer (some ⟨pb,0,none⟩)]] w (VPost w g (.slice A n c) at_ (vr 0 0 (xs.drop at_))):=by
  have hxl:xs.length=n:=hB.1;subst hxl;have HP:=zh hp;have H:=zh h;have HB:=zh hB;clear hp h hB;generalize hR:vr 0 0 (xs.drop at_)=R at*;have HR:=zh hR;clear hR;go_enter Tryz.func100,Tryz.ntmps100
  go_wp2
  go_step3
  go_wp2
  go_step3
  go_wp2
  go_loopw [5,6] (fun nv sv wr=>VRel w xs at_ R nv sv wr) (fun _ sv _=>10-(intOf sv).toNat)
  case atStart=>exact⟨0,0,by omega,by omega,rfl,rfl,by decide,HR.out,zxr _⟩
  case round=>
    obtain⟨size,acc,hs,hat2,rfl,rfl,hacc,hvr,hE⟩:=hrel;have HVR:=zh hvr;have HE:=zh hE;have HAC:=zh hacc;clear hvr hE hacc;have HRW:=zh (H.out.ext HE.out);have HRD:=zh (HRW.out.ext (zxd (zxr _)));obtain⟨c0,c1,c2,f1,f2⟩:=HRW.out.cells;have p0:=kc HE.out HP.out;have i1:(0:Int)≤(size:Int):=by omega
    have i2:(size:Int)≤9:=by omega
    have i3:(at_:Int)+(size:Int)≤(xs.length:Int):=by omega
    have HWR:Hid (IntKind.i64.wrap ((at_:Int)+(size:Int))=(at_:Int)+(size:Int)):=zh (IntWalk.i64_in _ (by omega));by_cases hge:at_+size<xs.length
    · have hge2:(at_:Int)+(size:Int)<(xs.length:Int):=by omega
      have hi0:(0:Int)≤(at_:Int)+(size:Int):=by omega
      have hidx:((at_:Int)+(size:Int)).toNat=at_+size:=by omega
      obtain⟨b,o,rfl,_,hc⟩:=(HB.out.ext HE.out).2.2 (by omega);have cb0:wr.cell? ⟨b,o+(at_+size),none⟩=some (.int .u8 (xs.getD (at_+size) 0:Nat)):=hc _ hge;clear hc;have hcb:=HB.out.2.1 (at_+size);have hd:xs.drop (at_+size)=xs.getD (at_+size) 0::xs.drop (at_+size+1):=by
        rw[zw20 hge,zw5,zw6 hge];rfl
      have HV2:Hid _:=zh (hd▸HVR.out);generalize xs.getD (at_+size) 0=cb at*;have hcb2:(cb:Int)<256:=by omega
      clear hd;obtain⟨z,hz1,hz2,hz3⟩:=or_val acc size cb hs HAC.out hcb;have HZ1:=zh hz1;have HZ3:=zh hz3;clear hz1 hz3;go_wp2_with fail;have hw:=HWR.out
      (refine wp_still (by kernel_rfl) (by kernel_rfl) ?_;repeat still_step);refine wpStill_nil ?_;clear hw;go_wp2_with fail;have hw:=HWR.out
      (refine wp_still (by kernel_rfl) (by kernel_rfl) ?_;repeat still_step);refine wpStill_nil ?_;clear hw;go_wp2_with fail
      all_goals clear hz2
      all_goals first
        | (((with_reducible refine(fail0_68 _ pb g _ at_ 4 (kc (zxd (zxd (zxr wr))) p0) (HRD.out.ext (zxd (zxr _)))).mono ?_));(rintro e w3 ⟨rfl,hE3⟩);
           (have hR2:R= .form:=by
              have hf:(size=9∧1<cb)∨(0<size∧cb=0):=by
                first
                | (left;omega)
                | (right;have h0:((cb:Int)==0)=true:=by assumption
                   have:=eq_of_beq h0;omega)
              have:=HV2.out;rw[vr,if_pos hf]at this;exact this.symm);
           (have HR2:=zh hR2;clear hR2);
           (obtain⟨d0,d1,d2,g1,g2⟩:=hE3.1.cells);
           (have HE3:=zh hE3;clear hE3);
           go_wp2_with fail;
           (try rw[Exit.noGoto_ret]);
           go_ret;
           exact⟨z,size+1,4,rfl,HZ1.out,(((H.out.eff HE.out).ext (zxd (zxd (zxr _)))).trans HE3.out).trans (HE3.out.1.setAt' (at_+(size+1)) (by omega)),by rw[HR2.out]⟩)
        | (go_roundw
           case rel=>
             have hnf:¬((size=9∧1<cb)∨(0<size∧cb=0)):=by
               first
               | omega
               | (have h0:((cb:Int)==0)=false:=by assumption
                  have:=ne_of_beq_false h0;omega)
             have h128:¬cb<128:=by omega
             have h8:size≤8:=by omega
             have hz:=HZ3.out (.inl h8);rw[show cb%128=cb-128 from by omega]at hz;have hv:=HV2.out;rw[vr,if_neg hnf,if_neg h128,←hz]at hv;have hlt:z<128 ^(size+1):=by
               have ha:=HAC.out;rw[Nat.pow_succ,hz];have:(cb-128)*128 ^size≤127*128 ^size:=Nat.mul_le_mul (by omega) (zw8 _);omega
             exact⟨size+1,z,by omega,by omega,rfl,by go_num,hlt,by rw[←Nat.add_assoc];exact hv,zxd (zxd HE.out)⟩
           case measure=>simp[intOf];omega)
        | ((have hR2 : R = .ok z (size + 1) := by
              have hnf:¬((size=9∧1<cb)∨(0<size∧cb=0)):=by
                first
                | omega
                | (have h0:((cb:Int)==0)=false:=by assumption
                   have:=ne_of_beq_false h0;omega)
              have h128:cb<128:=by omega
              have hz:=HZ3.out (by omega);rw[Nat.mod_eq_of_lt h128]at hz;have hv:=HV2.out;rw[vr,if_neg hnf,if_pos h128,←hz]at hv;exact hv.symm);
           (have HR2:=zh hR2;clear hR2);
           (try rw[Exit.noGoto_ret]);
           go_ret;
           exact⟨z,size+1,0,rfl,HZ1.out,((H.out.eff HE.out).ext (zxd (zxd (zxr _)))).trans ((HRD.out.ext (zxd (zxr _))).setAt' (at_+(size+1)) (by omega)),by rw[HR2.out];exact⟨rfl,rfl,rfl⟩⟩)
    · have hge2:¬(at_:Int)+(size:Int)<(xs.length:Int):=by omega
      have hR2:R= .short:=by
        have:=HVR.out;rw[zw21 (by omega)]at this;exact this.symm
      have HR2:=zh hR2;clear hR2;go_wp2_with fail;have hw:=HWR.out
      (refine wp_still (by kernel_rfl) (by kernel_rfl) ?_;repeat still_step);refine wpStill_nil ?_;clear hw;go_wp2_with fail;refine(fail0_68 _ pb g _ at_ 3 (kc (zxd (zxr wr)) p0) HRD.out).mono ?_;rintro e w3 ⟨rfl,hE3⟩;obtain⟨d0,d1,d2,g1,g2⟩:=hE3.1.cells;have HE3:=zh hE3;clear hE3;go_wp2_with fail
      try rw[Exit.noGoto_ret]
      go_ret;have HAL:acc<18446744073709551616:=by
        have h1:=HAC.out;have h2:128 ^size≤128 ^9:=Nat.pow_le_pow_right (by omega) hs;have h3:(128:Nat) ^9=9223372036854775808:=by decide
        omega
      exact⟨acc,size,3,rfl,HAL,((H.out.eff HE.out).ext (zxd (zxr _))).trans (HE3.out.trans (HE3.out.1.setAt' (at_+size) (by omega))),by rw[HR2.out]⟩
theorem reading_68 (g at_:Nat) (s:Value) (q0:Value) (Φ:Value→Nat→Int→World→Prop) (w:World) (h:Rdr w g s at_ 0)
  (hC:Calls Tryz.prog 99 #[.func (.func 132) #[] #[.pointer (some ⟨w.heap.size,0,none⟩)],q0] (w.alloc (.cells #[.pointer (some ⟨g,0,none⟩)] 133)) (CP (w.alloc (.cells #[.pointer (some ⟨g,0,none⟩)] 133)) g s Φ)):
  Calls Tryz.prog 98 #[.pointer (some ⟨g,0,none⟩),.func (.func 99) #[] #[q0]] w (RP w g s (.int .i64 0) at_ Φ):=by
 have hne:w.heap.size≠g:=by have:=Blk.lt h;omega
 have hgl:g<w.heap.size:=Blk.lt h;have HE0:=zh (zxa (zxr w) (.cells #[.pointer (some ⟨g,0,none⟩)] 133));obtain⟨c0,c1,c2,f1,f2⟩:=h.cells;have H:=zh h;have HC:=zh hC;clear h hC;go_enter Tryz.func98,Tryz.ntmps98;go_wp2_with fail;refine(HC.out).mono ?_;rintro e w3 ⟨v,a',err,rfl,hE3,hm⟩;obtain⟨d0,d1,d2,g1,g2⟩:=hE3.1.cells;have p3:w3.cell? ⟨w.heap.size,0,none⟩=some (.pointer (some ⟨g,0,none⟩)):=hE3.2.cell (a:=⟨w.heap.size,0,none⟩) (by simp) (by simpa using hne);have HE3:=zh hE3;have HM:=zh hm;clear hE3 hm;have HEF:Hid (Eff w w3 g s a' err):=zh ((H.out.eff HE0.out).trans HE3.out);by_cases he:err=0
 ·subst he
  go_wp2_with fail;go_ret;exact .inl ⟨v,a',rfl,HEF.out,HM.out⟩
 ·have hb:(err==0)=false:=zw12.2 he
  have HNE:=zh he;clear he;go_wp2_with fail;go_ret;exact .inr ⟨err,HNE.out,rfl,HEF.out.trans (HEF.out.1.setAt' at_ rfl),_,_,_,HM.out⟩
theorem reading_err_68 (g at_:Nat) (s F:Value) (e0:Int) (w:World) (h:Rdr w g s at_ e0) (he:(e0==0)=false):
  Calls Tryz.prog 98 #[.pointer (some ⟨g,0,none⟩),F] w fun e w'=>e= .returned (.int .i64 0)∧Ext w w':=by
 have hne:w.heap.size≠g:=by have:=Blk.lt h;omega
 have hgl:g<w.heap.size:=Blk.lt h;obtain⟨c0,c1,c2,f1,f2⟩:=h.cells;clear h;go_enter Tryz.func98,Tryz.ntmps98;go_wp2_with fail;go_ret;exact⟨rfl,by repeat (first | exact zxr _ | refine zxd ?_ | refine zxa ?_ _)⟩
def lim:VR→VR
 | .ok v k=>if v≤2147483647 then .ok v k else .form
 | r=>r
def IPhi (at_:Nat) (R:VR) (v:Value) (a':Nat) (err:Int) (w':World):Prop:=
 ∃z:Int,v= .int .i64 z∧(match lim R with | .short=>err=3 | .form=>err=4 | .ok k l=>z=(k:Int)∧a'=at_+l∧err=0)
theorem int1 (pb rb g n c at_:Nat) (A:Option Addr) (xs:List Nat) (w:World) (hp:w.cell? ⟨pb,0,none⟩=some (.pointer (some ⟨g,0,none⟩))) (hr:w.cell? ⟨rb,0,none⟩=some (.pointer (some ⟨g,0,none⟩))) (hpg:pb≠g)
  (h:Rdr w g (.slice A n c) at_ 0) (hB:Bs w A n xs) (hat:at_≤n) (hn:n≤4000000000):
  Calls Tryz.prog 99 #[.func (.func 132) #[] #[.pointer (some ⟨pb,0,none⟩)],.pointer (some ⟨rb,0,none⟩)] w (CP w g (.slice A n c) (IPhi at_ (vr 0 0 (xs.drop at_)))):=by
 have HC:=zh (varint_68 pb g n c at_ A xs w hp h hB hat hn);have HP:=zh hp;have H:=zh h;clear hp h hB;generalize vr 0 0 (xs.drop at_)=R at*;go_enter Tryz.func99,Tryz.ntmps99;go_wp2_with fail;refine(HC.out).mono ?_;rintro e w3 ⟨z,j,err,rfl,hz,hE3,hm⟩;have p3:=hE3.2.cell HP.out (by simpa using hpg);have HE3:=zh hE3;clear hE3;clear hz
 cases R with
 | short=>
  obtain rfl:err=3:=hm;by_cases hbig:z≤2147483647
  ·have hbig2:¬(2147483647:Int)<(z:Int):=by omega
   go_wp2_with fail;go_ret;exact⟨_,at_+j,3,rfl,HE3.out,_,rfl,rfl⟩
  ·have hbig2:(2147483647:Int)<(z:Int):=by omega
   go_wp2_with fail;refine(fail1_68 _ pb g _ (at_+j) 4 3 p3 HE3.out.1 (by decide)).mono ?_;rintro e w4 ⟨rfl,hE4⟩;have HE4:=zh hE4;clear hE4;go_wp2_with fail;go_ret;exact⟨_,at_+j,3,rfl,HE3.out.trans HE4.out,_,rfl,rfl⟩
 | form=>
  obtain rfl:err=4:=hm;by_cases hbig:z≤2147483647
  ·have hbig2:¬(2147483647:Int)<(z:Int):=by omega
   go_wp2_with fail;go_ret;exact⟨_,at_+j,4,rfl,HE3.out,_,rfl,rfl⟩
  ·have hbig2:(2147483647:Int)<(z:Int):=by omega
   go_wp2_with fail;refine(fail1_68 _ pb g _ (at_+j) 4 4 p3 HE3.out.1 (by decide)).mono ?_;rintro e w4 ⟨rfl,hE4⟩;have HE4:=zh hE4;clear hE4;go_wp2_with fail;go_ret;exact⟨_,at_+j,4,rfl,HE3.out.trans HE4.out,_,rfl,rfl⟩
 | ok v k=>
  obtain⟨rfl,rfl,rfl⟩:=hm;by_cases hbig:z≤2147483647
  ·have hbig2:¬(2147483647:Int)<(z:Int):=by omega
   go_wp2_with fail;go_ret;exact⟨_,at_+j,0,rfl,HE3.out,(z:Int),rfl,by simp[lim,hbig]⟩
  ·have hbig2:(2147483647:Int)<(z:Int):=by omega
   go_wp2_with fail;refine(fail0_68 _ pb g _ (at_+j) 4 p3 HE3.out.1).mono ?_;rintro e w4 ⟨rfl,hE4⟩;have HE4:=zh hE4;clear hE4;go_wp2_with fail;go_ret;exact⟨_,at_+j,4,rfl,HE3.out.trans HE4.out,_,rfl,by simp only[lim,if_neg hbig]⟩
def IPost (w:World) (g:Nat) (s:Value) (at_:Nat) (R:VR) (e:Ending) (w':World):Prop:=
 ∃(z j:Nat) (err:Int),e= .returned (.int .i64 (z:Int))∧z≤2147483647∧Eff w w' g s (at_+j) err∧
  (match lim R with | .short=>z=0∧j=0∧err=3 | .form=>z=0∧j=0∧err=4 | .ok v k=>z=v∧j=k∧err=0)
theorem lim_le {R:VR} {v k:Nat} (h:lim R= .ok v k):v≤2147483647:=by
 cases R with
 | short=>cases h
 | form=>cases h
 | ok a b=>
  simp only[lim]at h;by_cases hb:a≤2147483647
  ·rw[if_pos hb]at h;cases h;exact hb
  ·rw[if_neg hb]at h;cases h
theorem ipost_of {w w':World} {g:Nat} {s:Value} {at_:Nat} {R:VR} {e:Ending} (h:RP w g s (.int .i64 0) at_ (IPhi at_ R) e w'):IPost w g s at_ R e w':=by
 rcases h with ⟨v,a',rfl,hE,z,rfl,hm⟩ | ⟨err,hne,rfl,hE,v0,a0,w0,z,rfl,hm⟩
 ·cases hR:lim R with
  | short=>rw[hR]at hm;exact absurd (show(0:Int)=3 from hm) (by decide)
  | form=>rw[hR]at hm;exact absurd (show(0:Int)=4 from hm) (by decide)
  | ok k l=>
   rw[hR]at hm;obtain⟨rfl,rfl,_⟩:=hm;exact⟨k,l,0,rfl,lim_le hR,hE,by rw[hR];exact⟨rfl,rfl,rfl⟩⟩
 ·cases hR:lim R with
  | short=>rw[hR]at hm;obtain rfl:err=3:=hm;exact⟨0,0,3,rfl,by omega,hE,by rw[hR];exact⟨rfl,rfl,rfl⟩⟩
  | form=>rw[hR]at hm;obtain rfl:err=4:=hm;exact⟨0,0,4,rfl,by omega,hE,by rw[hR];exact⟨rfl,rfl,rfl⟩⟩
  | ok k l=>rw[hR]at hm;exact absurd hm.2.2 hne
theorem eff_alloc {w w':World} {g:Nat} {s:Value} {i:Nat} {e:Int} (o:Obj) (h:Eff (w.alloc o) w' g s i e):Eff w w' g s i e:=
 ⟨h.1,gb_trans (gb_ext (zxa (zxr w) o) _) h.2⟩
theorem rp_alloc {w w':World} {g:Nat} {s zero:Value} {at_:Nat} {Φ:Value→Nat→Int→World→Prop} {e:Ending} (o:Obj) (h:RP (w.alloc o) g s zero at_ Φ e w'):RP w g s zero at_ Φ e w':=by
 rcases h with ⟨v,a',he,hE,hm⟩ | ⟨err,hne,he,hE,hm⟩
 ·exact .inl ⟨v,a',he,eff_alloc o hE,hm⟩
 ·exact .inr ⟨err,hne,he,eff_alloc o hE,hm⟩
theorem int (g n c at_:Nat) (A:Option Addr) (xs:List Nat) (w:World) (h:Rdr w g (.slice A n c) at_ 0) (hB:Bs w A n xs) (hat:at_≤n) (hn:n≤4000000000):
  Calls Tryz.prog 60 #[.pointer (some ⟨g,0,none⟩)] w (IPost w g (.slice A n c) at_ (vr 0 0 (xs.drop at_))):=by
 have hgl:g<w.heap.size:=Blk.lt h;have ha:=zxa (zxr w) (.cells #[.pointer (some ⟨g,0,none⟩)] 133);have hb:=zxa (zxr (w.alloc (.cells #[.pointer (some ⟨g,0,none⟩)] 133))) (.cells #[.pointer (some ⟨g,0,none⟩)] 133);have HC:=zh (reading_68 g at_ (.slice A n c) (.pointer (some ⟨w.heap.size,0,none⟩)) (IPhi at_ (vr 0 0 (xs.drop at_))) (w.alloc (.cells #[.pointer (some ⟨g,0,none⟩)] 133)) (h.ext ha)
  (int1 (w.alloc (.cells #[.pointer (some ⟨g,0,none⟩)] 133)).heap.size w.heap.size g n c at_ A xs _ (by simp) (kc hb (by simp)) (by simp;omega) ((h.ext ha).ext hb) ((hB.ext ha).ext hb) hat hn))
 clear h hB ha hb;generalize vr 0 0 (xs.drop at_)=R at*;go_enter Tryz.func60,Tryz.ntmps60;go_wp2_with fail;refine(HC.out).mono ?_;intro e w3 hq;have hp:=ipost_of (rp_alloc _ hq);clear hq;obtain⟨z,j,err,rfl,hz,hE3,hm⟩:=hp;have HP:Hid (IPost w g (.slice A n c) at_ R (.returned (.int .i64 (z:Int))) w3):=zh ⟨z,j,err,rfl,hz,hE3,hm⟩;clear hz hE3 hm;go_wp2_with fail;go_ret;exact HP.out
theorem int_err (g at_:Nat) (s:Value) (e0:Int) (w:World) (h:Rdr w g s at_ e0) (he:(e0==0)=false):
  Calls Tryz.prog 60 #[.pointer (some ⟨g,0,none⟩)] w fun e w'=>e= .returned (.int .i64 0)∧Ext w w':=by
 have ha:=zxa (zxr w) (.cells #[.pointer (some ⟨g,0,none⟩)] 133);have HC:=zh (fun F=>reading_err_68 g at_ s F e0 _ (h.ext ha) he);clear h he;have HA:=zh ha;clear ha;go_enter Tryz.func60,Tryz.ntmps60;go_wp2_with fail;refine(HC.out _).mono ?_;rintro e w3 ⟨rfl,hE3⟩;have HE3:=zh hE3;clear hE3;go_wp2_with fail;go_ret;exact⟨rfl,zxt HA.out HE3.out⟩
def be (ys:List Nat):Nat:=ys.foldl (fun a c=>a*256+c) 0
theorem be_snoc (ys:List Nat) (k:Nat) (h:k<ys.length):be (ys.take (k+1))=be (ys.take k)*256+ys.getD k 0:=by
 unfold be;rw[List.take_succ_eq_append_getElem h,List.foldl_append];simp[zw5,zw6 h]
theorem be_fx {m:Nat} (h:m<4294967296):be (fx m)=m:=by
 simp only[be,fx,List.foldl_cons,List.foldl_nil];omega
theorem or32 (a b:Nat):bits .or .u32 (a:Int) (b:Int)=((BitVec.ofNat 32 a ||| BitVec.ofNat 32 b).toNat:Int):=by
 show IntKind.u32.wrap ((BitVec.ofInt 32 (a:Int) ||| BitVec.ofInt 32 (b:Int)).toNat:Int)=_;rw[BitVec.ofInt_natCast,BitVec.ofInt_natCast];have:=(BitVec.ofNat 32 a ||| BitVec.ofNat 32 b).isLt;rw[IntKind.wrap_u32];omega
theorem be_val (acc cb:Nat) (ha:acc<16777216) (hc:cb<256):bits BinOp.or IntKind.u32 ((acc:Int)*256) (cb:Int)=((acc*256+cb:Nat):Int):=by
 rw[show((acc:Int)*256)=((acc*256:Nat):Int)from by omega,or32,BitVec.toNat_or,BitVec.toNat_ofNat,BitVec.toNat_ofNat,Nat.mod_eq_of_lt (show acc*256<2 ^32 by omega),Nat.mod_eq_of_lt (show cb<2 ^32 by omega)];have:=Nat.shiftLeft_add_eq_or_of_lt (i:=8) (b:=cb) (by omega) acc;rw[Nat.shiftLeft_eq]at this;rw[show acc*256=acc*2 ^8 from rfl,←this]
def FPhi (at_:Nat) (rest:List Nat) (v:Value) (a':Nat) (err:Int) (w':World):Prop:=
 (4≤rest.length∧v= .int .u32 (be (rest.take 4):Nat)∧a'=at_+4∧err=0)∨(rest.length<4∧err=3)
def FRel (ys:List Nat) (nv iv:Value):Prop:=∃k:Nat,k≤4∧nv= .int .u32 (be (ys.take k):Nat)∧iv= .int .i64 (k:Int)∧be (ys.take k)<256 ^k
theorem fixed1 (pb rb g n c at_:Nat) (A:Option Addr) (xs:List Nat) (w:World) (hp:w.cell? ⟨pb,0,none⟩=some (.pointer (some ⟨g,0,none⟩))) (hr:w.cell? ⟨rb,0,none⟩=some (.pointer (some ⟨g,0,none⟩)))
  (h:Rdr w g (.slice A n c) at_ 0) (hB:RB w g A n c xs) (hat:at_≤n) (hn:n≤4000000000):
  Calls Tryz.prog 123 #[.func (.func 139) #[] #[.pointer (some ⟨pb,0,none⟩)],.pointer (some ⟨rb,0,none⟩)] w (CP w g (.slice A n c) (FPhi at_ (xs.drop at_))):=by
 have hxl:(xs.drop at_).length=n-at_:=by rw[zw1,hB.1.1]
 by_cases h4:at_+4≤n
 ·have HC:=zh (show Calls Tryz.prog 124 #[.pointer (some ⟨g,0,none⟩),.int .u64 4,.func (.func 139) #[] #[.pointer (some ⟨pb,0,none⟩)]] w (PPost w g (.slice A n c) at_ 4 ((xs.drop at_).take 4))from piece_ok g n c at_ 4 A _ xs w h hB h4 hn)
  have HF:Hid (∀w',FPhi at_ (xs.drop at_) (.int .u32 (be ((xs.drop at_).take 4):Nat)) (at_+4) 0 w'):=zh (fun w'=> .inl ⟨by omega,rfl,rfl,rfl⟩);have HYL:Hid (((xs.drop at_).take 4).length=4):=zh (by rw[zw2];omega);clear hp h hB hxl;generalize FPhi at_ (xs.drop at_)=Φ at*;generalize (xs.drop at_).take 4=ys at*;go_enter Tryz.func123,Tryz.ntmps123;go_wp2_with fail;refine(HC.out).mono ?_;rintro e w3 ⟨A',c',rfl,hc1,hc2,hc3,hB3,hE3⟩;obtain⟨b,o,rfl,_,hcell⟩:=hB3.2.2 (by omega);have HBY:=zh hB3.2.1;have HE3:=zh hE3;have HCE:=zh hcell;clear hE3 hB3 hcell hc3;go_wp2_with fail
  go_loop [4,6,11] (fun nv _ iv=>FRel ys nv iv) (fun _ _ iv=>4-(intOf iv).toNat)
  case atStart=>exact⟨0,by omega,rfl,rfl,Nat.zero_lt_one⟩
  case round=>
   obtain⟨k,hk,rfl,rfl,hbe⟩:=hrel;by_cases hlt:k<4
   ·have q0:=HCE.out k hlt
    have q1:=HBY.out k;have HSN:=zh (be_snoc ys k (by rw[HYL.out];exact hlt));have hpow:256 ^k≤256 ^3:=Nat.pow_le_pow_right (by omega) (by omega);have hs:be (ys.take k)<16777216:=by
     have:(256:Nat) ^3=16777216:=by decide
     omega
    have HBE:Hid (be (ys.take (k+1))<256 ^(k+1)):=zh (by rw[HSN.out,Nat.pow_succ];omega);clear hpow hbe;generalize be (ys.take k)=acc at*;generalize ys.getD k 0=cb at*;have HV:=zh (be_val acc cb hs q1);have k0:(0:Int)≤(k:Int):=by omega
    have k1:(k:Int)<4:=by omega
    have s0:(acc:Int)<16777216:=by omega
    have q2:(cb:Int)<256:=by omega
    go_wp2_with fail
    go_round
    case rel=>exact⟨k+1,by omega,by rw[HSN.out,HV.out],by go_num,HBE.out⟩
    case measure=>simp[intOf];omega
   ·obtain rfl:k=4:=by omega
    have HTK:Hid (ys.take 4=ys):=zh (List.take_of_length_le (by rw[HYL.out];exact zw8 _));rw[HTK.out];clear hbe;generalize be ys=y at*;go_wp2_with fail;go_ret;exact⟨_,at_+4,0,rfl,HE3.out,HF.out _⟩
 ·have HC:=zh (show Calls Tryz.prog 124 #[.pointer (some ⟨g,0,none⟩),.int .u64 4,.func (.func 139) #[] #[.pointer (some ⟨pb,0,none⟩)]] w (fun e w'=>e= .returned (.slice none 0 0)∧Eff w w' g (.slice A n c) at_ 3)from piece_short_69 pb g n c at_ 4 A xs w hp h hat hn (by omega))
  have HF:Hid (∀v w',FPhi at_ (xs.drop at_) v at_ 3 w'):=zh (fun v w'=> .inr ⟨by omega,rfl⟩);clear hp h hB hxl;generalize FPhi at_ (xs.drop at_)=Φ at*;go_enter Tryz.func123,Tryz.ntmps123;go_wp2_with fail;refine(HC.out).mono ?_;rintro e w3 ⟨rfl,hE3⟩;have HE3:=zh hE3;clear hE3;go_wp2_with fail
  go_loop [4,6,11] (fun nv _ iv=>nv= .int .u32 0∧iv= .int .i64 0) (fun _ _ _=>0)
  case atStart=>exact⟨rfl,rfl⟩
  case round=>
   obtain⟨rfl,rfl⟩:=hrel;go_wp2_with fail;go_ret;exact⟨_,at_,3,rfl,HE3.out,HF.out _ _⟩
def FPost (w:World) (g:Nat) (s:Value) (at_:Nat) (rest:List Nat) (e:Ending) (w':World):Prop:=
 (4≤rest.length∧e= .returned (.int .u32 (be (rest.take 4):Nat))∧Eff w w' g s (at_+4) 0)∨(rest.length<4∧e= .returned (.int .u32 0)∧Eff w w' g s at_ 3)
theorem fpost_of {w w':World} {g:Nat} {s:Value} {at_:Nat} {rest:List Nat} {e:Ending} (h:RP w g s (.int .u32 0) at_ (FPhi at_ rest) e w'):FPost w g s at_ rest e w':=by
 rcases h with ⟨v,a',rfl,hE,⟨h1,rfl,rfl,_⟩ | ⟨_,h2⟩⟩ | ⟨err,hne,rfl,hE,v0,a0,w0,⟨_,_,_,h2⟩ | ⟨h1,h2⟩⟩
 ·exact .inl ⟨h1,rfl,hE⟩
 ·exact absurd h2 (by decide)
 ·exact absurd h2 hne
 ·subst h2;exact .inr ⟨h1,rfl,hE⟩
theorem fixed (g n c at_:Nat) (A:Option Addr) (xs:List Nat) (w:World) (h:Rdr w g (.slice A n c) at_ 0) (hB:RB w g A n c xs) (hat:at_≤n) (hn:n≤4000000000):
  Calls Tryz.prog 92 #[.pointer (some ⟨g,0,none⟩)] w (FPost w g (.slice A n c) at_ (xs.drop at_)):=by
 have ha:=zxa (zxr w) (.cells #[.pointer (some ⟨g,0,none⟩)] 133);have hb:=zxa (zxr (w.alloc (.cells #[.pointer (some ⟨g,0,none⟩)] 133))) (.cells #[.pointer (some ⟨g,0,none⟩)] 133);have HC:=zh (reading_69 g at_ (.slice A n c) (.pointer (some ⟨w.heap.size,0,none⟩)) (FPhi at_ (xs.drop at_)) (w.alloc (.cells #[.pointer (some ⟨g,0,none⟩)] 133)) (h.ext ha)
  (fixed1 (w.alloc (.cells #[.pointer (some ⟨g,0,none⟩)] 133)).heap.size w.heap.size g n c at_ A xs _ (by simp) (kc hb (by simp)) ((h.ext ha).ext hb) ((hB.eff (gb_ext ha _)).eff (gb_ext hb _)) hat hn))
 clear h hB ha hb;generalize xs.drop at_=rest at*;go_enter Tryz.func92,Tryz.ntmps92;go_wp2_with fail;refine(HC.out).mono ?_;intro e w3 hq;have hp:=fpost_of (rp_alloc _ hq);clear hq;have HP:=zh hp;rcases hp with ⟨h1,rfl,hE⟩ | ⟨h1,rfl,hE⟩
 all_goals
  clear h1 hE;go_wp2_with fail;go_ret;exact HP.out
theorem fail0_71 (w:World) (pb g:Nat) (s:Value) (i:Nat) (f:Int) (hp:w.cell? ⟨pb,0,none⟩=some (.pointer (some ⟨g,0,none⟩))) (h:Rdr w g s i 0):
  Calls Tryz.prog 154 #[.int .i64 f,.pointer (some ⟨pb,0,none⟩)] w fun e w'=>e= .returned (.tuple #[])∧Eff w w' g s i f:=by
 obtain⟨c0,c1,c2,f1,f2⟩:=h.cells;have H:=zh h;clear h;go_enter Tryz.func154,Tryz.ntmps154
 go_wp2
 go_end0
 exact⟨rfl,H.out.setErr f⟩
theorem piece_short_71 (pb g n c at_ m:Nat) (A:Option Addr) (xs:List Nat) (w:World) (hp:w.cell? ⟨pb,0,none⟩=some (.pointer (some ⟨g,0,none⟩))) (h:Rdr w g (.slice A n c) at_ 0) (hat:at_≤n) (hn:n≤4000000000) (hm:n-at_<m):
  Calls Tryz.prog 124 #[.pointer (some ⟨g,0,none⟩),.int .u64 (m:Int),.func (.func 154) #[] #[.pointer (some ⟨pb,0,none⟩)]] w fun e w'=>e= .returned (.slice none 0 0)∧Eff w w' g (.slice A n c) at_ 3:=by
 obtain⟨c0,c1,c2,f1,f2⟩:=h.cells;have HP:=zh (kc (zxd (zxr w)) hp);have H:=zh h;clear hp h;have HRD:=zh (H.out.ext (zxd (zxr _)));obtain⟨L,hL⟩:∃L:Nat,L=n-at_:=⟨_,rfl⟩;have hLm:(L:Int)<(m:Int):=by omega
 have HW1:Hid (IntKind.i64.wrap ((n:Int)-(at_:Int))=(L:Int)):=zh (by rw[IntWalk.i64_in _ (by omega)];omega);have HW2:Hid (IntKind.u64.wrap (L:Int)=(L:Int)):=zh (by rw[IntKind.wrap_u64];omega);clear hL;go_enter Tryz.func124,Tryz.ntmps124;go_wp2_with fail;have hw1:=HW1.out;have hw2:=HW2.out;refine wp_still (by kernel_rfl) (by kernel_rfl) ?_
 repeat still_step
 refine wpStill_nil ?_;clear hw1 hw2;go_wp2_with fail;refine(fail0_71 _ pb g _ at_ 3 HP.out HRD.out).mono ?_;rintro e w3 ⟨rfl,hE3⟩;have HE3:=zh hE3;clear hE3;go_wp2_with fail;go_ret;exact⟨rfl,(H.out.eff (zxd (zxr _))).trans HE3.out⟩
theorem reading_71 (g at_:Nat) (s:Value) (q0:Value) (q1:Value) (Φ:Value→Nat→Int→World→Prop) (w:World) (h:Rdr w g s at_ 0)
  (hC:Calls Tryz.prog 150 #[.func (.func 154) #[] #[.pointer (some ⟨w.heap.size,0,none⟩)],q0,q1] (w.alloc (.cells #[.pointer (some ⟨g,0,none⟩)] 133)) (CP (w.alloc (.cells #[.pointer (some ⟨g,0,none⟩)] 133)) g s Φ)):
  Calls Tryz.prog 149 #[.pointer (some ⟨g,0,none⟩),.func (.func 150) #[] #[q0,q1]] w (RP w g s (.slice none 0 0) at_ Φ):=by
 have hne:w.heap.size≠g:=by have:=Blk.lt h;omega
 have hgl:g<w.heap.size:=Blk.lt h;have HE0:=zh (zxa (zxr w) (.cells #[.pointer (some ⟨g,0,none⟩)] 133));obtain⟨c0,c1,c2,f1,f2⟩:=h.cells;have H:=zh h;have HC:=zh hC;clear h hC;go_enter Tryz.func149,Tryz.ntmps149;go_wp2_with fail;refine(HC.out).mono ?_;rintro e w3 ⟨v,a',err,rfl,hE3,hm⟩;obtain⟨d0,d1,d2,g1,g2⟩:=hE3.1.cells;have p3:w3.cell? ⟨w.heap.size,0,none⟩=some (.pointer (some ⟨g,0,none⟩)):=hE3.2.cell (a:=⟨w.heap.size,0,none⟩) (by simp) (by simpa using hne);have HE3:=zh hE3;have HM:=zh hm;clear hE3 hm;have HEF:Hid (Eff w w3 g s a' err):=zh ((H.out.eff HE0.out).trans HE3.out);by_cases he:err=0
 ·subst he
  go_wp2_with fail;go_ret;exact .inl ⟨v,a',rfl,HEF.out,HM.out⟩
 ·have hb:(err==0)=false:=zw12.2 he
  have HNE:=zh he;clear he;go_wp2_with fail;go_ret;exact .inr ⟨err,HNE.out,rfl,HEF.out.trans (HEF.out.1.setAt' at_ rfl),_,_,_,HM.out⟩
theorem reading_err_71 (g at_:Nat) (s F:Value) (e0:Int) (w:World) (h:Rdr w g s at_ e0) (he:(e0==0)=false):
  Calls Tryz.prog 149 #[.pointer (some ⟨g,0,none⟩),F] w fun e w'=>e= .returned (.slice none 0 0)∧Ext w w':=by
 have hne:w.heap.size≠g:=by have:=Blk.lt h;omega
 have hgl:g<w.heap.size:=Blk.lt h;obtain⟨c0,c1,c2,f1,f2⟩:=h.cells;clear h;go_enter Tryz.func149,Tryz.ntmps149;go_wp2_with fail;go_ret;exact⟨rfl,by repeat (first | exact zxr _ | refine zxd ?_ | refine zxa ?_ _)⟩
theorem fail0_67 (w : World) (pb g : Nat) (s : Value) (i : Nat) (f : Int) (hp : w.cell? ⟨pb, 0, none⟩ = some (.pointer (some ⟨g, 0, none⟩))) (h : Rdr w g s i 0) :
    Calls Tryz.prog 141 #[.int .i64 f,.pointer (some ⟨pb,0,none⟩)] w fun e w'=>e= .returned (.tuple #[])∧Eff w w' g s i f:=by
  obtain⟨c0,c1,c2,f1,f2⟩:=h.cells;have H:=zh h;clear h;go_enter Tryz.func141,Tryz.ntmps141
  go_wp2
  go_end0
  exact⟨rfl,H.out.setErr f⟩
theorem varint_67 (pb g n c at_ : Nat) (A : Option Addr) (xs : List Nat) (w : World) (hp : w.cell? ⟨pb, 0, none⟩ = some (.pointer (some ⟨g, 0, none⟩))) (h : Rdr w g (.slice A n c) at_ 0) (hB : Bs w A n xs) (hat : at_ ≤ n) (hn : n ≤ 4000000000) :
    Calls Tryz.prog 100 #[.pointer (some ⟨g,0,none⟩),.func (.func 141) #[] #[.pointer (some ⟨pb,0,none⟩)]] w (VPost w g (.slice A n c) at_ (vr 0 0 (xs.drop at_))):=by
  have hxl:xs.length=n:=hB.1;subst hxl;have HP:=zh hp;have H:=zh h;have HB:=zh hB;clear hp h hB;generalize hR:vr 0 0 (xs.drop at_)=R at*;have HR:=zh hR;clear hR;go_enter Tryz.func100,Tryz.ntmps100
  go_wp2
  go_step3
  go_wp2
  go_step3
  go_wp2
  go_loopw [5,6] (fun nv sv wr=>VRel w xs at_ R nv sv wr) (fun _ sv _=>10-(intOf sv).toNat)
  case atStart=>exact⟨0,0,by omega,by omega,rfl,rfl,by decide,HR.out,zxr _⟩
  case round=>
    obtain⟨size,acc,hs,hat2,rfl,rfl,hacc,hvr,hE⟩:=hrel;have HVR:=zh hvr;have HE:=zh hE;have HAC:=zh hacc;clear hvr hE hacc;have HRW:=zh (H.out.ext HE.out);have HRD:=zh (HRW.out.ext (zxd (zxr _)));obtain⟨c0,c1,c2,f1,f2⟩:=HRW.out.cells;have p0:=kc HE.out HP.out;have i1:(0:Int)≤(size:Int):=by omega
    have i2:(size:Int)≤9:=by omega
    have i3:(at_:Int)+(size:Int)≤(xs.length:Int):=by omega
    have HWR:Hid (IntKind.i64.wrap ((at_:Int)+(size:Int))=(at_:Int)+(size:Int)):=zh (IntWalk.i64_in _ (by omega));by_cases hge:at_+size<xs.length
    · have hge2:(at_:Int)+(size:Int)<(xs.length:Int):=by omega
      have hi0:(0:Int)≤(at_:Int)+(size:Int):=by omega
      have hidx:((at_:Int)+(size:Int)).toNat=at_+size:=by omega
      obtain⟨b,o,rfl,_,hc⟩:=(HB.out.ext HE.out).2.2 (by omega);have cb0:wr.cell? ⟨b,o+(at_+size),none⟩=some (.int .u8 (xs.getD (at_+size) 0:Nat)):=hc _ hge;clear hc;have hcb:=HB.out.2.1 (at_+size);have hd:xs.drop (at_+size)=xs.getD (at_+size) 0::xs.drop (at_+size+1):=by
        rw[zw20 hge,zw5,zw6 hge];rfl
      have HV2:Hid _:=zh (hd▸HVR.out);generalize xs.getD (at_+size) 0=cb at*;have hcb2:(cb:Int)<256:=by omega
      clear hd;obtain⟨z,hz1,hz2,hz3⟩:=or_val acc size cb hs HAC.out hcb;have HZ1:=zh hz1;have HZ3:=zh hz3;clear hz1 hz3;go_wp2_with fail;have hw:=HWR.out
      (refine wp_still (by kernel_rfl) (by kernel_rfl) ?_;repeat still_step);refine wpStill_nil ?_;clear hw;go_wp2_with fail;have hw:=HWR.out
      (refine wp_still (by kernel_rfl) (by kernel_rfl) ?_;repeat still_step);refine wpStill_nil ?_;clear hw;go_wp2_with fail
      all_goals clear hz2
      all_goals first
        | (((with_reducible refine(fail0_67 _ pb g _ at_ 4 (kc (zxd (zxd (zxr wr))) p0) (HRD.out.ext (zxd (zxr _)))).mono ?_));(rintro e w3 ⟨rfl,hE3⟩);
           (have hR2:R= .form:=by
              have hf:(size=9∧1<cb)∨(0<size∧cb=0):=by
                first
                | (left;omega)
                | (right;have h0:((cb:Int)==0)=true:=by assumption
                   have:=eq_of_beq h0;omega)
              have:=HV2.out;rw[vr,if_pos hf]at this;exact this.symm);
           (have HR2:=zh hR2;clear hR2);
           (obtain⟨d0,d1,d2,g1,g2⟩:=hE3.1.cells);
           (have HE3:=zh hE3;clear hE3);
           go_wp2_with fail;
           (try rw[Exit.noGoto_ret]);
           go_ret;
           exact⟨z,size+1,4,rfl,HZ1.out,(((H.out.eff HE.out).ext (zxd (zxd (zxr _)))).trans HE3.out).trans (HE3.out.1.setAt' (at_+(size+1)) (by omega)),by rw[HR2.out]⟩)
        | (go_roundw
           case rel=>
             have hnf:¬((size=9∧1<cb)∨(0<size∧cb=0)):=by
               first
               | omega
               | (have h0:((cb:Int)==0)=false:=by assumption
                  have:=ne_of_beq_false h0;omega)
             have h128:¬cb<128:=by omega
             have h8:size≤8:=by omega
             have hz:=HZ3.out (.inl h8);rw[show cb%128=cb-128 from by omega]at hz;have hv:=HV2.out;rw[vr,if_neg hnf,if_neg h128,←hz]at hv;have hlt:z<128 ^(size+1):=by
               have ha:=HAC.out;rw[Nat.pow_succ,hz];have:(cb-128)*128 ^size≤127*128 ^size:=Nat.mul_le_mul (by omega) (zw8 _);omega
             exact⟨size+1,z,by omega,by omega,rfl,by go_num,hlt,by rw[←Nat.add_assoc];exact hv,zxd (zxd HE.out)⟩
           case measure=>simp[intOf];omega)
        | ((have hR2 : R = .ok z (size + 1) := by
              have hnf:¬((size=9∧1<cb)∨(0<size∧cb=0)):=by
                first
                | omega
                | (have h0:((cb:Int)==0)=false:=by assumption
                   have:=ne_of_beq_false h0;omega)
              have h128:cb<128:=by omega
              have hz:=HZ3.out (by omega);rw[Nat.mod_eq_of_lt h128]at hz;have hv:=HV2.out;rw[vr,if_neg hnf,if_pos h128,←hz]at hv;exact hv.symm);
           (have HR2:=zh hR2;clear hR2);
           (try rw[Exit.noGoto_ret]);
           go_ret;
           exact⟨z,size+1,0,rfl,HZ1.out,((H.out.eff HE.out).ext (zxd (zxd (zxr _)))).trans ((HRD.out.ext (zxd (zxr _))).setAt' (at_+(size+1)) (by omega)),by rw[HR2.out];exact⟨rfl,rfl,rfl⟩⟩)
    · have hge2:¬(at_:Int)+(size:Int)<(xs.length:Int):=by omega
      have hR2:R= .short:=by
        have:=HVR.out;rw[zw21 (by omega)]at this;exact this.symm
      have HR2:=zh hR2;clear hR2;go_wp2_with fail;have hw:=HWR.out
      (refine wp_still (by kernel_rfl) (by kernel_rfl) ?_;repeat still_step);refine wpStill_nil ?_;clear hw;go_wp2_with fail;refine(fail0_67 _ pb g _ at_ 3 (kc (zxd (zxr wr)) p0) HRD.out).mono ?_;rintro e w3 ⟨rfl,hE3⟩;obtain⟨d0,d1,d2,g1,g2⟩:=hE3.1.cells;have HE3:=zh hE3;clear hE3;go_wp2_with fail
      try rw[Exit.noGoto_ret]
      go_ret;have HAL:acc<18446744073709551616:=by
        have h1:=HAC.out;have h2:128 ^size≤128 ^9:=Nat.pow_le_pow_right (by omega) hs;have h3:(128:Nat) ^9=9223372036854775808:=by decide
        omega
      exact⟨acc,size,3,rfl,HAL,((H.out.eff HE.out).ext (zxd (zxr _))).trans (HE3.out.trans (HE3.out.1.setAt' (at_+size) (by omega))),by rw[HR2.out]⟩
def NPost (w:World) (g:Nat) (s:Value) (at_:Nat) (R:VR) (e:Ending) (w':World):Prop:=
 ∃(z j:Nat) (err:Int),e= .returned (.int .u64 (z:Int))∧z<18446744073709551616∧Eff w w' g s (at_+j) err∧
  (match R with | .short=>z=0∧j=0∧err=3 | .form=>z=0∧j=0∧err=4 | .ok v k=>z=v∧j=k∧err=0)
theorem reading_67 (g n c at_:Nat) (A:Option Addr) (xs:List Nat) (w:World) (h:Rdr w g (.slice A n c) at_ 0) (hB:Bs w A n xs) (hat:at_≤n) (hn:n≤4000000000):
  Calls Tryz.prog 127 #[.pointer (some ⟨g,0,none⟩),.func (.func 100) #[.pointer (some ⟨g,0,none⟩)] #[]] w (NPost w g (.slice A n c) at_ (vr 0 0 (xs.drop at_))):=by
 have hne:w.heap.size≠g:=by have:=Blk.lt h;omega
 have hgl:g<w.heap.size:=Blk.lt h;have ha:=zxa (zxr w) (.cells #[.pointer (some ⟨g,0,none⟩)] 133);have HE0:=zh ha;have HRA:=zh (h.ext ha);have HBA:=zh (hB.ext ha);obtain⟨c0,c1,c2,f1,f2⟩:=h.cells;have H:=zh h;clear h hB ha;generalize hR:vr 0 0 (xs.drop at_)=R at*;have HR:=zh hR;clear hR;go_enter Tryz.func127,Tryz.ntmps127;go_wp2_with fail;refine(varint_67 w.heap.size g n c at_ A xs _ (by simp) HRA.out HBA.out hat hn).mono ?_;rw[HR.out];rintro e w3 ⟨z,j,err,rfl,hz,hE3,hm⟩;obtain⟨d0,d1,d2,g1,g2⟩:=hE3.1.cells;have p3:w3.cell? ⟨w.heap.size,0,none⟩=some (.pointer (some ⟨g,0,none⟩)):=hE3.2.cell (a:=⟨w.heap.size,0,none⟩) (by simp) (by simpa using hne);have HE3:=zh hE3;clear hE3;have HEF:Hid (Eff w w3 g (.slice A n c) (at_+j) err):=zh ((H.out.eff HE0.out).trans HE3.out)
 cases R with
 | short=>
  obtain rfl:err=3:=hm;go_wp2_with fail;go_ret;exact⟨0,0,3,rfl,by omega,HEF.out.trans (HEF.out.1.setAt' at_ rfl),rfl,rfl,rfl⟩
 | form=>
  obtain rfl:err=4:=hm;go_wp2_with fail;go_ret;exact⟨0,0,4,rfl,by omega,HEF.out.trans (HEF.out.1.setAt' at_ rfl),rfl,rfl,rfl⟩
 | ok v k=>
  obtain⟨rfl,rfl,rfl⟩:=hm;go_wp2_with fail;go_ret;exact⟨z,j,0,rfl,hz,HEF.out,rfl,rfl,rfl⟩
theorem reading_err_67 (g at_:Nat) (s F:Value) (e0:Int) (w:World) (h:Rdr w g s at_ e0) (he:(e0==0)=false):
  Calls Tryz.prog 127 #[.pointer (some ⟨g,0,none⟩),F] w fun e w'=>e= .returned (.int .u64 0)∧Ext w w':=by
 have hne:w.heap.size≠g:=by have:=Blk.lt h;omega
 have hgl:g<w.heap.size:=Blk.lt h;obtain⟨c0,c1,c2,f1,f2⟩:=h.cells;clear h;go_enter Tryz.func127,Tryz.ntmps127;go_wp2_with fail;go_ret;exact⟨rfl,by repeat (first | exact zxr _ | refine zxd ?_ | refine zxa ?_ _)⟩
theorem num (g n c at_:Nat) (A:Option Addr) (xs:List Nat) (w:World) (h:Rdr w g (.slice A n c) at_ 0) (hB:Bs w A n xs) (hat:at_≤n) (hn:n≤4000000000):
  Calls Tryz.prog 94 #[.pointer (some ⟨g,0,none⟩)] w (NPost w g (.slice A n c) at_ (vr 0 0 (xs.drop at_))):=by
 have HC:=zh (reading_67 g n c at_ A xs w h hB hat hn);clear h hB;generalize vr 0 0 (xs.drop at_)=R at*;go_enter Tryz.func94,Tryz.ntmps94;go_wp2_with fail;refine(HC.out).mono ?_;rintro e w3 ⟨z,j,err,rfl,hz,hE3,hm⟩;have HP:Hid (NPost w g (.slice A n c) at_ R (.returned (.int .u64 (z:Int))) w3):=zh ⟨z,j,err,rfl,hz,hE3,hm⟩;clear hz hE3 hm;go_wp2_with fail;go_ret;exact HP.out
theorem num_err (g at_:Nat) (s:Value) (e0:Int) (w:World) (h:Rdr w g s at_ e0) (he:(e0==0)=false):
  Calls Tryz.prog 94 #[.pointer (some ⟨g,0,none⟩)] w fun e w'=>e= .returned (.int .u64 0)∧Ext w w':=by
 have HC:=zh (fun F=>reading_err_67 g at_ s F e0 w h he);clear h he;go_enter Tryz.func94,Tryz.ntmps94;go_wp2_with fail;refine(HC.out _).mono ?_;rintro e w3 ⟨rfl,hE3⟩;go_wp2_with fail;go_ret;exact⟨rfl,hE3⟩
theorem at_any (g:Nat) (s:Value) (i:Nat) (e0:Int) (w:World) (h:Rdr w g s i e0):Calls Tryz.prog 146 #[.pointer (some ⟨g,0,none⟩)] w fun e w'=>e= .returned (.int .i64 (i:Int))∧w=w':=by
 obtain⟨c0,c1,c2,f1,f2⟩:=h.cells;clear h;go_enter Tryz.func146,Tryz.ntmps146;go_wp2_with fail;go_ret;exact⟨rfl,rfl⟩
theorem err_any (g:Nat) (s:Value) (i:Nat) (e0:Int) (w:World) (h:Rdr w g s i e0):Calls Tryz.prog 95 #[.pointer (some ⟨g,0,none⟩)] w fun e w'=>e= .returned (.int .i64 e0)∧w=w':=by
 obtain⟨c0,c1,c2,f1,f2⟩:=h.cells;clear h;go_enter Tryz.func95,Tryz.ntmps95;go_wp2_with fail;go_ret;exact⟨rfl,rfl⟩
theorem left_any (g n c:Nat) (A:Option Addr) (i:Nat) (e0:Int) (w:World) (h:Rdr w g (.slice A n c) i e0) (hi:i≤n) (hn:n≤4000000000):Calls Tryz.prog 101 #[.pointer (some ⟨g,0,none⟩)] w fun e w'=>e= .returned (.int .i64 ((n-i:Nat):Int))∧Ext w w':=by
 obtain⟨c0,c1,c2,f1,f2⟩:=h.cells;clear h;have HW1:Hid (IntKind.i64.wrap ((n:Int)-(i:Int))=((n-i:Nat):Int)):=zh (by rw[IntWalk.i64_in _ (by omega)];omega);generalize n-i=L at*;go_enter Tryz.func101,Tryz.ntmps101;go_wp2_with fail;have hw1:=HW1.out;refine wp_still (by kernel_rfl) (by kernel_rfl) ?_
 repeat still_step
 refine wpStill_nil ?_;clear hw1;go_wp2_with fail;go_ret;exact⟨rfl,zxd (zxr _)⟩
theorem end_bad (g:Nat) (s:Value) (i:Nat) (e0:Int) (w:World) (h:Rdr w g s i e0) (he:(e0==0)=false):Calls Tryz.prog 61 #[.pointer (some ⟨g,0,none⟩)] w fun e w'=>e= .returned (.int .i64 e0)∧Ext w w':=by
 have HC:=zh (err_any g s i e0 w h);clear h;go_enter Tryz.func61,Tryz.ntmps61;go_wp2_with fail;refine(HC.out).mono ?_;rintro e w1 ⟨rfl,rfl⟩;go_wp2_with fail;go_ret;exact⟨rfl,zxr _⟩
theorem end_ok (g n c:Nat) (A:Option Addr) (i:Nat) (w:World) (h:Rdr w g (.slice A n c) i 0) (hi:i≤n) (hn:n≤4000000000):Calls Tryz.prog 61 #[.pointer (some ⟨g,0,none⟩)] w fun e w'=>e= .returned (.int .i64 (if i=n then 0 else 4))∧Ext w w':=by
 have HC:=zh (err_any g _ i 0 w h);have HL:=zh (left_any g n c A i 0 w h hi hn);clear h;by_cases hin:i=n
 ·subst hin
  rw[if_pos rfl];have e0:i-i=0:=by omega
  rw[e0]at HL;clear e0;go_enter Tryz.func61,Tryz.ntmps61;go_wp2_with fail;refine(HC.out).mono ?_;rintro e w1 ⟨rfl,rfl⟩;go_wp2_with fail;refine(HL.out).mono ?_;rintro e w1 ⟨rfl,b1⟩;go_wp2_with fail;go_ret;exact⟨rfl,b1⟩
 ·rw[if_neg hin]
  have hL:0<n-i:=by omega
  generalize n-i=L at*;go_enter Tryz.func61,Tryz.ntmps61;go_wp2_with fail;refine(HC.out).mono ?_;rintro e w1 ⟨rfl,rfl⟩;go_wp2_with fail;refine(HL.out).mono ?_;rintro e w1 ⟨rfl,b1⟩;go_wp2_with fail;go_ret;exact⟨rfl,b1⟩
def KPost (w:World) (n:Nat) (xs:List Nat) (e:Ending) (w':World):Prop:=
 ∃(A':Option Addr) (c':Nat),e= .returned (.slice A' n c')∧n≤c'∧c'≤9223372036854775807∧(A'=none→n=0∧c'=0)∧(0<n→∀a,A'=some a→w.heap.size≤a.block)∧Bs w' A' n xs∧Ext w w'
theorem clone (A:Option Addr) (n c:Nat) (xs:List Nat) (w:World) (hB:Bs w A n xs) (hnil:A=none→n=0∧c=0) (hn:n≤4000000000):
  Calls Tryz.prog 28 #[.slice A n c] w (KPost w n xs):=by
 have hnl:=@Lib.run_eql_slice_nil Tryz.prog;rcases A with _ | a
 ·obtain⟨rfl,rfl⟩:=hnil rfl
  have hx:xs=[]:=zw19 hB.1;subst hx;clear hnil hB;go_enter Tryz.func28,Tryz.ntmps28;go_wp2_with fail;go_ret;exact⟨none,0,rfl,zw8 _,by omega,fun _=>⟨rfl,rfl⟩,fun h=>absurd h (by omega),Bs.none _ _,zxr _⟩
 ·clear hnil
  have hxl:=hB.1;subst hxl;have HE:=zh (zxa (zxr w) (.cells #[] 5));have HSM:=zh hB.2.1;have HSR:Hid (Src Tryz.prog 1 22 (.slice (some a) xs.length c) xs.length (c8 xs) (w.alloc (.cells #[] 5))):=zh (Bs.src (hB.ext HE.out) Tryz.underlying22 c);have HOW:Hid (Own w (w.alloc (.cells #[] 5)) (.slice (some ⟨w.heap.size,0,none⟩) 0 0) []):=zh (World.ownsRow_made w #[] 0 (zw8 _) (by unfold maxLen;omega) rfl);have HQ:Hid (([]:List Nat).length+xs.length≤140737488355328):=zh (by simp;omega);clear hB;go_enter Tryz.func28,Tryz.ntmps28;go_wp2_with (first | (at_builtin;refine wpList_own (W:=w) rfl (.tmp 5) (.tmp 6) 22 rfl (.slice (some ⟨w.heap.size,0,none⟩) 0 0) (.slice (some a) xs.length c) [] xs rfl rfl HOW.out HE.out HSR.out HQ.out ?_;intro v2 w2 hown2 hE2))
  have HO2:Hid (Own w w2 v2 xs):=zh hown2;have HE2:=zh hE2;clear hown2 hE2;go_ret;obtain⟨A2,c2,rfl,h1,h2,h3⟩:=own_shape HO2.out;refine⟨A2,c2,rfl,h1,by unfold maxLen at h2;omega,fun h=>?_,fun hp a2 ha2=>?_,Own.bs HO2.out HSM.out,HE2.out⟩
  ·subst h
   rcases HO2.out.2 with ⟨hq,hz⟩ | ⟨g,cap,cur,hq,_⟩
   ·obtain⟨_,_,rfl⟩:=Value.slice.inj hq;exact⟨hz,rfl⟩
   ·simp at hq
  ·obtain⟨g,rfl,hg⟩:=h3 hp
   obtain rfl:=zw13 ha2;exact hg
def OPost (w:World) (n:Nat) (xs:List Nat) (e:Ending) (w':World):Prop:=
 ∃(g:Nat) (A':Option Addr) (c':Nat),e= .returned (.pointer (some ⟨g,0,none⟩))∧w.heap.size≤g∧Rdr w' g (.slice A' n c') 0 0∧RB w' g A' n c' xs∧Ext w w'
theorem of (A:Option Addr) (n c:Nat) (xs:List Nat) (w:World) (hB:Bs w A n xs) (hnil:A=none→n=0∧c=0) (hn:n≤4000000000):
  Calls Tryz.prog 59 #[.slice A n c] w (OPost w n xs):=by
 have HC:=zh (clone A n c xs w hB hnil hn);clear hB hnil;go_enter Tryz.func59,Tryz.ntmps59;go_wp2_with fail;refine(HC.out).mono ?_;rintro e w1 ⟨A',c',rfl,h1,h2,h3,h4,hB,hE⟩;have HB:=zh hB;have HE:=zh hE;have H3:=zh h3;have H4:=zh h4;clear hB hE h3 h4;go_wp2_with fail;go_ret;refine⟨w1.heap.size,A',c',rfl,HE.out.size,Blk.new _ _ _,⟨HB.out.ext (zxa (zxr _) _),h1,h2,H3.out,fun hp a ha=>?_⟩,zxa HE.out _⟩;obtain⟨b,o,e,hl,_⟩:=HB.out.2.2 hp;obtain rfl:=zw13 (ha.symm.trans e);exact Nat.ne_of_lt hl
def Got (w':World) (ys:List Nat) (v:Value):Prop:=∃(A':Option Addr) (c':Nat),v= .slice A' ys.length c'∧ys.length≤c'∧c'≤9223372036854775807∧(A'=none→ys.length=0∧c'=0)∧Bs w' A' ys.length ys
def BPhi (at_:Nat) (rest:List Nat) (m:Int) (v:Value) (a':Nat) (err:Int) (w':World):Prop:=
 (m<0∧err=4)∨(0≤m∧(rest.length:Int)<m∧err=3)∨(0≤m∧m≤(rest.length:Int)∧Got w' (rest.take m.toNat) v∧a'=at_+m.toNat∧err=0)
theorem bytes1 (pb mb rb g n c at_:Nat) (m:Int) (A:Option Addr) (xs:List Nat) (w:World) (hp:w.cell? ⟨pb,0,none⟩=some (.pointer (some ⟨g,0,none⟩))) (hr:w.cell? ⟨rb,0,none⟩=some (.pointer (some ⟨g,0,none⟩))) (hmo:w.cell? ⟨mb,0,none⟩=some (.int .i64 m))
  (hm1: -9223372036854775808≤m) (hm2:m≤9223372036854775807)
  (h:Rdr w g (.slice A n c) at_ 0) (hB:RB w g A n c xs) (hat:at_≤n) (hn:n≤4000000000):
  Calls Tryz.prog 150 #[.func (.func 154) #[] #[.pointer (some ⟨pb,0,none⟩)],.pointer (some ⟨mb,0,none⟩),.pointer (some ⟨rb,0,none⟩)] w (CP w g (.slice A n c) (BPhi at_ (xs.drop at_) m)):=by
 have hxl:(xs.drop at_).length=n-at_:=by rw[zw1,hB.1.1]
 by_cases hneg:m<0
 ·have HP:=zh hp;have H:=zh h
  have HF:Hid (∀v a' w',BPhi at_ (xs.drop at_) m v a' 4 w'):=zh (fun _ _ _=> .inl ⟨hneg,rfl⟩);clear hp h hB hxl hm2;generalize BPhi at_ (xs.drop at_) m=Φ at*;go_enter Tryz.func150,Tryz.ntmps150;go_wp2_with fail;refine(fail0_71 _ pb g _ at_ 4 HP.out H.out).mono ?_;rintro e w3 ⟨rfl,hE3⟩;have HE3:=zh hE3;clear hE3;go_wp2_with fail;go_ret;exact⟨_,_,4,rfl,HE3.out,HF.out _ _ _⟩
 ·obtain⟨k,rfl⟩:∃k:Nat,m=(k:Int):=⟨m.toNat,by omega⟩
  have hk1:¬(k:Int)<0:=hneg;by_cases hsh:n-at_<k
  ·have HC:=zh (piece_short_71 pb g n c at_ k A xs w hp h hat hn hsh)
   have HF:Hid (∀v a' w',BPhi at_ (xs.drop at_) (k:Int) v a' 3 w'):=zh (fun _ _ _=> .inr (.inl ⟨by omega,by omega,rfl⟩));clear hp h hB hxl;generalize BPhi at_ (xs.drop at_) (k:Int)=Φ at*;go_enter Tryz.func150,Tryz.ntmps150;go_wp2_with fail;refine(HC.out).mono ?_;rintro e w3 ⟨rfl,hE3⟩;have HE3:=zh hE3;clear hE3;go_wp2_with fail;refine(clone none 0 0 [] w3 (Bs.none _ _) (fun _=>⟨rfl,rfl⟩) (by omega)).mono ?_;rintro e w4 ⟨A',c',rfl,_,_,_,_,_,hE⟩;have HE4:=zh hE;clear hE;go_wp2_with fail;go_ret;exact⟨_,_,3,rfl,HE3.out.ext HE4.out,HF.out _ _ _⟩
  ·have HC:=zh (piece_ok g n c at_ k A (.func (.func 154) #[] #[.pointer (some ⟨pb,0,none⟩)]) xs w h hB (by omega) hn)
   have HL:Hid (((xs.drop at_).take k).length=k):=zh (by rw[zw2];omega);have HF:Hid (∀v w',Got w' ((xs.drop at_).take k) v→BPhi at_ (xs.drop at_) (k:Int) v (at_+k) 0 w'):=zh (fun _ _ hg=> .inr (.inr ⟨by omega,by omega,by rw[zw35];exact hg,by rw[zw35],rfl⟩));clear hp h hB hxl;generalize BPhi at_ (xs.drop at_) (k:Int)=Φ at*;generalize (xs.drop at_).take k=ys at*;go_enter Tryz.func150,Tryz.ntmps150;go_wp2_with fail;refine(HC.out).mono ?_;rintro e w3 ⟨A',c',rfl,hc1,hc2,hc3,hB3,hE3⟩;have HB3:=zh hB3;have HC3:=zh hc3;have HE3:=zh hE3;clear hE3 hB3 hc3;go_wp2_with fail;refine(clone A' k c' ys w3 HB3.out HC3.out (by omega)).mono ?_;rintro e w4 ⟨A4,c4,rfl,h1,h2,h3,h4,hB4,hE⟩;have HE4:=zh hE;have HB4:=zh hB4;have H3:=zh h3;clear hE hB4 h3 h4;go_wp2_with fail;go_ret;have hg:Got w4 ys (.slice A4 k c4):=⟨A4,c4,by rw[HL.out],by rw[HL.out];exact h1,h2,by rw[HL.out];exact H3.out,by rw[HL.out];exact HB4.out⟩;exact⟨_,_,0,rfl,HE3.out.ext HE4.out,HF.out _ _ hg⟩
def BPost (w:World) (g:Nat) (s:Value) (at_:Nat) (rest:List Nat) (m:Int) (e:Ending) (w':World):Prop:=
 (m<0∧e= .returned (.slice none 0 0)∧Eff w w' g s at_ 4)∨(0≤m∧(rest.length:Int)<m∧e= .returned (.slice none 0 0)∧Eff w w' g s at_ 3)∨
 (0≤m∧m≤(rest.length:Int)∧(∃v,e= .returned v∧Got w' (rest.take m.toNat) v)∧Eff w w' g s (at_+m.toNat) 0)
theorem bpost_of {w w':World} {g:Nat} {s:Value} {at_:Nat} {rest:List Nat} {m:Int} {e:Ending} (h:RP w g s (.slice none 0 0) at_ (BPhi at_ rest m) e w'):BPost w g s at_ rest m e w':=by
 rcases h with ⟨v,a',rfl,hE,⟨_,h2⟩ | ⟨_,_,h2⟩ | ⟨h1,h2,h3,rfl,_⟩⟩ | ⟨err,hne,rfl,hE,v0,a0,w0,⟨h1,h2⟩ | ⟨h1,h2,h3⟩ | ⟨_,_,_,_,h2⟩⟩
 ·exact absurd h2 (by decide)
 ·exact absurd h2 (by decide)
 ·exact .inr (.inr ⟨h1,h2,⟨v,rfl,h3⟩,hE⟩)
 ·subst h2;exact .inl ⟨h1,rfl,hE⟩
 ·subst h3;exact .inr (.inl ⟨h1,h2,rfl,hE⟩)
 ·exact absurd h2 hne
theorem bytes (g n c at_:Nat) (m:Int) (hm1: -9223372036854775808≤m) (hm2:m≤9223372036854775807) (A:Option Addr) (xs:List Nat) (w:World) (h:Rdr w g (.slice A n c) at_ 0) (hB:RB w g A n c xs) (hat:at_≤n) (hn:n≤4000000000):
  Calls Tryz.prog 134 #[.pointer (some ⟨g,0,none⟩),.int .i64 m] w (BPost w g (.slice A n c) at_ (xs.drop at_) m):=by
 have ha:=zxa (zxr w) (.cells #[.pointer (some ⟨g,0,none⟩)] 133);have hb:=zxa (zxr (w.alloc (.cells #[.pointer (some ⟨g,0,none⟩)] 133))) (.cells #[.int .i64 m] 3);have hc:=zxa (zxr ((w.alloc (.cells #[.pointer (some ⟨g,0,none⟩)] 133)).alloc (.cells #[.int .i64 m] 3))) (.cells #[.pointer (some ⟨g,0,none⟩)] 133);have HC:=zh (reading_71 g at_ (.slice A n c) (.pointer (some ⟨w.heap.size+1,0,none⟩)) (.pointer (some ⟨w.heap.size,0,none⟩)) (BPhi at_ (xs.drop at_) m) ((w.alloc (.cells #[.pointer (some ⟨g,0,none⟩)] 133)).alloc (.cells #[.int .i64 m] 3)) ((h.ext ha).ext hb)
  (bytes1 ((w.alloc (.cells #[.pointer (some ⟨g,0,none⟩)] 133)).alloc (.cells #[.int .i64 m] 3)).heap.size (w.heap.size+1) w.heap.size g n c at_ m A xs _ (by rw[World.cell?_alloc_new];rfl) (kc hc (kc hb (by rw[World.cell?_alloc_new];rfl))) (kc hc (by
   have:=World.cell?_alloc_new (w.alloc (.cells #[.pointer (some ⟨g,0,none⟩)] 133)) #[.int .i64 m] 3 0;rw[zw22]at this;rw[this];rfl)) hm1 hm2 (((h.ext ha).ext hb).ext hc) (((hB.eff (gb_ext ha _)).eff (gb_ext hb _)).eff (gb_ext hc _)) hat hn))
 clear h hB ha hb hc hm1 hm2;generalize xs.drop at_=rest at*;go_enter Tryz.func134,Tryz.ntmps134;go_wp2_with fail;refine(HC.out).mono ?_;intro e w3 hq;have hp:=bpost_of (rp_alloc _ (rp_alloc _ hq));clear hq;have HP:=zh hp;rcases hp with ⟨h1,rfl,hE⟩ | ⟨h1,h2,rfl,hE⟩ | ⟨h1,h2,⟨v,rfl,h3⟩,hE⟩
 ·clear h1 hE
  go_wp2_with fail;go_ret;exact HP.out
 ·clear h1 h2 hE
  go_wp2_with fail;go_ret;exact HP.out
 ·clear h1 h2 h3 hE
  go_wp2_with fail;go_ret;exact HP.out
end Go.Proofs.YtbopblbhjcemaaaGreatDoor.Wire
