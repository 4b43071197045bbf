
import Derived.Test.YtidnboeihkeljaaGreatDoorF01
import Derived.WalkSpells
import Derived.RangeFuncNested
import Derived.RangeFuncCalls
import Derived.RangeFuncLeaves
import Derived.OwnWalkIn
import Derived.OrdersHeld
import Derived.Deep.RegionHeld
set_option maxHeartbeats 16000000
set_option maxRecDepth 100000
set_option linter.all false
open Go.ChangeShapes Go.WideShapes Go.ChangeAt Go.RowKit
namespace Go.Proofs.YtidnboeihkeljaaGreatDoor.Wire
theorem fail0_67 (w : World) (pb g : Nat) (s : Value) (i : Nat) (f : Int) (hp : w.cell? ⟨pb, 0, none⟩ = some (.pointer (some ⟨g, 0, none⟩))) (h : Rdr w g s i 0) :
    Calls Tryz.prog 151 #[.int .i64 f,.pointer (some ⟨pb,0,none⟩)] w fun e w'=>e= .returned (.tuple #[])∧Eff w w' g s i f:=by
  obtain⟨c0,c1,c2,f1,f2⟩:=h.cells;have H:=zh h;clear h;go_enter Tryz.func151,Tryz.ntmps151
  go_wp2
  go_end0
  exact⟨rfl,H.out.setErr f⟩
theorem varint_67 (pb g n c at_ : Nat) (A : Option Addr) (xs : List Nat) (w : World) (hp : w.cell? ⟨pb, 0, none⟩ = some (.pointer (some ⟨g, 0, none⟩))) (h : Rdr w g (.slice A n c) at_ 0) (hB : Bs w A n xs) (hat : at_ ≤ n) (hn : n ≤ 4000000000) :
    Calls Tryz.prog 116 #[.pointer (some ⟨g,0,none⟩),.func (.func 151) #[] #[.pointer (some ⟨pb,0,none⟩)]] w (VPost w g (.slice A n c) at_ (vr 0 0 (xs.drop at_))):=by
  have hxl:xs.length=n:=hB.1;subst hxl;have HP:=zh hp;have H:=zh h;have HB:=zh hB;clear hp h hB;generalize hR:vr 0 0 (xs.drop at_)=R at*;have HR:=zh hR;clear hR;go_enter Tryz.func116,Tryz.ntmps116
  go_wp2
  go_step3
  go_wp2
  go_step3
  go_wp2
  go_loopw [5,6] (fun nv sv wr=>VRel w xs at_ R nv sv wr) (fun _ sv _=>10-(intOf sv).toNat)
  case atStart=>exact⟨0,0,by omega,by omega,rfl,rfl,by decide,HR.out,zxr _⟩
  case round=>
    obtain⟨size,acc,hs,hat2,rfl,rfl,hacc,hvr,hE⟩:=hrel;have HVR:=zh hvr;have HE:=zh hE;have HAC:=zh hacc;clear hvr hE hacc;have HRW:=zh (H.out.ext HE.out);have HRD:=zh (HRW.out.ext (zxd (zxr _)));obtain⟨c0,c1,c2,f1,f2⟩:=HRW.out.cells;have p0:=kc HE.out HP.out;have i1:(0:Int)≤(size:Int):=by omega
    have i2:(size:Int)≤9:=by omega
    have i3:(at_:Int)+(size:Int)≤(xs.length:Int):=by omega
    have HWR:Hid (IntKind.i64.wrap ((at_:Int)+(size:Int))=(at_:Int)+(size:Int)):=zh (IntWalk.i64_in _ (by omega));by_cases hge:at_+size<xs.length
    · have hge2:(at_:Int)+(size:Int)<(xs.length:Int):=by omega
      have hi0:(0:Int)≤(at_:Int)+(size:Int):=by omega
      have hidx:((at_:Int)+(size:Int)).toNat=at_+size:=by omega
      obtain⟨b,o,rfl,_,hc⟩:=(HB.out.ext HE.out).2.2 (by omega);have cb0:wr.cell? ⟨b,o+(at_+size),none⟩=some (.int .u8 (xs.getD (at_+size) 0:Nat)):=hc _ hge;clear hc;have hcb:=HB.out.2.1 (at_+size);have hd:xs.drop (at_+size)=xs.getD (at_+size) 0::xs.drop (at_+size+1):=by
        rw[zw20 hge,zw5,zw6 hge];rfl
      have HV2:Hid _:=zh (hd▸HVR.out);generalize xs.getD (at_+size) 0=cb at*;have hcb2:(cb:Int)<256:=by omega
      clear hd;obtain⟨z,hz1,hz2,hz3⟩:=or_val acc size cb hs HAC.out hcb;have HZ1:=zh hz1;have HZ3:=zh hz3;clear hz1 hz3;go_wp2_with fail;have hw:=HWR.out
      (refine wp_still (by kernel_rfl) (by kernel_rfl) ?_;repeat still_step);refine wpStill_nil ?_;clear hw;go_wp2_with fail;have hw:=HWR.out
      (refine wp_still (by kernel_rfl) (by kernel_rfl) ?_;repeat still_step);refine wpStill_nil ?_;clear hw;go_wp2_with fail
      all_goals clear hz2
      all_goals first
        | (((with_reducible refine(fail0_67 _ pb g _ at_ 4 (kc (zxd (zxd (zxr wr))) p0) (HRD.out.ext (zxd (zxr _)))).mono ?_));(rintro e w3 ⟨rfl,hE3⟩);
           (have hR2:R= .form:=by
              have hf:(size=9∧1<cb)∨(0<size∧cb=0):=by
                first
                | (left;omega)
                | (right;have h0:((cb:Int)==0)=true:=by assumption
                   have:=eq_of_beq h0;omega)
              have:=HV2.out;rw[vr,if_pos hf]at this;exact this.symm);
           (have HR2:=zh hR2;clear hR2);
           (obtain⟨d0,d1,d2,g1,g2⟩:=hE3.1.cells);
           (have HE3:=zh hE3;clear hE3);
           go_wp2_with fail;
           (try rw[Exit.noGoto_ret]);
           go_ret;
           exact⟨z,size+1,4,rfl,HZ1.out,(((H.out.eff HE.out).ext (zxd (zxd (zxr _)))).trans HE3.out).trans (HE3.out.1.setAt' (at_+(size+1)) (by omega)),by rw[HR2.out]⟩)
        | (go_roundw
           case rel=>
             have hnf:¬((size=9∧1<cb)∨(0<size∧cb=0)):=by
               first
               | omega
               | (have h0:((cb:Int)==0)=false:=by assumption
                  have:=ne_of_beq_false h0;omega)
             have h128:¬cb<128:=by omega
             have h8:size≤8:=by omega
             have hz:=HZ3.out (.inl h8);rw[show cb%128=cb-128 from by omega]at hz;have hv:=HV2.out;rw[vr,if_neg hnf,if_neg h128,←hz]at hv;have hlt:z<128 ^(size+1):=by
               have ha:=HAC.out;rw[Nat.pow_succ,hz];have:(cb-128)*128 ^size≤127*128 ^size:=Nat.mul_le_mul (by omega) (zw8 _);omega
             exact⟨size+1,z,by omega,by omega,rfl,by go_num,hlt,by rw[←Nat.add_assoc];exact hv,zxd (zxd HE.out)⟩
           case measure=>simp[intOf];omega)
        | ((have hR2 : R = .ok z (size + 1) := by
              have hnf:¬((size=9∧1<cb)∨(0<size∧cb=0)):=by
                first
                | omega
                | (have h0:((cb:Int)==0)=false:=by assumption
                   have:=ne_of_beq_false h0;omega)
              have h128:cb<128:=by omega
              have hz:=HZ3.out (by omega);rw[Nat.mod_eq_of_lt h128]at hz;have hv:=HV2.out;rw[vr,if_neg hnf,if_pos h128,←hz]at hv;exact hv.symm);
           (have HR2:=zh hR2;clear hR2);
           (try rw[Exit.noGoto_ret]);
           go_ret;
           exact⟨z,size+1,0,rfl,HZ1.out,((H.out.eff HE.out).ext (zxd (zxd (zxr _)))).trans ((HRD.out.ext (zxd (zxr _))).setAt' (at_+(size+1)) (by omega)),by rw[HR2.out];exact⟨rfl,rfl,rfl⟩⟩)
    · have hge2:¬(at_:Int)+(size:Int)<(xs.length:Int):=by omega
      have hR2:R= .short:=by
        have:=HVR.out;rw[zw21 (by omega)]at this;exact this.symm
      have HR2:=zh hR2;clear hR2;go_wp2_with fail;have hw:=HWR.out
      (refine wp_still (by kernel_rfl) (by kernel_rfl) ?_;repeat still_step);refine wpStill_nil ?_;clear hw;go_wp2_with fail;refine(fail0_67 _ pb g _ at_ 3 (kc (zxd (zxr wr)) p0) HRD.out).mono ?_;rintro e w3 ⟨rfl,hE3⟩;obtain⟨d0,d1,d2,g1,g2⟩:=hE3.1.cells;have HE3:=zh hE3;clear hE3;go_wp2_with fail
      try rw[Exit.noGoto_ret]
      go_ret;have HAL:acc<18446744073709551616:=by
        have h1:=HAC.out;have h2:128 ^size≤128 ^9:=Nat.pow_le_pow_right (by omega) hs;have h3:(128:Nat) ^9=9223372036854775808:=by decide
        omega
      exact⟨acc,size,3,rfl,HAL,((H.out.eff HE.out).ext (zxd (zxr _))).trans (HE3.out.trans (HE3.out.1.setAt' (at_+size) (by omega))),by rw[HR2.out]⟩
def NPost (w:World) (g:Nat) (s:Value) (at_:Nat) (R:VR) (e:Ending) (w':World):Prop:=
 ∃(z j:Nat) (err:Int),e= .returned (.int .u64 (z:Int))∧z<18446744073709551616∧Eff w w' g s (at_+j) err∧
  (match R with | .short=>z=0∧j=0∧err=3 | .form=>z=0∧j=0∧err=4 | .ok v k=>z=v∧j=k∧err=0)
theorem reading_67 (g n c at_:Nat) (A:Option Addr) (xs:List Nat) (w:World) (h:Rdr w g (.slice A n c) at_ 0) (hB:Bs w A n xs) (hat:at_≤n) (hn:n≤4000000000):
  Calls Tryz.prog 144 #[.pointer (some ⟨g,0,none⟩),.func (.func 116) #[.pointer (some ⟨g,0,none⟩)] #[]] w (NPost w g (.slice A n c) at_ (vr 0 0 (xs.drop at_))):=by
 have hne:w.heap.size≠g:=by have:=Blk.lt h;omega
 have hgl:g<w.heap.size:=Blk.lt h;have ha:=zxa (zxr w) (.cells #[.pointer (some ⟨g,0,none⟩)] 145);have HE0:=zh ha;have HRA:=zh (h.ext ha);have HBA:=zh (hB.ext ha);obtain⟨c0,c1,c2,f1,f2⟩:=h.cells;have H:=zh h;clear h hB ha;generalize hR:vr 0 0 (xs.drop at_)=R at*;have HR:=zh hR;clear hR;go_enter Tryz.func144,Tryz.ntmps144;go_wp2_with fail;refine(varint_67 w.heap.size g n c at_ A xs _ (by simp) HRA.out HBA.out hat hn).mono ?_;rw[HR.out];rintro e w3 ⟨z,j,err,rfl,hz,hE3,hm⟩;obtain⟨d0,d1,d2,g1,g2⟩:=hE3.1.cells;have p3:w3.cell? ⟨w.heap.size,0,none⟩=some (.pointer (some ⟨g,0,none⟩)):=hE3.2.cell (a:=⟨w.heap.size,0,none⟩) (by simp) (by simpa using hne);have HE3:=zh hE3;clear hE3;have HEF:Hid (Eff w w3 g (.slice A n c) (at_+j) err):=zh ((H.out.eff HE0.out).trans HE3.out)
 cases R with
 | short=>
  obtain rfl:err=3:=hm;go_wp2_with fail;go_ret;exact⟨0,0,3,rfl,by omega,HEF.out.trans (HEF.out.1.setAt' at_ rfl),rfl,rfl,rfl⟩
 | form=>
  obtain rfl:err=4:=hm;go_wp2_with fail;go_ret;exact⟨0,0,4,rfl,by omega,HEF.out.trans (HEF.out.1.setAt' at_ rfl),rfl,rfl,rfl⟩
 | ok v k=>
  obtain⟨rfl,rfl,rfl⟩:=hm;go_wp2_with fail;go_ret;exact⟨z,j,0,rfl,hz,HEF.out,rfl,rfl,rfl⟩
theorem reading_err_67 (g at_:Nat) (s F:Value) (e0:Int) (w:World) (h:Rdr w g s at_ e0) (he:(e0==0)=false):
  Calls Tryz.prog 144 #[.pointer (some ⟨g,0,none⟩),F] w fun e w'=>e= .returned (.int .u64 0)∧Ext w w':=by
 have hne:w.heap.size≠g:=by have:=Blk.lt h;omega
 have hgl:g<w.heap.size:=Blk.lt h;obtain⟨c0,c1,c2,f1,f2⟩:=h.cells;clear h;go_enter Tryz.func144,Tryz.ntmps144;go_wp2_with fail;go_ret;exact⟨rfl,by repeat (first | exact zxr _ | refine zxd ?_ | refine zxa ?_ _)⟩
theorem num (g n c at_:Nat) (A:Option Addr) (xs:List Nat) (w:World) (h:Rdr w g (.slice A n c) at_ 0) (hB:Bs w A n xs) (hat:at_≤n) (hn:n≤4000000000):
  Calls Tryz.prog 120 #[.pointer (some ⟨g,0,none⟩)] w (NPost w g (.slice A n c) at_ (vr 0 0 (xs.drop at_))):=by
 have HC:=zh (reading_67 g n c at_ A xs w h hB hat hn);clear h hB;generalize vr 0 0 (xs.drop at_)=R at*;go_enter Tryz.func120,Tryz.ntmps120;go_wp2_with fail;refine(HC.out).mono ?_;rintro e w3 ⟨z,j,err,rfl,hz,hE3,hm⟩;have HP:Hid (NPost w g (.slice A n c) at_ R (.returned (.int .u64 (z:Int))) w3):=zh ⟨z,j,err,rfl,hz,hE3,hm⟩;clear hz hE3 hm;go_wp2_with fail;go_ret;exact HP.out
theorem num_err (g at_:Nat) (s:Value) (e0:Int) (w:World) (h:Rdr w g s at_ e0) (he:(e0==0)=false):
  Calls Tryz.prog 120 #[.pointer (some ⟨g,0,none⟩)] w fun e w'=>e= .returned (.int .u64 0)∧Ext w w':=by
 have HC:=zh (fun F=>reading_err_67 g at_ s F e0 w h he);clear h he;go_enter Tryz.func120,Tryz.ntmps120;go_wp2_with fail;refine(HC.out _).mono ?_;rintro e w3 ⟨rfl,hE3⟩;go_wp2_with fail;go_ret;exact⟨rfl,hE3⟩
theorem at_any (g:Nat) (s:Value) (i:Nat) (e0:Int) (w:World) (h:Rdr w g s i e0):Calls Tryz.prog 135 #[.pointer (some ⟨g,0,none⟩)] w fun e w'=>e= .returned (.int .i64 (i:Int))∧w=w':=by
 obtain⟨c0,c1,c2,f1,f2⟩:=h.cells;clear h;go_enter Tryz.func135,Tryz.ntmps135;go_wp2_with fail;go_ret;exact⟨rfl,rfl⟩
theorem err_any (g:Nat) (s:Value) (i:Nat) (e0:Int) (w:World) (h:Rdr w g s i e0):Calls Tryz.prog 81 #[.pointer (some ⟨g,0,none⟩)] w fun e w'=>e= .returned (.int .i64 e0)∧w=w':=by
 obtain⟨c0,c1,c2,f1,f2⟩:=h.cells;clear h;go_enter Tryz.func81,Tryz.ntmps81;go_wp2_with fail;go_ret;exact⟨rfl,rfl⟩
theorem left_any (g n c:Nat) (A:Option Addr) (i:Nat) (e0:Int) (w:World) (h:Rdr w g (.slice A n c) i e0) (hi:i≤n) (hn:n≤4000000000):Calls Tryz.prog 117 #[.pointer (some ⟨g,0,none⟩)] w fun e w'=>e= .returned (.int .i64 ((n-i:Nat):Int))∧Ext w w':=by
 obtain⟨c0,c1,c2,f1,f2⟩:=h.cells;clear h;have HW1:Hid (IntKind.i64.wrap ((n:Int)-(i:Int))=((n-i:Nat):Int)):=zh (by rw[IntWalk.i64_in _ (by omega)];omega);generalize n-i=L at*;go_enter Tryz.func117,Tryz.ntmps117;go_wp2_with fail;have hw1:=HW1.out;refine wp_still (by kernel_rfl) (by kernel_rfl) ?_
 repeat still_step
 refine wpStill_nil ?_;clear hw1;go_wp2_with fail;go_ret;exact⟨rfl,zxd (zxr _)⟩
theorem end_bad (g:Nat) (s:Value) (i:Nat) (e0:Int) (w:World) (h:Rdr w g s i e0) (he:(e0==0)=false):Calls Tryz.prog 91 #[.pointer (some ⟨g,0,none⟩)] w fun e w'=>e= .returned (.int .i64 e0)∧Ext w w':=by
 have HC:=zh (err_any g s i e0 w h);clear h;go_enter Tryz.func91,Tryz.ntmps91;go_wp2_with fail;refine(HC.out).mono ?_;rintro e w1 ⟨rfl,rfl⟩;go_wp2_with fail;go_ret;exact⟨rfl,zxr _⟩
theorem end_ok (g n c:Nat) (A:Option Addr) (i:Nat) (w:World) (h:Rdr w g (.slice A n c) i 0) (hi:i≤n) (hn:n≤4000000000):Calls Tryz.prog 91 #[.pointer (some ⟨g,0,none⟩)] w fun e w'=>e= .returned (.int .i64 (if i=n then 0 else 4))∧Ext w w':=by
 have HC:=zh (err_any g _ i 0 w h);have HL:=zh (left_any g n c A i 0 w h hi hn);clear h;by_cases hin:i=n
 ·subst hin
  rw[if_pos rfl];have e0:i-i=0:=by omega
  rw[e0]at HL;clear e0;go_enter Tryz.func91,Tryz.ntmps91;go_wp2_with fail;refine(HC.out).mono ?_;rintro e w1 ⟨rfl,rfl⟩;go_wp2_with fail;refine(HL.out).mono ?_;rintro e w1 ⟨rfl,b1⟩;go_wp2_with fail;go_ret;exact⟨rfl,b1⟩
 ·rw[if_neg hin]
  have hL:0<n-i:=by omega
  generalize n-i=L at*;go_enter Tryz.func91,Tryz.ntmps91;go_wp2_with fail;refine(HC.out).mono ?_;rintro e w1 ⟨rfl,rfl⟩;go_wp2_with fail;refine(HL.out).mono ?_;rintro e w1 ⟨rfl,b1⟩;go_wp2_with fail;go_ret;exact⟨rfl,b1⟩
def KPost (w:World) (n:Nat) (xs:List Nat) (e:Ending) (w':World):Prop:=
 ∃(A':Option Addr) (c':Nat),e= .returned (.slice A' n c')∧n≤c'∧c'≤9223372036854775807∧(A'=none→n=0∧c'=0)∧(0<n→∀a,A'=some a→w.heap.size≤a.block)∧Bs w' A' n xs∧Ext w w'
theorem clone (A:Option Addr) (n c:Nat) (xs:List Nat) (w:World) (hB:Bs w A n xs) (hnil:A=none→n=0∧c=0) (hn:n≤4000000000):
  Calls Tryz.prog 53 #[.slice A n c] w (KPost w n xs):=by
 have hnl:=@Lib.run_eql_slice_nil Tryz.prog;rcases A with _ | a
 ·obtain⟨rfl,rfl⟩:=hnil rfl
  have hx:xs=[]:=zw19 hB.1;subst hx;clear hnil hB;go_enter Tryz.func53,Tryz.ntmps53;go_wp2_with fail;go_ret;exact⟨none,0,rfl,zw8 _,by omega,fun _=>⟨rfl,rfl⟩,fun h=>absurd h (by omega),Bs.none _ _,zxr _⟩
 ·clear hnil
  have hxl:=hB.1;subst hxl;have HE:=zh (zxa (zxr w) (.cells #[] 5));have HSM:=zh hB.2.1;have HSR:Hid (Src Tryz.prog 1 48 (.slice (some a) xs.length c) xs.length (c8 xs) (w.alloc (.cells #[] 5))):=zh (Bs.src (hB.ext HE.out) Tryz.underlying48 c);have HOW:Hid (Own w (w.alloc (.cells #[] 5)) (.slice (some ⟨w.heap.size,0,none⟩) 0 0) []):=zh (World.ownsRow_made w #[] 0 (zw8 _) (by unfold maxLen;omega) rfl);have HQ:Hid (([]:List Nat).length+xs.length≤140737488355328):=zh (by simp;omega);clear hB;go_enter Tryz.func53,Tryz.ntmps53;go_wp2_with (first | (at_builtin;refine wpList_own (W:=w) rfl (.tmp 5) (.tmp 6) 48 rfl (.slice (some ⟨w.heap.size,0,none⟩) 0 0) (.slice (some a) xs.length c) [] xs rfl rfl HOW.out HE.out HSR.out HQ.out ?_;intro v2 w2 hown2 hE2))
  have HO2:Hid (Own w w2 v2 xs):=zh hown2;have HE2:=zh hE2;clear hown2 hE2;go_ret;obtain⟨A2,c2,rfl,h1,h2,h3⟩:=own_shape HO2.out;refine⟨A2,c2,rfl,h1,by unfold maxLen at h2;omega,fun h=>?_,fun hp a2 ha2=>?_,Own.bs HO2.out HSM.out,HE2.out⟩
  ·subst h
   rcases HO2.out.2 with ⟨hq,hz⟩ | ⟨g,cap,cur,hq,_⟩
   ·obtain⟨_,_,rfl⟩:=Value.slice.inj hq;exact⟨hz,rfl⟩
   ·simp at hq
  ·obtain⟨g,rfl,hg⟩:=h3 hp
   obtain rfl:=zw13 ha2;exact hg
def OPost (w:World) (n:Nat) (xs:List Nat) (e:Ending) (w':World):Prop:=
 ∃(g:Nat) (A':Option Addr) (c':Nat),e= .returned (.pointer (some ⟨g,0,none⟩))∧w.heap.size≤g∧Rdr w' g (.slice A' n c') 0 0∧RB w' g A' n c' xs∧Ext w w'
theorem of (A:Option Addr) (n c:Nat) (xs:List Nat) (w:World) (hB:Bs w A n xs) (hnil:A=none→n=0∧c=0) (hn:n≤4000000000):
  Calls Tryz.prog 79 #[.slice A n c] w (OPost w n xs):=by
 have HC:=zh (clone A n c xs w hB hnil hn);clear hB hnil;go_enter Tryz.func79,Tryz.ntmps79;go_wp2_with fail;refine(HC.out).mono ?_;rintro e w1 ⟨A',c',rfl,h1,h2,h3,h4,hB,hE⟩;have HB:=zh hB;have HE:=zh hE;have H3:=zh h3;have H4:=zh h4;clear hB hE h3 h4;go_wp2_with fail;go_ret;refine⟨w1.heap.size,A',c',rfl,HE.out.size,Blk.new _ _ _,⟨HB.out.ext (zxa (zxr _) _),h1,h2,H3.out,fun hp a ha=>?_⟩,zxa HE.out _⟩;obtain⟨b,o,e,hl,_⟩:=HB.out.2.2 hp;obtain rfl:=zw13 (ha.symm.trans e);exact Nat.ne_of_lt hl
def Got (w':World) (ys:List Nat) (v:Value):Prop:=∃(A':Option Addr) (c':Nat),v= .slice A' ys.length c'∧ys.length≤c'∧c'≤9223372036854775807∧(A'=none→ys.length=0∧c'=0)∧Bs w' A' ys.length ys
def BPhi (at_:Nat) (rest:List Nat) (m:Int) (v:Value) (a':Nat) (err:Int) (w':World):Prop:=
 (m<0∧err=4)∨(0≤m∧(rest.length:Int)<m∧err=3)∨(0≤m∧m≤(rest.length:Int)∧Got w' (rest.take m.toNat) v∧a'=at_+m.toNat∧err=0)
theorem bytes1 (pb mb rb g n c at_:Nat) (m:Int) (A:Option Addr) (xs:List Nat) (w:World) (hp:w.cell? ⟨pb,0,none⟩=some (.pointer (some ⟨g,0,none⟩))) (hr:w.cell? ⟨rb,0,none⟩=some (.pointer (some ⟨g,0,none⟩))) (hmo:w.cell? ⟨mb,0,none⟩=some (.int .i64 m))
  (hm1: -9223372036854775808≤m) (hm2:m≤9223372036854775807)
  (h:Rdr w g (.slice A n c) at_ 0) (hB:RB w g A n c xs) (hat:at_≤n) (hn:n≤4000000000):
  Calls Tryz.prog 148 #[.func (.func 152) #[] #[.pointer (some ⟨pb,0,none⟩)],.pointer (some ⟨mb,0,none⟩),.pointer (some ⟨rb,0,none⟩)] w (CP w g (.slice A n c) (BPhi at_ (xs.drop at_) m)):=by
 have hxl:(xs.drop at_).length=n-at_:=by rw[zw1,hB.1.1]
 by_cases hneg:m<0
 ·have HP:=zh hp;have H:=zh h
  have HF:Hid (∀v a' w',BPhi at_ (xs.drop at_) m v a' 4 w'):=zh (fun _ _ _=> .inl ⟨hneg,rfl⟩);clear hp h hB hxl hm2;generalize BPhi at_ (xs.drop at_) m=Φ at*;go_enter Tryz.func148,Tryz.ntmps148;go_wp2_with fail;refine(fail0_71 _ pb g _ at_ 4 HP.out H.out).mono ?_;rintro e w3 ⟨rfl,hE3⟩;have HE3:=zh hE3;clear hE3;go_wp2_with fail;go_ret;exact⟨_,_,4,rfl,HE3.out,HF.out _ _ _⟩
 ·obtain⟨k,rfl⟩:∃k:Nat,m=(k:Int):=⟨m.toNat,by omega⟩
  have hk1:¬(k:Int)<0:=hneg;by_cases hsh:n-at_<k
  ·have HC:=zh (piece_short_71 pb g n c at_ k A xs w hp h hat hn hsh)
   have HF:Hid (∀v a' w',BPhi at_ (xs.drop at_) (k:Int) v a' 3 w'):=zh (fun _ _ _=> .inr (.inl ⟨by omega,by omega,rfl⟩));clear hp h hB hxl;generalize BPhi at_ (xs.drop at_) (k:Int)=Φ at*;go_enter Tryz.func148,Tryz.ntmps148;go_wp2_with fail;refine(HC.out).mono ?_;rintro e w3 ⟨rfl,hE3⟩;have HE3:=zh hE3;clear hE3;go_wp2_with fail;refine(clone none 0 0 [] w3 (Bs.none _ _) (fun _=>⟨rfl,rfl⟩) (by omega)).mono ?_;rintro e w4 ⟨A',c',rfl,_,_,_,_,_,hE⟩;have HE4:=zh hE;clear hE;go_wp2_with fail;go_ret;exact⟨_,_,3,rfl,HE3.out.ext HE4.out,HF.out _ _ _⟩
  ·have HC:=zh (piece_ok g n c at_ k A (.func (.func 152) #[] #[.pointer (some ⟨pb,0,none⟩)]) xs w h hB (by omega) hn)
   have HL:Hid (((xs.drop at_).take k).length=k):=zh (by rw[zw2];omega);have HF:Hid (∀v w',Got w' ((xs.drop at_).take k) v→BPhi at_ (xs.drop at_) (k:Int) v (at_+k) 0 w'):=zh (fun _ _ hg=> .inr (.inr ⟨by omega,by omega,by rw[zw35];exact hg,by rw[zw35],rfl⟩));clear hp h hB hxl;generalize BPhi at_ (xs.drop at_) (k:Int)=Φ at*;generalize (xs.drop at_).take k=ys at*;go_enter Tryz.func148,Tryz.ntmps148;go_wp2_with fail;refine(HC.out).mono ?_;rintro e w3 ⟨A',c',rfl,hc1,hc2,hc3,hB3,hE3⟩;have HB3:=zh hB3;have HC3:=zh hc3;have HE3:=zh hE3;clear hE3 hB3 hc3;go_wp2_with fail;refine(clone A' k c' ys w3 HB3.out HC3.out (by omega)).mono ?_;rintro e w4 ⟨A4,c4,rfl,h1,h2,h3,h4,hB4,hE⟩;have HE4:=zh hE;have HB4:=zh hB4;have H3:=zh h3;clear hE hB4 h3 h4;go_wp2_with fail;go_ret;have hg:Got w4 ys (.slice A4 k c4):=⟨A4,c4,by rw[HL.out],by rw[HL.out];exact h1,h2,by rw[HL.out];exact H3.out,by rw[HL.out];exact HB4.out⟩;exact⟨_,_,0,rfl,HE3.out.ext HE4.out,HF.out _ _ hg⟩
def BPost (w:World) (g:Nat) (s:Value) (at_:Nat) (rest:List Nat) (m:Int) (e:Ending) (w':World):Prop:=
 (m<0∧e= .returned (.slice none 0 0)∧Eff w w' g s at_ 4)∨(0≤m∧(rest.length:Int)<m∧e= .returned (.slice none 0 0)∧Eff w w' g s at_ 3)∨
 (0≤m∧m≤(rest.length:Int)∧(∃v,e= .returned v∧Got w' (rest.take m.toNat) v)∧Eff w w' g s (at_+m.toNat) 0)
theorem bpost_of {w w':World} {g:Nat} {s:Value} {at_:Nat} {rest:List Nat} {m:Int} {e:Ending} (h:RP w g s (.slice none 0 0) at_ (BPhi at_ rest m) e w'):BPost w g s at_ rest m e w':=by
 rcases h with ⟨v,a',rfl,hE,⟨_,h2⟩ | ⟨_,_,h2⟩ | ⟨h1,h2,h3,rfl,_⟩⟩ | ⟨err,hne,rfl,hE,v0,a0,w0,⟨h1,h2⟩ | ⟨h1,h2,h3⟩ | ⟨_,_,_,_,h2⟩⟩
 ·exact absurd h2 (by decide)
 ·exact absurd h2 (by decide)
 ·exact .inr (.inr ⟨h1,h2,⟨v,rfl,h3⟩,hE⟩)
 ·subst h2;exact .inl ⟨h1,rfl,hE⟩
 ·subst h3;exact .inr (.inl ⟨h1,h2,rfl,hE⟩)
 ·exact absurd h2 hne
theorem bytes (g n c at_:Nat) (m:Int) (hm1: -9223372036854775808≤m) (hm2:m≤9223372036854775807) (A:Option Addr) (xs:List Nat) (w:World) (h:Rdr w g (.slice A n c) at_ 0) (hB:RB w g A n c xs) (hat:at_≤n) (hn:n≤4000000000):
  Calls Tryz.prog 132 #[.pointer (some ⟨g,0,none⟩),.int .i64 m] w (BPost w g (.slice A n c) at_ (xs.drop at_) m):=by
 have ha:=zxa (zxr w) (.cells #[.pointer (some ⟨g,0,none⟩)] 145);have hb:=zxa (zxr (w.alloc (.cells #[.pointer (some ⟨g,0,none⟩)] 145))) (.cells #[.int .i64 m] 3);have hc:=zxa (zxr ((w.alloc (.cells #[.pointer (some ⟨g,0,none⟩)] 145)).alloc (.cells #[.int .i64 m] 3))) (.cells #[.pointer (some ⟨g,0,none⟩)] 145);have HC:=zh (reading_71 g at_ (.slice A n c) (.pointer (some ⟨w.heap.size+1,0,none⟩)) (.pointer (some ⟨w.heap.size,0,none⟩)) (BPhi at_ (xs.drop at_) m) ((w.alloc (.cells #[.pointer (some ⟨g,0,none⟩)] 145)).alloc (.cells #[.int .i64 m] 3)) ((h.ext ha).ext hb)
  (bytes1 ((w.alloc (.cells #[.pointer (some ⟨g,0,none⟩)] 145)).alloc (.cells #[.int .i64 m] 3)).heap.size (w.heap.size+1) w.heap.size g n c at_ m A xs _ (by rw[World.cell?_alloc_new];rfl) (kc hc (kc hb (by rw[World.cell?_alloc_new];rfl))) (kc hc (by
   have:=World.cell?_alloc_new (w.alloc (.cells #[.pointer (some ⟨g,0,none⟩)] 145)) #[.int .i64 m] 3 0;rw[zw22]at this;rw[this];rfl)) hm1 hm2 (((h.ext ha).ext hb).ext hc) (((hB.eff (gb_ext ha _)).eff (gb_ext hb _)).eff (gb_ext hc _)) hat hn))
 clear h hB ha hb hc hm1 hm2;generalize xs.drop at_=rest at*;go_enter Tryz.func132,Tryz.ntmps132;go_wp2_with fail;refine(HC.out).mono ?_;intro e w3 hq;have hp:=bpost_of (rp_alloc _ (rp_alloc _ hq));clear hq;have HP:=zh hp;rcases hp with ⟨h1,rfl,hE⟩ | ⟨h1,h2,rfl,hE⟩ | ⟨h1,h2,⟨v,rfl,h3⟩,hE⟩
 ·clear h1 hE
  go_wp2_with fail;go_ret;exact HP.out
 ·clear h1 h2 hE
  go_wp2_with fail;go_ret;exact HP.out
 ·clear h1 h2 h3 hE
  go_wp2_with fail;go_ret;exact HP.out
end Go.Proofs.YtidnboeihkeljaaGreatDoor.Wire
namespace Go.Proofs.YtidnboeihkeljaaGreatDoor
def Plainly (K:Act→World→Prop):Exit→Act→World→Prop
 | .normal,a,w=>K a w
 | _,_,_=>False
theorem plainly_in (K:Act→World→Prop):¬LetsOut (Plainly K):=fun⟨_,_,h⟩=>h
def noDefer (ops:Array Oper):Bool:=ops.all fun o=>match o.op with | .defer _=>false | _=>true
theorem noDefer_at {ops:Array Oper} (h:noDefer ops=true) {i:Nat} {o:Oper} (ho:ops[i]? =some o):∀c,o.op≠ .defer c:=fun c e=>by
 have h1:=Array.all_eq_true.1 h i (Array.getElem?_eq_some_iff.1 ho).1;rw[(Array.getElem?_eq_some_iff.1 ho).2,e]at h1;cases h1
section
variable {n : Nat} {P : Program} {l : Nat} {ops : Array Oper} {K : Act → World → Prop}
theorem rowsIn_of {n:Nat} {row:String} {args:Array Value} {w:World} {R:Value→World→Prop} (h:Rows P row args w R):RowsIn (Fence.wide.inRound l) n P row args w R:=
 fun c cs _=>let ⟨v,w',r,s⟩:=h c cs;⟨v,w',r,stepsIn_wide.2 s⟩
theorem opIn_of {o:Oper} {a:Act} {w:World} {K':Act→World→Prop} (hd:∀c,o.op≠ .defer c) (h:o.wp P a w K' (Plainly K)):o.wpIn (Fence.wide.inRound l) n P a w K' (Plainly K):=by
 unfold Oper.wp at h;unfold Oper.wpIn;refine⟨fun f _=>trivial,?_⟩;rw[Oper.semAt_plain _ _ _ hd];generalize (execOp a.eval o).run P w=r at*
 cases r with
 | ok x w'=>
  cases x<;>simp only[Oper.upon,Oper.uponIn]at h ⊢ <;>
   first
    | exact h
    | exact⟨fun e=>(by cases e),CallsIn.inRound l (callsIn_wide.2 (Calls.mono h (fun e w'' he=>by cases e<;>exact he)))⟩
    | exact⟨fun e=>(by cases e),rowsIn_of h⟩
 | halt x w'=>cases x<;>simp only[Oper.upon,Oper.uponIn]at h ⊢ <;>exact h
theorem wpOpIn_of (hnd:noDefer ops=true) {i:Nat} {K' K2:Act→World→Prop} {a:Act} {w:World} (h:wpOp P ops (Plainly K) i K' a w) (hk:∀a w,K' a w→K2 a w):wpOpIn (Fence.wide.inRound l) n P ops (Plainly K) i K2 a w:=by
 have h:=wpOp_mono hk h;unfold wpOp at h;unfold wpOpIn
 cases ho:ops[i]? with
 | none=>simpa [ho]using h
 | some o=>
  simp only[ho]at h ⊢
  split
  ·rename_i hw
   simp only[hw,if_true]at h;rcases h with h | ⟨_,h⟩
   ·exact opIn_of (noDefer_at hnd ho) h
   ·exact(plainly_in K h).elim
  ·rename_i hw
   simp only[hw]at h;exact⟨fun f _=>trivial,h⟩
theorem wpAnyIn_of (hnd:noDefer ops=true) {md:Region.Mode}:∀(fuel:Nat) (listed:Array Bool) (a:Act) (w:World),wpAny P md ops (Plainly K) fuel listed a w→wpAnyIn (Fence.wide.inRound l) n P md ops (Plainly K) fuel listed a w
 | 0,_,_,_,h=>h
 | fuel+1,_,_,_,h=>⟨h.1,fun i hi=>wpOpIn_of hnd (h.2 i hi) (fun a' w' h'=>wpAnyIn_of hnd fuel _ a' w' h')⟩
theorem plainly_mono {F:Fence} {c:Code} {a:Act} {w:World} {Q':Exit→Act→World→Prop} (h:c.wpIn F n P (Plainly K) a w):c.wpIn F n P (Exit.then K Q') a w:=
 wpIn_mono h fun e a w hq=>by cases e<;>first | exact hq | exact hq.elim
theorem region_round {id:Nat} {a:Act} {w:World} {Q':Exit→Act→World→Prop} {S:World→Prop} {os:List Oper} (hm:P.follows .mixedOrders=true) (hnd:noDefer os.toArray=true)
  (h:wpAnyH P .any os.toArray (Plainly K) S os.toArray.size (Array.replicate os.toArray.size false) a w.drew):(Code.region id os.toArray true).wpIn (Fence.wide.inRound l) n P (Exit.then K Q') a w:=
 plainly_mono (wpIn_region_any hm (wpAnyIn_of hnd _ _ _ _ (wpAny_of_held _ _ _ _ h)))
theorem wanted_append {w:World} {o:Oper} {a:Act} {K':Act→World→Prop} {Q:Exit→Act→World→Prop} {y:Nat→Option Bool} {X:Prop} (hgd:o.guard=none) (s x:Operand) (t tx:TypeId)
  (ho:o.op= .call {callee:= .builtin .append,args:= #[s,x],argTypes:= #[t,tx]}) (vs vx:Value) (hs:a.eval s=vs) (hx:a.eval x=vx) {v':Value} {w':World}
  (hr:(Builtin.append_ #[t,tx] o.type #[vs,vx]).run P w= .ok v' w') (h:K' (a.put o.dst v') w'):if Region.wanted o y=true then Oper.wp P o a w K' Q else X:=by
 rw[if_pos (by simp[Region.wanted,hgd])];unfold Oper.wp execOp;simp only[ho,resolve,invoke,builtin,Sem.run_bind,Sem.run_pure,Result.andThen_ok,List.map_toArray,List.map_cons,List.map_nil,hs,hx,hr];exact h
end
end Go.Proofs.YtidnboeihkeljaaGreatDoor
namespace Go.Proofs.YtidnboeihkeljaaGreatDoor.Wire
theorem fail0_70 (w : World) (pb g : Nat) (s : Value) (i : Nat) (f : Int) (hp : w.cell? ⟨pb, 0, none⟩ = some (.pointer (some ⟨g, 0, none⟩))) (h : Rdr w g s i 0) :
    Calls Tryz.prog 149 #[.int .i64 f,.pointer (some ⟨pb,0,none⟩)] w fun e w'=>e= .returned (.tuple #[])∧Eff w w' g s i f:=by
  obtain⟨c0,c1,c2,f1,f2⟩:=h.cells;have H:=zh h;clear h;go_enter Tryz.func149,Tryz.ntmps149
  go_wp2
  go_end0
  exact⟨rfl,H.out.setErr f⟩
theorem varint_70 (pb g n c at_ : Nat) (A : Option Addr) (xs : List Nat) (w : World) (hp : w.cell? ⟨pb, 0, none⟩ = some (.pointer (some ⟨g, 0, none⟩))) (h : Rdr w g (.slice A n c) at_ 0) (hB : Bs w A n xs) (hat : at_ ≤ n) (hn : n ≤ 4000000000) :
    Calls Tryz.prog 116 #[.pointer (some ⟨g,0,none⟩),.func (.func 149) #[] #[.pointer (some ⟨pb,0,none⟩)]] w (VPost w g (.slice A n c) at_ (vr 0 0 (xs.drop at_))):=by
  have hxl:xs.length=n:=hB.1;subst hxl;have HP:=zh hp;have H:=zh h;have HB:=zh hB;clear hp h hB;generalize hR:vr 0 0 (xs.drop at_)=R at*;have HR:=zh hR;clear hR;go_enter Tryz.func116,Tryz.ntmps116
  go_wp2
  go_step3
  go_wp2
  go_step3
  go_wp2
  go_loopw [5,6] (fun nv sv wr=>VRel w xs at_ R nv sv wr) (fun _ sv _=>10-(intOf sv).toNat)
  case atStart=>exact⟨0,0,by omega,by omega,rfl,rfl,by decide,HR.out,zxr _⟩
  case round=>
    obtain⟨size,acc,hs,hat2,rfl,rfl,hacc,hvr,hE⟩:=hrel;have HVR:=zh hvr;have HE:=zh hE;have HAC:=zh hacc;clear hvr hE hacc;have HRW:=zh (H.out.ext HE.out);have HRD:=zh (HRW.out.ext (zxd (zxr _)));obtain⟨c0,c1,c2,f1,f2⟩:=HRW.out.cells;have p0:=kc HE.out HP.out;have i1:(0:Int)≤(size:Int):=by omega
    have i2:(size:Int)≤9:=by omega
    have i3:(at_:Int)+(size:Int)≤(xs.length:Int):=by omega
    have HWR:Hid (IntKind.i64.wrap ((at_:Int)+(size:Int))=(at_:Int)+(size:Int)):=zh (IntWalk.i64_in _ (by omega));by_cases hge:at_+size<xs.length
    · have hge2:(at_:Int)+(size:Int)<(xs.length:Int):=by omega
      have hi0:(0:Int)≤(at_:Int)+(size:Int):=by omega
      have hidx:((at_:Int)+(size:Int)).toNat=at_+size:=by omega
      obtain⟨b,o,rfl,_,hc⟩:=(HB.out.ext HE.out).2.2 (by omega);have cb0:wr.cell? ⟨b,o+(at_+size),none⟩=some (.int .u8 (xs.getD (at_+size) 0:Nat)):=hc _ hge;clear hc;have hcb:=HB.out.2.1 (at_+size);have hd:xs.drop (at_+size)=xs.getD (at_+size) 0::xs.drop (at_+size+1):=by
        rw[zw20 hge,zw5,zw6 hge];rfl
      have HV2:Hid _:=zh (hd▸HVR.out);generalize xs.getD (at_+size) 0=cb at*;have hcb2:(cb:Int)<256:=by omega
      clear hd;obtain⟨z,hz1,hz2,hz3⟩:=or_val acc size cb hs HAC.out hcb;have HZ1:=zh hz1;have HZ3:=zh hz3;clear hz1 hz3;go_wp2_with fail;have hw:=HWR.out
      (refine wp_still (by kernel_rfl) (by kernel_rfl) ?_;repeat still_step);refine wpStill_nil ?_;clear hw;go_wp2_with fail;have hw:=HWR.out
      (refine wp_still (by kernel_rfl) (by kernel_rfl) ?_;repeat still_step);refine wpStill_nil ?_;clear hw;go_wp2_with fail
      all_goals clear hz2
      all_goals first
        | (((with_reducible refine(fail0_70 _ pb g _ at_ 4 (kc (zxd (zxd (zxr wr))) p0) (HRD.out.ext (zxd (zxr _)))).mono ?_));(rintro e w3 ⟨rfl,hE3⟩);
           (have hR2:R= .form:=by
              have hf:(size=9∧1<cb)∨(0<size∧cb=0):=by
                first
                | (left;omega)
                | (right;have h0:((cb:Int)==0)=true:=by assumption
                   have:=eq_of_beq h0;omega)
              have:=HV2.out;rw[vr,if_pos hf]at this;exact this.symm);
           (have HR2:=zh hR2;clear hR2);
           (obtain⟨d0,d1,d2,g1,g2⟩:=hE3.1.cells);
           (have HE3:=zh hE3;clear hE3);
           go_wp2_with fail;
           (try rw[Exit.noGoto_ret]);
           go_ret;
           exact⟨z,size+1,4,rfl,HZ1.out,(((H.out.eff HE.out).ext (zxd (zxd (zxr _)))).trans HE3.out).trans (HE3.out.1.setAt' (at_+(size+1)) (by omega)),by rw[HR2.out]⟩)
        | (go_roundw
           case rel=>
             have hnf:¬((size=9∧1<cb)∨(0<size∧cb=0)):=by
               first
               | omega
               | (have h0:((cb:Int)==0)=false:=by assumption
                  have:=ne_of_beq_false h0;omega)
             have h128:¬cb<128:=by omega
             have h8:size≤8:=by omega
             have hz:=HZ3.out (.inl h8);rw[show cb%128=cb-128 from by omega]at hz;have hv:=HV2.out;rw[vr,if_neg hnf,if_neg h128,←hz]at hv;have hlt:z<128 ^(size+1):=by
               have ha:=HAC.out;rw[Nat.pow_succ,hz];have:(cb-128)*128 ^size≤127*128 ^size:=Nat.mul_le_mul (by omega) (zw8 _);omega
             exact⟨size+1,z,by omega,by omega,rfl,by go_num,hlt,by rw[←Nat.add_assoc];exact hv,zxd (zxd HE.out)⟩
           case measure=>simp[intOf];omega)
        | ((have hR2 : R = .ok z (size + 1) := by
              have hnf:¬((size=9∧1<cb)∨(0<size∧cb=0)):=by
                first
                | omega
                | (have h0:((cb:Int)==0)=false:=by assumption
                   have:=ne_of_beq_false h0;omega)
              have h128:cb<128:=by omega
              have hz:=HZ3.out (by omega);rw[Nat.mod_eq_of_lt h128]at hz;have hv:=HV2.out;rw[vr,if_neg hnf,if_pos h128,←hz]at hv;exact hv.symm);
           (have HR2:=zh hR2;clear hR2);
           (try rw[Exit.noGoto_ret]);
           go_ret;
           exact⟨z,size+1,0,rfl,HZ1.out,((H.out.eff HE.out).ext (zxd (zxd (zxr _)))).trans ((HRD.out.ext (zxd (zxr _))).setAt' (at_+(size+1)) (by omega)),by rw[HR2.out];exact⟨rfl,rfl,rfl⟩⟩)
    · have hge2:¬(at_:Int)+(size:Int)<(xs.length:Int):=by omega
      have hR2:R= .short:=by
        have:=HVR.out;rw[zw21 (by omega)]at this;exact this.symm
      have HR2:=zh hR2;clear hR2;go_wp2_with fail;have hw:=HWR.out
      (refine wp_still (by kernel_rfl) (by kernel_rfl) ?_;repeat still_step);refine wpStill_nil ?_;clear hw;go_wp2_with fail;refine(fail0_70 _ pb g _ at_ 3 (kc (zxd (zxr wr)) p0) HRD.out).mono ?_;rintro e w3 ⟨rfl,hE3⟩;obtain⟨d0,d1,d2,g1,g2⟩:=hE3.1.cells;have HE3:=zh hE3;clear hE3;go_wp2_with fail
      try rw[Exit.noGoto_ret]
      go_ret;have HAL:acc<18446744073709551616:=by
        have h1:=HAC.out;have h2:128 ^size≤128 ^9:=Nat.pow_le_pow_right (by omega) hs;have h3:(128:Nat) ^9=9223372036854775808:=by decide
        omega
      exact⟨acc,size,3,rfl,HAL,((H.out.eff HE.out).ext (zxd (zxr _))).trans (HE3.out.trans (HE3.out.1.setAt' (at_+size) (by omega))),by rw[HR2.out]⟩
theorem piece_short_70 (pb g n c at_ m : Nat) (A : Option Addr) (xs : List Nat) (w : World) (hp : w.cell? ⟨pb, 0, none⟩ = some (.pointer (some ⟨g, 0, none⟩))) (h : Rdr w g (.slice A n c) at_ 0) (hat : at_ ≤ n) (hn : n ≤ 4000000000) (hm : n - at_ < m) :
    Calls Tryz.prog 141 #[.pointer (some ⟨g,0,none⟩),.int .u64 (m:Int),.func (.func 149) #[] #[.pointer (some ⟨pb,0,none⟩)]] w fun e w'=>e= .returned (.slice none 0 0)∧Eff w w' g (.slice A n c) at_ 3:=by
  obtain⟨c0,c1,c2,f1,f2⟩:=h.cells;have HP:=zh (kc (zxd (zxr w)) hp);have H:=zh h;clear hp h;have HRD:=zh (H.out.ext (zxd (zxr _)));obtain⟨L,hL⟩:∃L:Nat,L=n-at_:=⟨_,rfl⟩;have hLm:(L:Int)<(m:Int):=by omega
  have HW1:Hid (IntKind.i64.wrap ((n:Int)-(at_:Int))=(L:Int)):=zh (by rw[IntWalk.i64_in _ (by omega)];omega);have HW2:Hid (IntKind.u64.wrap (L:Int)=(L:Int)):=zh (by rw[IntKind.wrap_u64];omega);clear hL;go_enter Tryz.func141,Tryz.ntmps141;go_wp2_with fail;have hw1:=HW1.out;have hw2:=HW2.out;refine wp_still (by kernel_rfl) (by kernel_rfl) ?_
  repeat still_step
  refine wpStill_nil ?_;clear hw1 hw2;go_wp2_with fail;refine(fail0_70 _ pb g _ at_ 3 HP.out HRD.out).mono ?_;rintro e w3 ⟨rfl,hE3⟩;have HE3:=zh hE3;clear hE3;go_wp2_with fail;go_ret;exact⟨rfl,(H.out.eff (zxd (zxr _))).trans HE3.out⟩
inductive TR where
 | bad (err:Int)
 | ok (ys:List Nat) (k:Nat)
def tr (rest:List Nat) (most:Int):TR:=
 match vr 0 0 rest with
 | .short=> .bad 3
 | .form=> .bad 4
 | .ok z k=>if most<0∨most<(z:Int)then .bad 4 else if rest.length-k<z then .bad 3 else .ok ((rest.drop k).take z) (k+z)
def TPhi (at_:Nat) (R:TR) (v:Value) (a':Nat) (err:Int) (w':World):Prop:=
 match R with
 | .bad f=>err=f
 | .ok ys k=>v= .string (strOf ys)∧a'=at_+k∧err=0
theorem bad_of {at_:Nat} {f:Int} {v:Value} {a':Nat} {w':World} {R:TR} (h:R= .bad f):TPhi at_ R v a' f w':=by subst h;rfl
theorem ok_of {at_:Nat} {ys:List Nat} {k:Nat} {v:Value} {a':Nat} {w':World} {R:TR} (h:R= .ok ys k) (hv:v= .string (strOf ys)) (ha:a'=at_+k):TPhi at_ R v a' 0 w':=by subst h;exact⟨hv,ha,rfl⟩
theorem text1 (pb rb mb g n c at_:Nat) (most:Int) (A:Option Addr) (xs:List Nat) (w:World) (hp:w.cell? ⟨pb,0,none⟩=some (.pointer (some ⟨g,0,none⟩))) (hr:w.cell? ⟨rb,0,none⟩=some (.pointer (some ⟨g,0,none⟩))) (hmo:w.cell? ⟨mb,0,none⟩=some (.int .i64 most))
  (hpg:pb≠g) (hrg:rb≠g) (hmg:mb≠g) (hm1: -9223372036854775808≤most) (hm2:most≤9223372036854775807)
  (h:Rdr w g (.slice A n c) at_ 0) (hB:RB w g A n c xs) (hat:at_≤n) (hn:n≤4000000000):
  Calls Tryz.prog 140 #[.func (.func 149) #[] #[.pointer (some ⟨pb,0,none⟩)],.pointer (some ⟨rb,0,none⟩),.pointer (some ⟨mb,0,none⟩)] w (CP w g (.slice A n c) (TPhi at_ (tr (xs.drop at_) most))):=by
 have HC:=zh (varint_70 pb g n c at_ A xs w hp h hB.1 hat hn);have HP:=zh hp;have HR:=zh hr;have HMO:=zh hmo;have H:=zh h;have HB:=zh hB;clear hp hmo h hB;have hxl:(xs.drop at_).length=n-at_:=by rw[zw1,HB.out.1.1]
 have hsm:∀c∈xs.drop at_,c<256:=fun c hc=>mem_small HB.out.1.2.1 c (List.mem_of_mem_drop hc);generalize hV:vr 0 0 (xs.drop at_)=V at*;have HV:=zh hV;clear hV;have HXL:=zh hxl;have HSM:=zh hsm;clear hxl hsm;go_enter Tryz.func140,Tryz.ntmps140;go_wp2_with fail;refine(HC.out).mono ?_;rintro e w3 ⟨z,j,err,rfl,hz,hE3,hm⟩;have p3:=hE3.2.cell HP.out (by simpa using hpg);have r3:=hE3.2.cell HR.out (by simpa using hrg);have m3:=hE3.2.cell HMO.out (by simpa using hmg);obtain⟨d0,d1,d2,f1,f2⟩:=hE3.1.cells;have HE3:=zh hE3;clear hE3
 cases V with
 | short=>
  obtain rfl:err=3:=hm;clear hz;go_wp2_with fail;go_ret;exact⟨_,_,3,rfl,HE3.out,bad_of (by unfold tr;rw[HV.out])⟩
 | form=>
  obtain rfl:err=4:=hm;clear hz;go_wp2_with fail;go_ret;exact⟨_,_,4,rfl,HE3.out,bad_of (by unfold tr;rw[HV.out])⟩
 | ok v k=>
  obtain⟨rfl,rfl,rfl⟩:=hm;have hk:=(vr_ok HSM.out HV.out).2.2.2;rw[HXL.out]at hk;by_cases hneg:most<0
  ·clear hz hm2
   go_wp2_with fail;refine(fail0_70 _ pb g _ (at_+j) 4 p3 HE3.out.1).mono ?_;rintro e w4 ⟨rfl,hE4⟩;have HE4:=zh hE4;clear hE4;go_wp2_with fail;go_ret;exact⟨_,_,4,rfl,HE3.out.trans HE4.out,bad_of (by unfold tr;rw[HV.out];simp only[if_pos (Or.inl hneg)])⟩
  ·obtain⟨mo,rfl⟩:∃mo:Nat,most=(mo:Int):=⟨most.toNat,by omega⟩
   have hmo2:(mo:Int)≤9223372036854775807:=hm2;by_cases hbig:mo<z
   ·have hbig2:(mo:Int)<(z:Int):=by omega
    have HW:Hid (IntKind.u64.wrap (mo:Int)=(mo:Int)):=zh (by rw[IntKind.wrap_u64];omega);have HBG:Hid ((mo:Int)<0∨(mo:Int)<(z:Int)):=zh (.inr hbig2);clear hz;go_wp2_with fail;refine(fail0_70 _ pb g _ (at_+j) 4 p3 HE3.out.1).mono ?_;rintro e w4 ⟨rfl,hE4⟩;have HE4:=zh hE4;clear hE4;go_wp2_with fail;go_ret;exact⟨_,_,4,rfl,HE3.out.trans HE4.out,bad_of (by unfold tr;rw[HV.out];simp only[if_pos HBG.out])⟩
   ·have hbig2:¬(mo:Int)<(z:Int):=by omega
    have HNB:Hid (¬((mo:Int)<0∨(mo:Int)<(z:Int))):=zh (by omega);have HB3:=zh (HB.out.eff HE3.out.2);clear hz;by_cases hsh:n-(at_+j)<z
    ·have HPC:=zh (piece_short_70 pb g n c (at_+j) z A xs w3 p3 HE3.out.1 (by omega) hn hsh)
     have HSH:Hid ((xs.drop at_).length-j<z):=zh (by rw[HXL.out];omega);go_wp2_with fail;refine(HPC.out).mono ?_;rintro e w4 ⟨rfl,hE4⟩;have HE4:=zh hE4;clear hE4;have hcv:=Bs.conv (P:=Tryz.prog) (Bs.none w4 none) 48 5 9 Tryz.underlying48 Tryz.underlying5 Tryz.underlying9 0;go_wp2_with fail;go_ret;exact⟨_,_,3,rfl,HE3.out.trans HE4.out,bad_of (by unfold tr;rw[HV.out];simp only[if_neg HNB.out,if_pos HSH.out])⟩
    ·have HPC:=zh (piece_ok g n c (at_+j) z A (.func (.func 149) #[] #[.pointer (some ⟨pb,0,none⟩)]) xs w3 HE3.out.1 HB3.out (by omega) hn)
     have HSH:Hid (¬(xs.drop at_).length-j<z):=zh (by rw[HXL.out];omega);have HDD:Hid ((xs.drop (at_+j)).take z=((xs.drop at_).drop j).take z):=zh (by rw[zw31]);go_wp2_with fail;refine(HPC.out).mono ?_;rintro e w4 ⟨A',c',rfl,hc1,hc2,hc3,hB4,hE4⟩;have hcv:=hB4.conv (P:=Tryz.prog) 48 5 9 Tryz.underlying48 Tryz.underlying5 Tryz.underlying9 c';have HE4:=zh hE4;clear hE4 hB4 hc3;generalize hS:strOf ((xs.drop (at_+j)).take z)=S at*;have HS:=zh hS;clear hS;go_wp2_with fail;go_ret;exact⟨_,_,0,rfl,HE3.out.trans HE4.out,ok_of (ys:=((xs.drop at_).drop j).take z) (k:=j+z) (by unfold tr;rw[HV.out];simp only[if_neg HNB.out,if_neg HSH.out]) (by rw[←HDD.out,HS.out];rfl) (by omega)⟩
def TPost (w:World) (g:Nat) (s:Value) (at_:Nat) (R:TR) (e:Ending) (w':World):Prop:=
 match R with
 | .bad f=>e= .returned (.string ⟨#[]⟩)∧Eff w w' g s at_ f
 | .ok ys k=>e= .returned (.string (strOf ys))∧Eff w w' g s (at_+k) 0
theorem tr_bad {rest:List Nat} {most:Int} {f:Int} (h:tr rest most= .bad f):f≠0:=by
 unfold tr at h
 split at h
 ·cases h;decide
 ·cases h;decide
 ·split at h
  ·cases h;decide
  ·split at h
   ·cases h;decide
   ·cases h
theorem tpost_of {w w':World} {g:Nat} {s:Value} {at_:Nat} {R:TR} (hR:∀f,R= .bad f→f≠0) {e:Ending} (h:RP w g s (.string ⟨#[]⟩) at_ (TPhi at_ R) e w'):TPost w g s at_ R e w':=by
 rcases h with ⟨v,a',rfl,hE,hm⟩ | ⟨err,hne,rfl,hE,v0,a0,w0,hm⟩
 ·cases R with
  | bad f=>exact absurd hm.symm (hR f rfl)
  | ok ys k=>obtain⟨rfl,rfl,_⟩:=hm;exact⟨rfl,hE⟩
 ·cases R with
  | bad f=>obtain rfl:err=f:=hm;exact⟨rfl,hE⟩
  | ok ys k=>exact absurd hm.2.2 hne
theorem text (g n c at_:Nat) (most:Int) (hm1: -9223372036854775808≤most) (hm2:most≤9223372036854775807) (A:Option Addr) (xs:List Nat) (w:World) (h:Rdr w g (.slice A n c) at_ 0) (hB:RB w g A n c xs) (hat:at_≤n) (hn:n≤4000000000):
  Calls Tryz.prog 118 #[.pointer (some ⟨g,0,none⟩),.int .i64 most] w (TPost w g (.slice A n c) at_ (tr (xs.drop at_) most)):=by
 have hgl:g<w.heap.size:=Blk.lt h;have ha:=zxa (zxr w) (.cells #[.pointer (some ⟨g,0,none⟩)] 145);have hb:=zxa (zxr (w.alloc (.cells #[.pointer (some ⟨g,0,none⟩)] 145))) (.cells #[.int .i64 most] 3);have hc:=zxa (zxr ((w.alloc (.cells #[.pointer (some ⟨g,0,none⟩)] 145)).alloc (.cells #[.int .i64 most] 3))) (.cells #[.pointer (some ⟨g,0,none⟩)] 145);have HC:=zh (reading_70 g at_ (.slice A n c) (.pointer (some ⟨w.heap.size,0,none⟩)) (.pointer (some ⟨w.heap.size+1,0,none⟩)) (TPhi at_ (tr (xs.drop at_) most)) ((w.alloc (.cells #[.pointer (some ⟨g,0,none⟩)] 145)).alloc (.cells #[.int .i64 most] 3)) ((h.ext ha).ext hb)
  (text1 ((w.alloc (.cells #[.pointer (some ⟨g,0,none⟩)] 145)).alloc (.cells #[.int .i64 most] 3)).heap.size w.heap.size (w.heap.size+1) g n c at_ most A xs _ (by rw[World.cell?_alloc_new];rfl) (kc hc (kc hb (by rw[World.cell?_alloc_new];rfl))) (kc hc (by
   have:=World.cell?_alloc_new (w.alloc (.cells #[.pointer (some ⟨g,0,none⟩)] 145)) #[.int .i64 most] 3 0;rw[zw22]at this;rw[this];rfl)) (by simp;omega) (by omega) (by omega) hm1 hm2 (((h.ext ha).ext hb).ext hc) (((hB.eff (gb_ext ha _)).eff (gb_ext hb _)).eff (gb_ext hc _)) hat hn))
 have HBD:=zh (fun f (hf:tr (xs.drop at_) most= .bad f)=>tr_bad hf);clear h hB ha hb hc hm1 hm2;generalize tr (xs.drop at_) most=R at*;go_enter Tryz.func118,Tryz.ntmps118;go_wp2_with fail;refine(HC.out).mono ?_;intro e w3 hq;have hp:=tpost_of HBD.out (rp_alloc _ (rp_alloc _ hq));clear hq;have HP:=zh hp
 cases R with
 | bad f=>
  obtain⟨rfl,hE⟩:=hp;clear hE;go_wp2_with fail;go_ret;exact HP.out
 | ok ys k=>
  obtain⟨rfl,hE⟩:=hp;clear hE;generalize hS:strOf ys=S at*;go_wp2_with fail;go_ret;subst hS;exact HP.out
end Go.Proofs.YtidnboeihkeljaaGreatDoor.Wire
