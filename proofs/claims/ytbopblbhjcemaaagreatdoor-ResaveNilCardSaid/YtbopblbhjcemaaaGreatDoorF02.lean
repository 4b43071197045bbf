
import Derived.Deep.RegionHeld3
import Derived.Laws.CopyOwn
import Derived.Lib.BufferWrite
import Derived.LoopNIn
import Derived.OwnWalkIn
import Derived.RangeFuncBound
import Derived.RangeFuncNested
import Derived.Shelf.RegionOpen
import Derived.Sort.CutIn
import Derived.Test.YtbopblbhjcemaaaGreatDoorF01
import Derived.Lib.SlBytesConst
set_option maxHeartbeats 16000000
set_option maxRecDepth 100000
set_option linter.all false
open Go.ChangeShapes Go.WideShapes Go.ChangeAt Go.RowKit
namespace Go.Proofs.YtbopblbhjcemaaaGreatDoor.Com
open Wire
theorem eff_app {w w3 w5:World} {g i:Nat} {s:Value} {e:Int} {t:TypeId} {size n:Nat} {v:Value} {xs:List Value} (hE:Eff w w3 g s i e) (hO:w3.ownsRow w.heap.size t size v n xs) (hg:g<w.heap.size) (hgr:w3.grownBy w5 v.ownBlock):Eff w w5 g s i e:=by
 have hne:∀k,k<w.heap.size→some k≠v.ownBlock:=fun k hk e=>by have:=own_ge hO k e.symm;omega
 refine⟨(hgr.block g (zw9 hg hE.2.size) (hne g hg)).trans hE.1,⟨hgr.os.trans hE.2.os,hgr.tape.trans hE.2.tape,hgr.output.trans hE.2.output,zw10 hE.2.size hgr.size,fun k hk hkg=>?_⟩⟩;exact(hgr.block k (zw9 hk hE.2.size) (hne k hk)).trans (hE.2.block k hk hkg)
theorem own_low {w:World} {base base':Nat} {e:TypeId} {size n:Nat} {v:Value} {xs:List Value} (h:w.ownsRow base e size v n xs) (hb:base'≤base):w.ownsRow base' e size v n xs:=by
 refine⟨h.1,?_⟩;rcases h.2 with h | ⟨g,cap,cur,h1,h2,h3⟩
 ·exact .inl h
 ·exact .inr ⟨g,cap,cur,h1,zw10 hb h2,h3⟩
theorem str_ext (X:ByteArray) (j i:Nat):X.extract j i=strOf (((natsOf X).drop j).take (i-j)):=by
 have h1:=strOf_nats (X.extract j i);rw[←h1]
 congr 1
 unfold natsOf;rw[ByteArray.data_extract,Array.toList_extract,List.extract];simp[List.map_take,List.map_drop]
theorem natsOf_get (s:ByteArray) (k:Nat) (h:k<s.size):(natsOf s).getD k 0=s[k].toNat:=by
 unfold natsOf;rw[zw5,List.getElem?_map,zw6 (by rw[Array.length_toList];exact h)];rfl
theorem conv8 {w:World} {A:Option Addr} {n:Nat} {xs:List Nat} (h:Bs w A n xs) (c:Nat):(convert 22 9 (.slice A n c)).run Tryz.prog w= .ok (.string (strOf xs)) w:=
 h.conv (P:=Tryz.prog) 22 5 9 Tryz.underlying22 Tryz.underlying5 Tryz.underlying9 c
theorem nats_ext (s:ByteArray) (k:Nat):natsOf (s.extract k s.size)=(natsOf s).drop k:=by
 rw[str_ext,nats_strOf]
 ·rw[List.take_of_length_le];rw[zw1,natsOf_len];exact zw8 _
 ·exact small_mem (fun c hc=>mem_small (natsOf_small s) c (List.mem_of_mem_drop (List.mem_of_mem_take hc)))
end Go.Proofs.YtbopblbhjcemaaaGreatDoor.Com
namespace Go.Proofs.YtbopblbhjcemaaaGreatDoor
def Plainly (K:Act→World→Prop):Exit→Act→World→Prop
 | .normal,a,w=>K a w
 | _,_,_=>False
def noDefer (ops:Array Oper):Bool:=ops.all fun o=>match o.op with | .defer _=>false | _=>true
section
variable {n : Nat} {P : Program} {l : Nat} {ops : Array Oper} {K : Act → World → Prop}
theorem wanted_append {w:World} {o:Oper} {a:Act} {K':Act→World→Prop} {Q:Exit→Act→World→Prop} {y:Nat→Option Bool} {X:Prop} (hgd:o.guard=none) (s x:Operand) (t tx:TypeId)
  (ho:o.op= .call {callee:= .builtin .append,args:= #[s,x],argTypes:= #[t,tx]}) (vs vx:Value) (hs:a.eval s=vs) (hx:a.eval x=vx) {v':Value} {w':World}
  (hr:(Builtin.append_ #[t,tx] o.type #[vs,vx]).run P w= .ok v' w') (h:K' (a.put o.dst v') w'):if Region.wanted o y=true then Oper.wp P o a w K' Q else X:=by
 rw[if_pos (by simp[Region.wanted,hgd])];unfold Oper.wp execOp;simp only[ho,resolve,invoke,builtin,Sem.run_bind,Sem.run_pure,Result.andThen_ok,List.map_toArray,List.map_cons,List.map_nil,hs,hx,hr];exact h
end
end Go.Proofs.YtbopblbhjcemaaaGreatDoor
namespace Go.Proofs.YtbopblbhjcemaaaGreatDoor.Wire
theorem fail0_70 (w : World) (pb g : Nat) (s : Value) (i : Nat) (f : Int) (hp : w.cell? ⟨pb, 0, none⟩ = some (.pointer (some ⟨g, 0, none⟩))) (h : Rdr w g s i 0) :
    Calls Tryz.prog 140 #[.int .i64 f,.pointer (some ⟨pb,0,none⟩)] w fun e w'=>e= .returned (.tuple #[])∧Eff w w' g s i f:=by
  obtain⟨c0,c1,c2,f1,f2⟩:=h.cells;have H:=zh h;clear h;go_enter Tryz.func140,Tryz.ntmps140
  go_wp2
  go_end0
  exact⟨rfl,H.out.setErr f⟩
theorem varint_70 (pb g n c at_ : Nat) (A : Option Addr) (xs : List Nat) (w : World) (hp : w.cell? ⟨pb, 0, none⟩ = some (.pointer (some ⟨g, 0, none⟩))) (h : Rdr w g (.slice A n c) at_ 0) (hB : Bs w A n xs) (hat : at_ ≤ n) (hn : n ≤ 4000000000) :
    Calls Tryz.prog 100 #[.pointer (some ⟨g,0,none⟩),.func (.func 140) #[] #[.pointer (some ⟨pb,0,none⟩)]] w (VPost w g (.slice A n c) at_ (vr 0 0 (xs.drop at_))):=by
  have hxl:xs.length=n:=hB.1;subst hxl;have HP:=zh hp;have H:=zh h;have HB:=zh hB;clear hp h hB;generalize hR:vr 0 0 (xs.drop at_)=R at*;have HR:=zh hR;clear hR;go_enter Tryz.func100,Tryz.ntmps100
  go_wp2
  go_step3
  go_wp2
  go_step3
  go_wp2
  go_loopw [5,6] (fun nv sv wr=>VRel w xs at_ R nv sv wr) (fun _ sv _=>10-(intOf sv).toNat)
  case atStart=>exact⟨0,0,by omega,by omega,rfl,rfl,by decide,HR.out,zxr _⟩
  case round=>
    obtain⟨size,acc,hs,hat2,rfl,rfl,hacc,hvr,hE⟩:=hrel;have HVR:=zh hvr;have HE:=zh hE;have HAC:=zh hacc;clear hvr hE hacc;have HRW:=zh (H.out.ext HE.out);have HRD:=zh (HRW.out.ext (zxd (zxr _)));obtain⟨c0,c1,c2,f1,f2⟩:=HRW.out.cells;have p0:=kc HE.out HP.out;have i1:(0:Int)≤(size:Int):=by omega
    have i2:(size:Int)≤9:=by omega
    have i3:(at_:Int)+(size:Int)≤(xs.length:Int):=by omega
    have HWR:Hid (IntKind.i64.wrap ((at_:Int)+(size:Int))=(at_:Int)+(size:Int)):=zh (IntWalk.i64_in _ (by omega));by_cases hge:at_+size<xs.length
    · have hge2:(at_:Int)+(size:Int)<(xs.length:Int):=by omega
      have hi0:(0:Int)≤(at_:Int)+(size:Int):=by omega
      have hidx:((at_:Int)+(size:Int)).toNat=at_+size:=by omega
      obtain⟨b,o,rfl,_,hc⟩:=(HB.out.ext HE.out).2.2 (by omega);have cb0:wr.cell? ⟨b,o+(at_+size),none⟩=some (.int .u8 (xs.getD (at_+size) 0:Nat)):=hc _ hge;clear hc;have hcb:=HB.out.2.1 (at_+size);have hd:xs.drop (at_+size)=xs.getD (at_+size) 0::xs.drop (at_+size+1):=by
        rw[zw20 hge,zw5,zw6 hge];rfl
      have HV2:Hid _:=zh (hd▸HVR.out);generalize xs.getD (at_+size) 0=cb at*;have hcb2:(cb:Int)<256:=by omega
      clear hd;obtain⟨z,hz1,hz2,hz3⟩:=or_val acc size cb hs HAC.out hcb;have HZ1:=zh hz1;have HZ3:=zh hz3;clear hz1 hz3;go_wp2_with fail;have hw:=HWR.out
      (refine wp_still (by kernel_rfl) (by kernel_rfl) ?_;repeat still_step);refine wpStill_nil ?_;clear hw;go_wp2_with fail;have hw:=HWR.out
      (refine wp_still (by kernel_rfl) (by kernel_rfl) ?_;repeat still_step);refine wpStill_nil ?_;clear hw;go_wp2_with fail
      all_goals clear hz2
      all_goals first
        | (((with_reducible refine(fail0_70 _ pb g _ at_ 4 (kc (zxd (zxd (zxr wr))) p0) (HRD.out.ext (zxd (zxr _)))).mono ?_));(rintro e w3 ⟨rfl,hE3⟩);
           (have hR2:R= .form:=by
              have hf:(size=9∧1<cb)∨(0<size∧cb=0):=by
                first
                | (left;omega)
                | (right;have h0:((cb:Int)==0)=true:=by assumption
                   have:=eq_of_beq h0;omega)
              have:=HV2.out;rw[vr,if_pos hf]at this;exact this.symm);
           (have HR2:=zh hR2;clear hR2);
           (obtain⟨d0,d1,d2,g1,g2⟩:=hE3.1.cells);
           (have HE3:=zh hE3;clear hE3);
           go_wp2_with fail;
           (try rw[Exit.noGoto_ret]);
           go_ret;
           exact⟨z,size+1,4,rfl,HZ1.out,(((H.out.eff HE.out).ext (zxd (zxd (zxr _)))).trans HE3.out).trans (HE3.out.1.setAt' (at_+(size+1)) (by omega)),by rw[HR2.out]⟩)
        | (go_roundw
           case rel=>
             have hnf:¬((size=9∧1<cb)∨(0<size∧cb=0)):=by
               first
               | omega
               | (have h0:((cb:Int)==0)=false:=by assumption
                  have:=ne_of_beq_false h0;omega)
             have h128:¬cb<128:=by omega
             have h8:size≤8:=by omega
             have hz:=HZ3.out (.inl h8);rw[show cb%128=cb-128 from by omega]at hz;have hv:=HV2.out;rw[vr,if_neg hnf,if_neg h128,←hz]at hv;have hlt:z<128 ^(size+1):=by
               have ha:=HAC.out;rw[Nat.pow_succ,hz];have:(cb-128)*128 ^size≤127*128 ^size:=Nat.mul_le_mul (by omega) (zw8 _);omega
             exact⟨size+1,z,by omega,by omega,rfl,by go_num,hlt,by rw[←Nat.add_assoc];exact hv,zxd (zxd HE.out)⟩
           case measure=>simp[intOf];omega)
        | ((have hR2 : R = .ok z (size + 1) := by
              have hnf:¬((size=9∧1<cb)∨(0<size∧cb=0)):=by
                first
                | omega
                | (have h0:((cb:Int)==0)=false:=by assumption
                   have:=ne_of_beq_false h0;omega)
              have h128:cb<128:=by omega
              have hz:=HZ3.out (by omega);rw[Nat.mod_eq_of_lt h128]at hz;have hv:=HV2.out;rw[vr,if_neg hnf,if_pos h128,←hz]at hv;exact hv.symm);
           (have HR2:=zh hR2;clear hR2);
           (try rw[Exit.noGoto_ret]);
           go_ret;
           exact⟨z,size+1,0,rfl,HZ1.out,((H.out.eff HE.out).ext (zxd (zxd (zxr _)))).trans ((HRD.out.ext (zxd (zxr _))).setAt' (at_+(size+1)) (by omega)),by rw[HR2.out];exact⟨rfl,rfl,rfl⟩⟩)
    · have hge2:¬(at_:Int)+(size:Int)<(xs.length:Int):=by omega
      have hR2:R= .short:=by
        have:=HVR.out;rw[zw21 (by omega)]at this;exact this.symm
      have HR2:=zh hR2;clear hR2;go_wp2_with fail;have hw:=HWR.out
      (refine wp_still (by kernel_rfl) (by kernel_rfl) ?_;repeat still_step);refine wpStill_nil ?_;clear hw;go_wp2_with fail;refine(fail0_70 _ pb g _ at_ 3 (kc (zxd (zxr wr)) p0) HRD.out).mono ?_;rintro e w3 ⟨rfl,hE3⟩;obtain⟨d0,d1,d2,g1,g2⟩:=hE3.1.cells;have HE3:=zh hE3;clear hE3;go_wp2_with fail
      try rw[Exit.noGoto_ret]
      go_ret;have HAL:acc<18446744073709551616:=by
        have h1:=HAC.out;have h2:128 ^size≤128 ^9:=Nat.pow_le_pow_right (by omega) hs;have h3:(128:Nat) ^9=9223372036854775808:=by decide
        omega
      exact⟨acc,size,3,rfl,HAL,((H.out.eff HE.out).ext (zxd (zxr _))).trans (HE3.out.trans (HE3.out.1.setAt' (at_+size) (by omega))),by rw[HR2.out]⟩
theorem piece_short_70 (pb g n c at_ m : Nat) (A : Option Addr) (xs : List Nat) (w : World) (hp : w.cell? ⟨pb, 0, none⟩ = some (.pointer (some ⟨g, 0, none⟩))) (h : Rdr w g (.slice A n c) at_ 0) (hat : at_ ≤ n) (hn : n ≤ 4000000000) (hm : n - at_ < m) :
    Calls Tryz.prog 124 #[.pointer (some ⟨g,0,none⟩),.int .u64 (m:Int),.func (.func 140) #[] #[.pointer (some ⟨pb,0,none⟩)]] w fun e w'=>e= .returned (.slice none 0 0)∧Eff w w' g (.slice A n c) at_ 3:=by
  obtain⟨c0,c1,c2,f1,f2⟩:=h.cells;have HP:=zh (kc (zxd (zxr w)) hp);have H:=zh h;clear hp h;have HRD:=zh (H.out.ext (zxd (zxr _)));obtain⟨L,hL⟩:∃L:Nat,L=n-at_:=⟨_,rfl⟩;have hLm:(L:Int)<(m:Int):=by omega
  have HW1:Hid (IntKind.i64.wrap ((n:Int)-(at_:Int))=(L:Int)):=zh (by rw[IntWalk.i64_in _ (by omega)];omega);have HW2:Hid (IntKind.u64.wrap (L:Int)=(L:Int)):=zh (by rw[IntKind.wrap_u64];omega);clear hL;go_enter Tryz.func124,Tryz.ntmps124;go_wp2_with fail;have hw1:=HW1.out;have hw2:=HW2.out;refine wp_still (by kernel_rfl) (by kernel_rfl) ?_
  repeat still_step
  refine wpStill_nil ?_;clear hw1 hw2;go_wp2_with fail;refine(fail0_70 _ pb g _ at_ 3 HP.out HRD.out).mono ?_;rintro e w3 ⟨rfl,hE3⟩;have HE3:=zh hE3;clear hE3;go_wp2_with fail;go_ret;exact⟨rfl,(H.out.eff (zxd (zxr _))).trans HE3.out⟩
theorem reading_70 (g at_:Nat) (s:Value) (q0:Value) (q1:Value) (Φ:Value→Nat→Int→World→Prop) (w:World) (h:Rdr w g s at_ 0)
  (hC:Calls Tryz.prog 126 #[.func (.func 140) #[] #[.pointer (some ⟨w.heap.size,0,none⟩)],q0,q1] (w.alloc (.cells #[.pointer (some ⟨g,0,none⟩)] 133)) (CP (w.alloc (.cells #[.pointer (some ⟨g,0,none⟩)] 133)) g s Φ)):
  Calls Tryz.prog 125 #[.pointer (some ⟨g,0,none⟩),.func (.func 126) #[] #[q0,q1]] w (RP w g s (.string ⟨#[]⟩) at_ Φ):=by
 have hne:w.heap.size≠g:=by have:=Blk.lt h;omega
 have hgl:g<w.heap.size:=Blk.lt h;have HE0:=zh (zxa (zxr w) (.cells #[.pointer (some ⟨g,0,none⟩)] 133));obtain⟨c0,c1,c2,f1,f2⟩:=h.cells;have H:=zh h;have HC:=zh hC;clear h hC;go_enter Tryz.func125,Tryz.ntmps125;go_wp2_with fail;refine(HC.out).mono ?_;rintro e w3 ⟨v,a',err,rfl,hE3,hm⟩;obtain⟨d0,d1,d2,g1,g2⟩:=hE3.1.cells;have p3:w3.cell? ⟨w.heap.size,0,none⟩=some (.pointer (some ⟨g,0,none⟩)):=hE3.2.cell (a:=⟨w.heap.size,0,none⟩) (by simp) (by simpa using hne);have HE3:=zh hE3;have HM:=zh hm;clear hE3 hm;have HEF:Hid (Eff w w3 g s a' err):=zh ((H.out.eff HE0.out).trans HE3.out);by_cases he:err=0
 ·subst he
  go_wp2_with fail;go_ret;exact .inl ⟨v,a',rfl,HEF.out,HM.out⟩
 ·have hb:(err==0)=false:=zw12.2 he
  have HNE:=zh he;clear he;go_wp2_with fail;go_ret;exact .inr ⟨err,HNE.out,rfl,HEF.out.trans (HEF.out.1.setAt' at_ rfl),_,_,_,HM.out⟩
theorem reading_err_70 (g at_:Nat) (s F:Value) (e0:Int) (w:World) (h:Rdr w g s at_ e0) (he:(e0==0)=false):
  Calls Tryz.prog 125 #[.pointer (some ⟨g,0,none⟩),F] w fun e w'=>e= .returned (.string ⟨#[]⟩)∧Ext w w':=by
 have hne:w.heap.size≠g:=by have:=Blk.lt h;omega
 have hgl:g<w.heap.size:=Blk.lt h;obtain⟨c0,c1,c2,f1,f2⟩:=h.cells;clear h;go_enter Tryz.func125,Tryz.ntmps125;go_wp2_with fail;go_ret;exact⟨rfl,by repeat (first | exact zxr _ | refine zxd ?_ | refine zxa ?_ _)⟩
inductive TR where
 | bad (err:Int)
 | ok (ys:List Nat) (k:Nat)
def tr (rest:List Nat) (most:Int):TR:=
 match vr 0 0 rest with
 | .short=> .bad 3
 | .form=> .bad 4
 | .ok z k=>if most<0∨most<(z:Int)then .bad 4 else if rest.length-k<z then .bad 3 else .ok ((rest.drop k).take z) (k+z)
def TPhi (at_:Nat) (R:TR) (v:Value) (a':Nat) (err:Int) (w':World):Prop:=
 match R with
 | .bad f=>err=f
 | .ok ys k=>v= .string (strOf ys)∧a'=at_+k∧err=0
theorem bad_of {at_:Nat} {f:Int} {v:Value} {a':Nat} {w':World} {R:TR} (h:R= .bad f):TPhi at_ R v a' f w':=by subst h;rfl
theorem ok_of {at_:Nat} {ys:List Nat} {k:Nat} {v:Value} {a':Nat} {w':World} {R:TR} (h:R= .ok ys k) (hv:v= .string (strOf ys)) (ha:a'=at_+k):TPhi at_ R v a' 0 w':=by subst h;exact⟨hv,ha,rfl⟩
theorem text1 (pb rb mb g n c at_:Nat) (most:Int) (A:Option Addr) (xs:List Nat) (w:World) (hp:w.cell? ⟨pb,0,none⟩=some (.pointer (some ⟨g,0,none⟩))) (hr:w.cell? ⟨rb,0,none⟩=some (.pointer (some ⟨g,0,none⟩))) (hmo:w.cell? ⟨mb,0,none⟩=some (.int .i64 most))
  (hpg:pb≠g) (hrg:rb≠g) (hmg:mb≠g) (hm1: -9223372036854775808≤most) (hm2:most≤9223372036854775807)
  (h:Rdr w g (.slice A n c) at_ 0) (hB:RB w g A n c xs) (hat:at_≤n) (hn:n≤4000000000):
  Calls Tryz.prog 126 #[.func (.func 140) #[] #[.pointer (some ⟨pb,0,none⟩)],.pointer (some ⟨rb,0,none⟩),.pointer (some ⟨mb,0,none⟩)] w (CP w g (.slice A n c) (TPhi at_ (tr (xs.drop at_) most))):=by
 have HC:=zh (varint_70 pb g n c at_ A xs w hp h hB.1 hat hn);have HP:=zh hp;have HR:=zh hr;have HMO:=zh hmo;have H:=zh h;have HB:=zh hB;clear hp hmo h hB;have hxl:(xs.drop at_).length=n-at_:=by rw[zw1,HB.out.1.1]
 have hsm:∀c∈xs.drop at_,c<256:=fun c hc=>mem_small HB.out.1.2.1 c (List.mem_of_mem_drop hc);generalize hV:vr 0 0 (xs.drop at_)=V at*;have HV:=zh hV;clear hV;have HXL:=zh hxl;have HSM:=zh hsm;clear hxl hsm;go_enter Tryz.func126,Tryz.ntmps126;go_wp2_with fail;refine(HC.out).mono ?_;rintro e w3 ⟨z,j,err,rfl,hz,hE3,hm⟩;have p3:=hE3.2.cell HP.out (by simpa using hpg);have r3:=hE3.2.cell HR.out (by simpa using hrg);have m3:=hE3.2.cell HMO.out (by simpa using hmg);obtain⟨d0,d1,d2,f1,f2⟩:=hE3.1.cells;have HE3:=zh hE3;clear hE3
 cases V with
 | short=>
  obtain rfl:err=3:=hm;clear hz;go_wp2_with fail;go_ret;exact⟨_,_,3,rfl,HE3.out,bad_of (by unfold tr;rw[HV.out])⟩
 | form=>
  obtain rfl:err=4:=hm;clear hz;go_wp2_with fail;go_ret;exact⟨_,_,4,rfl,HE3.out,bad_of (by unfold tr;rw[HV.out])⟩
 | ok v k=>
  obtain⟨rfl,rfl,rfl⟩:=hm;have hk:=(vr_ok HSM.out HV.out).2.2.2;rw[HXL.out]at hk;by_cases hneg:most<0
  ·clear hz hm2
   go_wp2_with fail;refine(fail0_70 _ pb g _ (at_+j) 4 p3 HE3.out.1).mono ?_;rintro e w4 ⟨rfl,hE4⟩;have HE4:=zh hE4;clear hE4;go_wp2_with fail;go_ret;exact⟨_,_,4,rfl,HE3.out.trans HE4.out,bad_of (by unfold tr;rw[HV.out];simp only[if_pos (Or.inl hneg)])⟩
  ·obtain⟨mo,rfl⟩:∃mo:Nat,most=(mo:Int):=⟨most.toNat,by omega⟩
   have hmo2:(mo:Int)≤9223372036854775807:=hm2;by_cases hbig:mo<z
   ·have hbig2:(mo:Int)<(z:Int):=by omega
    have HW:Hid (IntKind.u64.wrap (mo:Int)=(mo:Int)):=zh (by rw[IntKind.wrap_u64];omega);have HBG:Hid ((mo:Int)<0∨(mo:Int)<(z:Int)):=zh (.inr hbig2);clear hz;go_wp2_with fail;refine(fail0_70 _ pb g _ (at_+j) 4 p3 HE3.out.1).mono ?_;rintro e w4 ⟨rfl,hE4⟩;have HE4:=zh hE4;clear hE4;go_wp2_with fail;go_ret;exact⟨_,_,4,rfl,HE3.out.trans HE4.out,bad_of (by unfold tr;rw[HV.out];simp only[if_pos HBG.out])⟩
   ·have hbig2:¬(mo:Int)<(z:Int):=by omega
    have HNB:Hid (¬((mo:Int)<0∨(mo:Int)<(z:Int))):=zh (by omega);have HB3:=zh (HB.out.eff HE3.out.2);clear hz;by_cases hsh:n-(at_+j)<z
    ·have HPC:=zh (piece_short_70 pb g n c (at_+j) z A xs w3 p3 HE3.out.1 (by omega) hn hsh)
     have HSH:Hid ((xs.drop at_).length-j<z):=zh (by rw[HXL.out];omega);go_wp2_with fail;refine(HPC.out).mono ?_;rintro e w4 ⟨rfl,hE4⟩;have HE4:=zh hE4;clear hE4;have hcv:=Bs.conv (P:=Tryz.prog) (Bs.none w4 none) 22 5 9 Tryz.underlying22 Tryz.underlying5 Tryz.underlying9 0;go_wp2_with fail;go_ret;exact⟨_,_,3,rfl,HE3.out.trans HE4.out,bad_of (by unfold tr;rw[HV.out];simp only[if_neg HNB.out,if_pos HSH.out])⟩
    ·have HPC:=zh (piece_ok g n c (at_+j) z A (.func (.func 140) #[] #[.pointer (some ⟨pb,0,none⟩)]) xs w3 HE3.out.1 HB3.out (by omega) hn)
     have HSH:Hid (¬(xs.drop at_).length-j<z):=zh (by rw[HXL.out];omega);have HDD:Hid ((xs.drop (at_+j)).take z=((xs.drop at_).drop j).take z):=zh (by rw[zw31]);go_wp2_with fail;refine(HPC.out).mono ?_;rintro e w4 ⟨A',c',rfl,hc1,hc2,hc3,hB4,hE4⟩;have hcv:=hB4.conv (P:=Tryz.prog) 22 5 9 Tryz.underlying22 Tryz.underlying5 Tryz.underlying9 c';have HE4:=zh hE4;clear hE4 hB4 hc3;generalize hS:strOf ((xs.drop (at_+j)).take z)=S at*;have HS:=zh hS;clear hS;go_wp2_with fail;go_ret;exact⟨_,_,0,rfl,HE3.out.trans HE4.out,ok_of (ys:=((xs.drop at_).drop j).take z) (k:=j+z) (by unfold tr;rw[HV.out];simp only[if_neg HNB.out,if_neg HSH.out]) (by rw[←HDD.out,HS.out];rfl) (by omega)⟩
def TPost (w:World) (g:Nat) (s:Value) (at_:Nat) (R:TR) (e:Ending) (w':World):Prop:=
 match R with
 | .bad f=>e= .returned (.string ⟨#[]⟩)∧Eff w w' g s at_ f
 | .ok ys k=>e= .returned (.string (strOf ys))∧Eff w w' g s (at_+k) 0
theorem tr_bad {rest:List Nat} {most:Int} {f:Int} (h:tr rest most= .bad f):f≠0:=by
 unfold tr at h
 split at h
 ·cases h;decide
 ·cases h;decide
 ·split at h
  ·cases h;decide
  ·split at h
   ·cases h;decide
   ·cases h
theorem tpost_of {w w':World} {g:Nat} {s:Value} {at_:Nat} {R:TR} (hR:∀f,R= .bad f→f≠0) {e:Ending} (h:RP w g s (.string ⟨#[]⟩) at_ (TPhi at_ R) e w'):TPost w g s at_ R e w':=by
 rcases h with ⟨v,a',rfl,hE,hm⟩ | ⟨err,hne,rfl,hE,v0,a0,w0,hm⟩
 ·cases R with
  | bad f=>exact absurd hm.symm (hR f rfl)
  | ok ys k=>obtain⟨rfl,rfl,_⟩:=hm;exact⟨rfl,hE⟩
 ·cases R with
  | bad f=>obtain rfl:err=f:=hm;exact⟨rfl,hE⟩
  | ok ys k=>exact absurd hm.2.2 hne
theorem text (g n c at_:Nat) (most:Int) (hm1: -9223372036854775808≤most) (hm2:most≤9223372036854775807) (A:Option Addr) (xs:List Nat) (w:World) (h:Rdr w g (.slice A n c) at_ 0) (hB:RB w g A n c xs) (hat:at_≤n) (hn:n≤4000000000):
  Calls Tryz.prog 93 #[.pointer (some ⟨g,0,none⟩),.int .i64 most] w (TPost w g (.slice A n c) at_ (tr (xs.drop at_) most)):=by
 have hgl:g<w.heap.size:=Blk.lt h;have ha:=zxa (zxr w) (.cells #[.pointer (some ⟨g,0,none⟩)] 133);have hb:=zxa (zxr (w.alloc (.cells #[.pointer (some ⟨g,0,none⟩)] 133))) (.cells #[.int .i64 most] 3);have hc:=zxa (zxr ((w.alloc (.cells #[.pointer (some ⟨g,0,none⟩)] 133)).alloc (.cells #[.int .i64 most] 3))) (.cells #[.pointer (some ⟨g,0,none⟩)] 133);have HC:=zh (reading_70 g at_ (.slice A n c) (.pointer (some ⟨w.heap.size,0,none⟩)) (.pointer (some ⟨w.heap.size+1,0,none⟩)) (TPhi at_ (tr (xs.drop at_) most)) ((w.alloc (.cells #[.pointer (some ⟨g,0,none⟩)] 133)).alloc (.cells #[.int .i64 most] 3)) ((h.ext ha).ext hb)
  (text1 ((w.alloc (.cells #[.pointer (some ⟨g,0,none⟩)] 133)).alloc (.cells #[.int .i64 most] 3)).heap.size w.heap.size (w.heap.size+1) g n c at_ most A xs _ (by rw[World.cell?_alloc_new];rfl) (kc hc (kc hb (by rw[World.cell?_alloc_new];rfl))) (kc hc (by
   have:=World.cell?_alloc_new (w.alloc (.cells #[.pointer (some ⟨g,0,none⟩)] 133)) #[.int .i64 most] 3 0;rw[zw22]at this;rw[this];rfl)) (by simp;omega) (by omega) (by omega) hm1 hm2 (((h.ext ha).ext hb).ext hc) (((hB.eff (gb_ext ha _)).eff (gb_ext hb _)).eff (gb_ext hc _)) hat hn))
 have HBD:=zh (fun f (hf:tr (xs.drop at_) most= .bad f)=>tr_bad hf);clear h hB ha hb hc hm1 hm2;generalize tr (xs.drop at_) most=R at*;go_enter Tryz.func93,Tryz.ntmps93;go_wp2_with fail;refine(HC.out).mono ?_;intro e w3 hq;have hp:=tpost_of HBD.out (rp_alloc _ (rp_alloc _ hq));clear hq;have HP:=zh hp
 cases R with
 | bad f=>
  obtain⟨rfl,hE⟩:=hp;clear hE;go_wp2_with fail;go_ret;exact HP.out
 | ok ys k=>
  obtain⟨rfl,hE⟩:=hp;clear hE;generalize hS:strOf ys=S at*;go_wp2_with fail;go_ret;subst hS;exact HP.out
theorem bs_new (w:World) (t:TypeId) (fr:Nat × Nat) (xs:List Nat) (hb:∀j,xs.getD j 0<256):Bs (w.alloc (.cells ((xs.map fun x=>Value.int .u8 (x:Nat)).toArray) t fr)) (some ⟨w.heap.size,0,none⟩) xs.length xs:=
 ⟨rfl,hb,fun _=>⟨w.heap.size,0,rfl,by simp,fun j hj=>by
  rw[Nat.zero_add,World.cell?_alloc_mark];simp[zw5,zw6 hj]⟩⟩
def GotF (base:Nat) (w':World) (ys:List Nat) (v:Value):Prop:=∃(A':Option Addr) (c':Nat),v= .slice A' ys.length c'∧ys.length≤c'∧c'≤9223372036854775807∧(A'=none→ys.length=0∧c'=0)∧Bs w' A' ys.length ys∧(0<ys.length→∀a,A'=some a→base≤a.block)
def BPhiF (base:Nat) (at_:Nat) (rest:List Nat) (m:Int) (v:Value) (a':Nat) (err:Int) (w':World):Prop:=
 (m<0∧err=4)∨(0≤m∧(rest.length:Int)<m∧err=3)∨(0≤m∧m≤(rest.length:Int)∧GotF base w' (rest.take m.toNat) v∧a'=at_+m.toNat∧err=0)
theorem bytesF1 (base:Nat) (pb mb rb g n c at_:Nat) (m:Int) (A:Option Addr) (xs:List Nat) (w:World) (hp:w.cell? ⟨pb,0,none⟩=some (.pointer (some ⟨g,0,none⟩))) (hbase:base≤w.heap.size) (hr:w.cell? ⟨rb,0,none⟩=some (.pointer (some ⟨g,0,none⟩))) (hmo:w.cell? ⟨mb,0,none⟩=some (.int .i64 m))
  (hm1: -9223372036854775808≤m) (hm2:m≤9223372036854775807)
  (h:Rdr w g (.slice A n c) at_ 0) (hB:RB w g A n c xs) (hat:at_≤n) (hn:n≤4000000000):
  Calls Tryz.prog 150 #[.func (.func 154) #[] #[.pointer (some ⟨pb,0,none⟩)],.pointer (some ⟨mb,0,none⟩),.pointer (some ⟨rb,0,none⟩)] w (CP w g (.slice A n c) (BPhiF base at_ (xs.drop at_) m)):=by
 have hxl:(xs.drop at_).length=n-at_:=by rw[zw1,hB.1.1]
 by_cases hneg:m<0
 ·have HP:=zh hp;have H:=zh h
  have HF:Hid (∀v a' w',BPhiF base at_ (xs.drop at_) m v a' 4 w'):=zh (fun _ _ _=> .inl ⟨hneg,rfl⟩);clear hp h hB hxl hm2;generalize BPhiF base at_ (xs.drop at_) m=Φ at*;go_enter Tryz.func150,Tryz.ntmps150;go_wp2_with fail;refine(fail0_71 _ pb g _ at_ 4 HP.out H.out).mono ?_;rintro e w3 ⟨rfl,hE3⟩;have HE3:=zh hE3;clear hE3;go_wp2_with fail;go_ret;exact⟨_,_,4,rfl,HE3.out,HF.out _ _ _⟩
 ·obtain⟨k,rfl⟩:∃k:Nat,m=(k:Int):=⟨m.toNat,by omega⟩
  have hk1:¬(k:Int)<0:=hneg;by_cases hsh:n-at_<k
  ·have HC:=zh (piece_short_71 pb g n c at_ k A xs w hp h hat hn hsh)
   have HF:Hid (∀v a' w',BPhiF base at_ (xs.drop at_) (k:Int) v a' 3 w'):=zh (fun _ _ _=> .inr (.inl ⟨by omega,by omega,rfl⟩));clear hp h hB hxl;generalize BPhiF base at_ (xs.drop at_) (k:Int)=Φ at*;go_enter Tryz.func150,Tryz.ntmps150;go_wp2_with fail;refine(HC.out).mono ?_;rintro e w3 ⟨rfl,hE3⟩;have HE3:=zh hE3;clear hE3;go_wp2_with fail;refine(clone none 0 0 [] w3 (Bs.none _ _) (fun _=>⟨rfl,rfl⟩) (by omega)).mono ?_;rintro e w4 ⟨A',c',rfl,_,_,_,_,_,hE⟩;have HE4:=zh hE;clear hE;go_wp2_with fail;go_ret;exact⟨_,_,3,rfl,HE3.out.ext HE4.out,HF.out _ _ _⟩
  ·have HC:=zh (piece_ok g n c at_ k A (.func (.func 154) #[] #[.pointer (some ⟨pb,0,none⟩)]) xs w h hB (by omega) hn)
   have HL:Hid (((xs.drop at_).take k).length=k):=zh (by rw[zw2];omega);have HF:Hid (∀v w',GotF base w' ((xs.drop at_).take k) v→BPhiF base at_ (xs.drop at_) (k:Int) v (at_+k) 0 w'):=zh (fun _ _ hg=> .inr (.inr ⟨by omega,by omega,by rw[zw35];exact hg,by rw[zw35],rfl⟩));clear hp h hB hxl;generalize BPhiF base at_ (xs.drop at_) (k:Int)=Φ at*;generalize (xs.drop at_).take k=ys at*;go_enter Tryz.func150,Tryz.ntmps150;go_wp2_with fail;refine(HC.out).mono ?_;rintro e w3 ⟨A',c',rfl,hc1,hc2,hc3,hB3,hE3⟩;have HB3:=zh hB3;have HC3:=zh hc3;have HE3:=zh hE3;clear hE3 hB3 hc3;go_wp2_with fail;refine(clone A' k c' ys w3 HB3.out HC3.out (by omega)).mono ?_;rintro e w4 ⟨A4,c4,rfl,h1,h2,h3,h4,hB4,hE⟩;have HE4:=zh hE;have HB4:=zh hB4;have H3:=zh h3;have H4:=zh h4;clear hE hB4 h3 h4;go_wp2_with fail;go_ret;have hg:GotF base w4 ys (.slice A4 k c4):=⟨A4,c4,by rw[HL.out],by rw[HL.out];exact h1,h2,by rw[HL.out];exact H3.out,by rw[HL.out];exact HB4.out,by rw[HL.out];exact fun hp a ha=>zw10 (zw10 hbase HE3.out.2.size) (H4.out hp a ha)⟩;exact⟨_,_,0,rfl,HE3.out.ext HE4.out,HF.out _ _ hg⟩
def BPostF (w:World) (g:Nat) (s:Value) (at_:Nat) (rest:List Nat) (m:Int) (e:Ending) (w':World):Prop:=
 (m<0∧e= .returned (.slice none 0 0)∧Eff w w' g s at_ 4)∨(0≤m∧(rest.length:Int)<m∧e= .returned (.slice none 0 0)∧Eff w w' g s at_ 3)∨
 (0≤m∧m≤(rest.length:Int)∧(∃v,e= .returned v∧GotF w.heap.size w' (rest.take m.toNat) v)∧Eff w w' g s (at_+m.toNat) 0)
theorem bpostF_of {w w':World} {g:Nat} {s:Value} {at_:Nat} {rest:List Nat} {m:Int} {e:Ending} (h:RP w g s (.slice none 0 0) at_ (BPhiF w.heap.size at_ rest m) e w'):BPostF w g s at_ rest m e w':=by
 rcases h with ⟨v,a',rfl,hE,⟨_,h2⟩ | ⟨_,_,h2⟩ | ⟨h1,h2,h3,rfl,_⟩⟩ | ⟨err,hne,rfl,hE,v0,a0,w0,⟨h1,h2⟩ | ⟨h1,h2,h3⟩ | ⟨_,_,_,_,h2⟩⟩
 ·exact absurd h2 (by decide)
 ·exact absurd h2 (by decide)
 ·exact .inr (.inr ⟨h1,h2,⟨v,rfl,h3⟩,hE⟩)
 ·subst h2;exact .inl ⟨h1,rfl,hE⟩
 ·subst h3;exact .inr (.inl ⟨h1,h2,rfl,hE⟩)
 ·exact absurd h2 hne
theorem bytesF (g n c at_:Nat) (m:Int) (hm1: -9223372036854775808≤m) (hm2:m≤9223372036854775807) (A:Option Addr) (xs:List Nat) (w:World) (h:Rdr w g (.slice A n c) at_ 0) (hB:RB w g A n c xs) (hat:at_≤n) (hn:n≤4000000000):
  Calls Tryz.prog 134 #[.pointer (some ⟨g,0,none⟩),.int .i64 m] w (BPostF w g (.slice A n c) at_ (xs.drop at_) m):=by
 have ha:=zxa (zxr w) (.cells #[.pointer (some ⟨g,0,none⟩)] 133);have hb:=zxa (zxr (w.alloc (.cells #[.pointer (some ⟨g,0,none⟩)] 133))) (.cells #[.int .i64 m] 3);have hc:=zxa (zxr ((w.alloc (.cells #[.pointer (some ⟨g,0,none⟩)] 133)).alloc (.cells #[.int .i64 m] 3))) (.cells #[.pointer (some ⟨g,0,none⟩)] 133);have HC:=zh (reading_71 g at_ (.slice A n c) (.pointer (some ⟨w.heap.size+1,0,none⟩)) (.pointer (some ⟨w.heap.size,0,none⟩)) (BPhiF w.heap.size at_ (xs.drop at_) m) ((w.alloc (.cells #[.pointer (some ⟨g,0,none⟩)] 133)).alloc (.cells #[.int .i64 m] 3)) ((h.ext ha).ext hb)
  (bytesF1 w.heap.size ((w.alloc (.cells #[.pointer (some ⟨g,0,none⟩)] 133)).alloc (.cells #[.int .i64 m] 3)).heap.size (w.heap.size+1) w.heap.size g n c at_ m A xs _ (by rw[World.cell?_alloc_new];rfl) (by simp only[zw22];omega) (kc hc (kc hb (by rw[World.cell?_alloc_new];rfl))) (kc hc (by
   have:=World.cell?_alloc_new (w.alloc (.cells #[.pointer (some ⟨g,0,none⟩)] 133)) #[.int .i64 m] 3 0;rw[zw22]at this;rw[this];rfl)) hm1 hm2 (((h.ext ha).ext hb).ext hc) (((hB.eff (gb_ext ha _)).eff (gb_ext hb _)).eff (gb_ext hc _)) hat hn))
 clear h hB ha hb hc hm1 hm2;generalize xs.drop at_=rest at*;go_enter Tryz.func134,Tryz.ntmps134;go_wp2_with fail;refine(HC.out).mono ?_;intro e w3 hq;have hp:=bpostF_of (rp_alloc _ (rp_alloc _ hq));clear hq;have HP:=zh hp;rcases hp with ⟨h1,rfl,hE⟩ | ⟨h1,h2,rfl,hE⟩ | ⟨h1,h2,⟨v,rfl,h3⟩,hE⟩
 ·clear h1 hE
  go_wp2_with fail;go_ret;exact HP.out
 ·clear h1 h2 hE
  go_wp2_with fail;go_ret;exact HP.out
 ·clear h1 h2 h3 hE
  go_wp2_with fail;go_ret;exact HP.out
def OPostF (w:World) (n:Nat) (xs:List Nat) (e:Ending) (w':World):Prop:=
 ∃(g:Nat) (A':Option Addr) (c':Nat),e= .returned (.pointer (some ⟨g,0,none⟩))∧w.heap.size≤g∧Rdr w' g (.slice A' n c') 0 0∧RB w' g A' n c' xs∧Ext w w'∧(0<n→∀a,A'=some a→w.heap.size≤a.block)
theorem ofF (A:Option Addr) (n c:Nat) (xs:List Nat) (w:World) (hB:Bs w A n xs) (hnil:A=none→n=0∧c=0) (hn:n≤4000000000):
  Calls Tryz.prog 59 #[.slice A n c] w (OPostF w n xs):=by
 have HC:=zh (clone A n c xs w hB hnil hn);clear hB hnil;go_enter Tryz.func59,Tryz.ntmps59;go_wp2_with fail;refine(HC.out).mono ?_;rintro e w1 ⟨A',c',rfl,h1,h2,h3,h4,hB,hE⟩;have HB:=zh hB;have HE:=zh hE;have H3:=zh h3;have H4:=zh h4;clear hB hE h3 h4;go_wp2_with fail;go_ret;refine⟨w1.heap.size,A',c',rfl,HE.out.size,Blk.new _ _ _,⟨HB.out.ext (zxa (zxr _) _),h1,h2,H3.out,fun hp a ha=>?_⟩,zxa HE.out _,H4.out⟩;obtain⟨b,o,e,hl,_⟩:=HB.out.2.2 hp;obtain rfl:=zw13 (ha.symm.trans e);exact Nat.ne_of_lt hl
theorem bytes_err (g at_:Nat) (s:Value) (m e0:Int) (w:World) (h:Rdr w g s at_ e0) (he:(e0==0)=false):
  Calls Tryz.prog 134 #[.pointer (some ⟨g,0,none⟩),.int .i64 m] w fun e w'=>e= .returned (.slice none 0 0)∧Ext w w':=by
 have ha:=zxa (zxr w) (.cells #[.pointer (some ⟨g,0,none⟩)] 133);have hb:=zxa (zxr (w.alloc (.cells #[.pointer (some ⟨g,0,none⟩)] 133))) (.cells #[.int .i64 m] 3);have HC:=zh (fun F=>reading_err_71 g at_ s F e0 _ ((h.ext ha).ext hb) he);have HA:=zh (zxt ha hb);clear ha hb h he;go_enter Tryz.func134,Tryz.ntmps134;go_wp2_with fail;refine(HC.out _).mono ?_;rintro e w3 ⟨rfl,hE3⟩;have HE3:=zh hE3;clear hE3;go_wp2_with fail;go_ret;exact⟨rfl,zxt HA.out HE3.out⟩
theorem fixed_err (g at_:Nat) (s:Value) (e0:Int) (w:World) (h:Rdr w g s at_ e0) (he:(e0==0)=false):
  Calls Tryz.prog 92 #[.pointer (some ⟨g,0,none⟩)] w fun e w'=>e= .returned (.int .u32 0)∧Ext w w':=by
 have ha:=zxa (zxr w) (.cells #[.pointer (some ⟨g,0,none⟩)] 133);have HC:=zh (fun F=>reading_err_69 g at_ s F e0 _ (h.ext ha) he);clear h he;have HA:=zh ha;clear ha;go_enter Tryz.func92,Tryz.ntmps92;go_wp2_with fail;refine(HC.out _).mono ?_;rintro e w3 ⟨rfl,hE3⟩;have HE3:=zh hE3;clear hE3;go_wp2_with fail;go_ret;exact⟨rfl,zxt HA.out HE3.out⟩
theorem bs_rdr {w:World} {g at_ n:Nat} {s:Value} {e:Int} {A:Option Addr} {xs:List Nat} (h:Rdr w g s at_ e) (hs:∀k x,s≠ .int k x) (hB:Bs w A n xs) (hp:0<n):∀a,A=some a→a.block≠g:=by
 intro a ha;obtain⟨b,o,e1,hl,hc⟩:=hB.2.2 hp;obtain rfl:=zw13 (ha.symm.trans e1);show b≠g;rintro rfl;have h1:=hc 0 hp;have h2:=Blk.cell h o;rw[Nat.add_zero,h2]at h1;rcases o with _ | _ | _ | o
 ·simp at h1;exact hs _ _ h1
 ·simp at h1
 ·simp at h1
 ·simp at h1
end Go.Proofs.YtbopblbhjcemaaaGreatDoor.Wire
namespace Go.Proofs.YtbopblbhjcemaaaGreatDoor.Rec
variable {α : Type}
def RowR (w:World) (A:Option Addr) (n k:Nat) (f:α→List Value) (xs:List α):Prop:=
 xs.length=n∧(0<n→∃b o,A=some ⟨b,o,none⟩∧b<w.heap.size∧∀j (hj:j<xs.length) i,i<k→w.cell? ⟨b,o+j*k+i,none⟩=(f xs[j])[i]?)
theorem RowR.nil (w:World) (A:Option Addr) (k:Nat) (f:α→List Value):RowR w A 0 k f []:=⟨rfl,fun h=>absurd h (by omega)⟩
theorem RowR.keep {w w':World} {A:Option Addr} {n k:Nat} {f:α→List Value} {xs:List α} (h:RowR w A n k f xs) (hs:w.heap.size≤w'.heap.size) (hk:∀a,A=some a→0<n→w'.heap[a.block]? =w.heap[a.block]?):RowR w' A n k f xs:=by
 refine⟨h.1,fun hp=>?_⟩;obtain⟨b,o,e,hb,hc⟩:=h.2 hp;exact⟨b,o,e,zw9 hb hs,fun j hj i hi=>(World.cell?_of_block (a:=⟨b,o+j*k+i,none⟩) (show w'.heap[b]? =w.heap[b]? from hk ⟨b,o,none⟩ e hp)).trans (hc j hj i hi)⟩
theorem RowR.ext {w w':World} {A:Option Addr} {n k:Nat} {f:α→List Value} {xs:List α} (h:RowR w A n k f xs) (e:Ext w w'):RowR w' A n k f xs:=by
 refine h.keep e.size (fun a ha hp=>?_);obtain⟨b,o,e1,hb,hc⟩:=h.2 hp;obtain rfl:=zw13 (ha.symm.trans e1);exact e.block b hb
theorem RowR.grown {w w':World} {A:Option Addr} {n k:Nat} {r:Option Nat} {f:α→List Value} {xs:List α} (h:RowR w A n k f xs) (e:w.grownBy w' r) (hr:∀a,A=some a→0<n→some a.block≠r):RowR w' A n k f xs:=by
 refine h.keep e.size (fun a ha hp=>?_);obtain⟨b,o,e1,hb,hc⟩:=h.2 hp;have:=hr a ha hp;obtain rfl:=zw13 (ha.symm.trans e1);exact e.block b hb this
theorem flat_len {k:Nat} {f:α→List Value} (hf:∀x,(f x).length=k):∀xs:List α,(xs.flatMap f).length=xs.length*k
 | []=>by simp
 | x::xs=>by rw[List.flatMap_cons,zw0,hf,flat_len hf xs,zw3,Nat.succ_mul,Nat.add_comm]
theorem flat_get {k:Nat} {f:α→List Value} (hf:∀x,(f x).length=k):∀(xs:List α) (j:Nat) (hj:j<xs.length) (i:Nat),i<k→(xs.flatMap f)[j*k+i]? =(f xs[j])[i]?
 | [],j,hj,_,_=>absurd hj (by simp)
 | x::xs,0,hj,i,hi=>by
  rw[List.flatMap_cons,zw32 (by rw[hf];omega)];simp
 | x::xs,j+1,hj,i,hi=>by
  rw[List.flatMap_cons,zw33 (by rw[hf,Nat.succ_mul];omega),hf,show(j+1)*k+i-k=j*k+i by rw[Nat.succ_mul];omega,flat_get hf xs j (by simpa using hj) i hi];rfl
def OwnR (base:Nat) (w:World) (e:TypeId) (k:Nat) (f:α→List Value) (v:Value) (xs:List α):Prop:=w.ownsRow base e k v xs.length (xs.flatMap f)
theorem OwnR.nil (base:Nat) (w:World) (e:TypeId) (k:Nat) (f:α→List Value):OwnR base w e k f (.slice none 0 0) ([]:List α):=World.ownsRow_nil w base e k
theorem OwnR.ext {base:Nat} {w w':World} {e:TypeId} {k:Nat} {f:α→List Value} {v:Value} {xs:List α} (h:OwnR base w e k f v xs) (hE:Ext w w'):OwnR base w' e k f v xs:=by
 refine zw24 h (row:=none) ⟨hE.os,hE.tape,hE.output,hE.size,fun k hk _=>hE.block k hk⟩ ?_;cases v.ownBlock<;>simp
theorem OwnR.grown {base:Nat} {w w':World} {e:TypeId} {k:Nat} {f:α→List Value} {v:Value} {xs:List α} {r:Nat} (h:OwnR base w e k f v xs) (hg:w.grownBy w' (some r)) (hr:r<base):OwnR base w' e k f v xs:=by
 refine zw24 h hg ?_
 cases hv:v.ownBlock with
 | none=>exact .inl rfl
 | some q=>exact .inr (fun e=>by have:=(zw23 h q hv).1;have:=zw13 e;omega)
theorem OwnR.shape {base:Nat} {w:World} {e:TypeId} {k:Nat} {f:α→List Value} {v:Value} {xs:List α} (h:OwnR base w e k f v xs):∃A c,v= .slice A xs.length c∧xs.length≤c∧c≤maxLen∧(A=none→xs.length=0∧c=0)∧(∀a,A=some a→base≤a.block):=by
 rcases h.2 with ⟨rfl,hn⟩ | ⟨g,cap,cur,rfl,hb,_,h1,h2,_⟩
 ·exact⟨none,0,by rw[hn],by omega,by unfold maxLen;omega,(fun _=>⟨hn,rfl⟩),(fun a ha=>by cases ha)⟩
 ·exact⟨_,cap,rfl,h1,h2,(fun ha=>by cases ha),(fun a ha=>by cases ha;exact hb)⟩
theorem OwnR.row {base:Nat} {w:World} {e:TypeId} {k:Nat} {f:α→List Value} {A:Option Addr} {n c:Nat} {xs:List α} (hf:∀x,(f x).length=k) (h:OwnR base w e k f (.slice A n c) xs):RowR w A n k f xs:=by
 rcases h.2 with ⟨h1,hn⟩ | ⟨g,cap,cur,h1,hb,hg,h2,h3,hs,ht⟩
 ·obtain⟨rfl,rfl,rfl⟩:=Value.slice.inj h1
  exact⟨hn,fun hp=>absurd hp (by omega)⟩
 ·obtain⟨rfl,rfl,rfl⟩:=Value.slice.inj h1
  refine⟨rfl,fun hp=>⟨g,0,rfl,(Array.getElem?_eq_some_iff.1 hg).1,fun j hj i hi=>?_⟩⟩;have hlt:j*k+i<(xs.flatMap f).length:=by
   rw[flat_len hf]
   calc j*k+i<j*k+k:=by omega
    _=(j+1)*k:=by rw[Nat.succ_mul]
    _≤xs.length*k:=zw34 k hj
  have hq:(xs.flatMap f)[j*k+i]? =some ((xs.flatMap f)[j*k+i]):=zw6 hlt;have:=World.ownsRow.cells h (g:=g) rfl (j*k+i) _ hq;have hadd:(⟨g,0,none⟩:Addr).add (j*k+i)=⟨g,j*k+i,none⟩:=by unfold Addr.add;split<;>simp_all
  rw[hadd]at this;rw[Nat.zero_add,this,←hq,flat_get hf xs j hj i hi]
theorem wpList_rec {P:Program} {w:World} {base:Nat} {ops:Array Oper} {rest:List Oper} {o:Oper} {a:Act} {Q:Exit→Act→World→Prop} (hgd:o.guard=none) (s x:Operand) (t e:TypeId) (k bytes:Nat) (z:Value) (f:α→List Value) (ho:o.op= .call {callee:= .builtin .append,args:= #[s,x],argTypes:= #[t,t]})
  (ht:P.underlying t=some (.slice e)) (hi:(P.info? e).map (fun i=>(i.zero,i.size,i.bytes))=some (some z,k,bytes)) (hzs:z.cells.size=k) (hby:bytes≤1000) (v vx:Value) (xs:List α) (y:α) (hs:a.eval s=v) (hx:a.eval x=vx) (hO:OwnR base w e k f v xs) (hbase:base≤w.heap.size)
  (hsrc:Src P k t vx 1 (f y) w) (hb:xs.length≤100000000) (h:∀v' w',OwnR base w' e k f v' (xs++[y])→w.grownBy w' v.ownBlock→wpList P ops Q rest (a.put o.dst v') w'):wpList P ops Q (o::rest) a w:=by
 obtain⟨i0,hi0,hq⟩:=Option.map_eq_some_iff.1 hi;simp only[Prod.mk.injEq]at hq;obtain⟨hz0,hz1,hz2⟩:=hq;have hm:(xs.length+1)*bytes≤140737488355328:=by
  calc (xs.length+1)*bytes≤(xs.length+1)*1000:=Nat.mul_le_mul_left _ hby
   _≤140737488355328:=by omega
 refine wpList_app_own hgd s x t t ho e i0 z k bytes ht hi0 hz0 hz1 hz2 hzs base v vx xs.length (xs.flatMap f) hs hx hO 1 (f y) hsrc (by unfold maxLen;omega) hm hbase ?_;intro v' w' h2 h3;refine h v' w' ?_ h3;unfold OwnR;rw[zw0,List.flatMap_append]
 simpa using h2
theorem run_rec {P:Program} {w:World} {base:Nat} (t e ty:TypeId) (k bytes:Nat) (z:Value) (f:α→List Value)
  (ht:P.underlying t=some (.slice e)) (hi:(P.info? e).map (fun i=>(i.zero,i.size,i.bytes))=some (some z,k,bytes)) (hzs:z.cells.size=k) (hby:bytes≤1000) (v vx:Value) (xs:List α) (y:α) (hO:OwnR base w e k f v xs) (hbase:base≤w.heap.size)
  (hsrc:Src P k t vx 1 (f y) w) (hb:xs.length≤100000000):∃v' w',(Builtin.append_ #[t,t] ty #[v,vx]).run P w= .ok v' w'∧OwnR base w' e k f v' (xs++[y])∧w.grownBy w' v.ownBlock:=by
 obtain⟨i0,hi0,hq⟩:=Option.map_eq_some_iff.1 hi;simp only[Prod.mk.injEq]at hq;obtain⟨hz0,hz1,hz2⟩:=hq;have hm:(xs.length+1)*bytes≤140737488355328:=by
  calc (xs.length+1)*bytes≤(xs.length+1)*1000:=Nat.mul_le_mul_left _ hby
   _≤140737488355328:=by omega
 obtain⟨v',w',r1,r2,r3⟩:=run_app_own (P:=P) t t ty e i0 z k bytes ht hi0 hz0 hz1 hz2 hzs base v xs.length (xs.flatMap f) hO vx 1 (f y) hsrc (by unfold maxLen;omega) hm hbase;refine⟨v',w',r1,?_,r3⟩;unfold OwnR;rw[zw0,List.flatMap_append]
 simpa using r2
theorem src_rec {P:Program} {tx e e':TypeId} {k:Nat} (hk:P.underlying tx=some (.slice e)) (w:World) (cs:List Value) (hl:cs.length=k) (h1:∀u∈cs,u.oneCell'=true) (c:Nat):Src P k tx (.slice (some ⟨w.heap.size,0,none⟩) 1 c) 1 cs (w.alloc (.cells cs.toArray e')):=by
 refine Src.ofSlice _ hk _ _ c _ (by rw[Nat.one_mul,hl]) (fun j u hj=>?_) h1;have hadd:(⟨w.heap.size,0,none⟩:Addr).add j=⟨w.heap.size,j,none⟩:=by unfold Addr.add;split<;>simp_all
 rw[hadd,(Blk.new w e' cs.toArray).cell j,←hj];simp
end Go.Proofs.YtbopblbhjcemaaaGreatDoor.Rec
namespace Go.Proofs.YtbopblbhjcemaaaGreatDoor.Com
theorem bytesRow_at (T:ByteArray) (cap j:Nat) (h:j<T.size):(bytesRow T cap)[j]? =some (.int .u8 ((natsOf T).getD j 0:Nat)):=by
 have h':j<T.data.size:=h;unfold bytesRow natsOf;rw[Array.getElem?_append_left (by simpa using h'),Array.getElem?_map,Array.getElem?_eq_getElem h',zw5,List.getElem?_map,zw6 (by simpa using h')];simp
theorem conv_text (w:World) (T:ByteArray) (hT:T.size≤100000000000):∃c W,(convert 9 22 (.string T)).run Tryz.prog w= .ok (.slice (some ⟨w.heap.size,0,none⟩) T.size c) W∧T.size≤c∧c≤9223372036854775807∧Bs W (some ⟨w.heap.size,0,none⟩) T.size (natsOf T)∧Ext w W:=by
 refine⟨_,_,run_bytes_of_string (P:=Tryz.prog) w 9 22 5 T Tryz.underlying9 Tryz.underlying22 Tryz.underlying5,grownCap_ge w T.size 0 _,?_,⟨natsOf_len T,natsOf_small T,fun _=>⟨w.heap.size,0,rfl,by simp,fun j hj=>?_⟩⟩,zxa (zxd (zxr w)) _⟩
 ·have:=grownCap_le_maxLen w T.size 0 5 (by unfold maxLen;omega)
  unfold maxLen at this;omega
 ·rw[Nat.zero_add]
  have hg:(w.drew.alloc (.cells (bytesRow T (grownCap w T.size 0 5)) 5 ((bytesRow T (grownCap w T.size 0 5)).size,(bytesRow T (grownCap w T.size 0 5)).size+1))).heap[w.heap.size]? =some (.cells (bytesRow T (grownCap w T.size 0 5)) 5 ((bytesRow T (grownCap w T.size 0 5)).size,(bytesRow T (grownCap w T.size 0 5)).size+1)):=heap_alloc_new w.drew _;rw[cell_of_row _ _ _ _ _ _ hg,bytesRow_at T _ j hj]
end Go.Proofs.YtbopblbhjcemaaaGreatDoor.Com
