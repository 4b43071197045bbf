
import Derived.Test.YtbopblbhjcemaaaGreatDoorChkC
import Derived.Test.YtbopblbhjcemaaaGreatDoorChkD
set_option maxHeartbeats 16000000
set_option maxRecDepth 100000
set_option linter.all false
open Go.ChangeShapes Go.WideShapes Go.ChangeAt Go.RowKit
namespace Go.Proofs.YtbopblbhjcemaaaGreatDoor.Chk
open Wire
def SPost (w:World) (R:RD) (e:Ending) (w':World):Prop:=
 Ext w w'∧match R with
 | .bad f=>f≠0∧e= .returned (.tuple #[.int .u8 0,.int .i64 0,.int .i64 f])
 | .ok kind h size ys next=>e= .returned (.tuple #[.int .u8 (kind:Int),.int .i64 (next:Int),.int .i64 0])
theorem skip (A:Option Addr) (n c:Nat) (xs:List Nat) (at_:Int) (w:World) (hT:Crc.Tab w) (hB:Bs w A n xs) (hnil:A=none→n=0∧c=0) (hn:n≤c) (hc:c≤9223372036854775807) (hN:n≤1000000):
  Calls Tryz.prog 106 #[.slice A n c,.int .i64 at_] w (SPost w (readAt xs at_)):=by
 have HC:=zh (readC A n c xs at_ w hT hB hnil hn hc hN);clear hT hB hnil;generalize readAt xs at_=R at*;go_enter Tryz.func106,Tryz.ntmps106;go_wp2_with fail;refine HC.out.mono ?_;rintro e w1 ⟨hE,hm⟩;have HE:=zh hE
 cases R with
 | bad f=>
  obtain⟨hf,rfl⟩:=hm;have HF:=zh hf;clear hE hf;go_wp2_with fail;refine wp_still (by kernel_rfl) (by kernel_rfl) ?_
  repeat still_step
  refine wpStill_nil ?_;go_wp2_with fail
  go_ret3
  exact⟨zxd (zxa HE.out _),HF.out,rfl⟩
 | ok kind h size ys next=>
  obtain⟨A',c',rfl,_,_,_,_⟩:=hm;clear hE;go_wp2_with fail;refine wp_still (by kernel_rfl) (by kernel_rfl) ?_
  repeat still_step
  refine wpStill_nil ?_;go_wp2_with fail
  go_ret3
  exact⟨zxd (zxa HE.out _),rfl⟩
inductive TK where
 | bad (e:Int)
 | ok (kind:Nat) (zs:List Nat) (next:Nat)
def takeAt (xs:List Nat) (at_ most:Int):TK:=
 match readAt xs at_ with
 | .bad e=> .bad e
 | .ok kind h size ys next=>
  if most<(size:Int)then .bad 6
  else if h=1 then match Lz.unp size [] ys with
   | .bad _=> .bad 4
   | .ok zs=>if zs.length=size then .ok kind zs next else .bad 4
  else .ok kind ys next
def TPost (w:World) (R:TK) (e:Ending) (w':World):Prop:=
 Ext w w'∧match R with
 | .bad f=>f≠0∧e= .returned (.tuple #[.int .u8 0,.slice none 0 0,.int .i64 0,.int .i64 f])
 | .ok kind zs next=>∃A' c',e= .returned (.tuple #[.int .u8 (kind:Int),.slice A' zs.length c',.int .i64 (next:Int),.int .i64 0])∧Bs w' A' zs.length zs∧(0<zs.length→∀a,A'=some a→w.heap.size≤a.block)
theorem read_facts {L:List Nat} {kind h size:Nat} {ys:List Nat} {next:Nat} (hr:Chk.read L= .ok kind h size ys next):size≤2147483647∧h≤1∧ys.length≤L.length:=by
 unfold Chk.read at hr
 cases hs:Chk.scan L with
 | bad e=>rw[hs]at hr;cases hr
 | ok h1 s1 n1 k1=>
  rw[hs]at hr;simp only at hr
  split at hr
  ·cases hr
  ·split at hr
   ·cases hr
   ·cases hr
    refine⟨?_,?_,by rw[zw2,zw1];omega⟩
    ·unfold Chk.scan at hs
     split at hs
     ·cases hs
     ·split at hs
      ·cases hs
      ·split at hs
       ·cases hs
       ·cases hs
       ·rename_i hv
        have:=lim_le hv
        split at hs
        ·cases hs
        ·cases hs
        ·split at hs
         ·cases hs
         ·cases hs;exact this
    ·unfold Chk.scan at hs
     split at hs
     ·cases hs
     ·split at hs
      ·cases hs
      ·rename_i h1
       split at hs
       ·cases hs
       ·cases hs
       ·split at hs
        ·cases hs
        ·cases hs
        ·split at hs
         ·cases hs
         ·cases hs;omega
theorem readAt_facts {xs:List Nat} {at_:Int} {kind h size:Nat} {ys:List Nat} {next:Nat} (hr:readAt xs at_= .ok kind h size ys next):size≤2147483647∧h≤1∧ys.length≤xs.length:=by
 unfold readAt at hr
 split at hr
 ·cases hr
 ·cases hs:Chk.read (xs.drop at_.toNat)with
  | bad e=>rw[hs]at hr;cases hr
  | ok a b c d e=>
   rw[hs]at hr;cases hr
   have:=read_facts hs;rw[zw1]at this;omega
theorem take (A:Option Addr) (n c:Nat) (xs:List Nat) (at_ most:Int) (w:World) (hT:Crc.Tab w) (hB:Bs w A n xs) (hnil:A=none→n=0∧c=0) (hn:n≤c) (hc:c≤9223372036854775807) (hN:n≤1000000):
  Calls Tryz.prog 97 #[.slice A n c,.int .i64 at_,.int .i64 most] w (TPost w (takeAt xs at_ most)):=by
 have HC:=zh (readC A n c xs at_ w hT hB hnil hn hc hN);have HFA:=zh (fun kind h size ys next hr=>readAt_facts (xs:=xs) (at_:=at_) (kind:=kind) (h:=h) (size:=size) (ys:=ys) (next:=next) hr);have hxl:xs.length=n:=hB.1;have HTK:Hid (takeAt xs at_ most=match readAt xs at_ with
  | .bad e=> .bad e
  | .ok kind h size ys next=>
   if most<(size:Int)then .bad 6
   else if h=1 then match Lz.unp size [] ys with
    | .bad _=> .bad 4
    | .ok zs=>if zs.length=size then .ok kind zs next else .bad 4
   else .ok kind ys next):=zh rfl
 clear hT hB hnil;obtain⟨R,hR⟩:∃R,R=readAt xs at_:=⟨_,rfl⟩;rw[←hR]at HC HTK;have HR:=zh hR;clear hR;go_enter Tryz.func97,Tryz.ntmps97;go_wp2_with fail;refine HC.out.mono ?_;rintro e w1 ⟨hE,hm⟩;have HE:=zh hE
 cases R with
 | bad f=>
  obtain⟨hf,rfl⟩:=hm;have HF:=zh hf;have HRT:Hid (takeAt xs at_ most= .bad f):=HTK;have hfb:(f==0)=false:=zw12.2 hf;clear hE hf HTK HR;go_wp2_with fail;refine bodyPost_ret (v:= .tuple #[.int .u8 0,.slice none 0 0,.int .i64 0,.int .i64 f]) (by simp[results,Tryz.results97,go_sem]) rfl ?_;rw[HRT.out];exact⟨zxa HE.out _,HF.out,rfl⟩
 | ok kind h size ys next=>
  obtain⟨hs1,hs2,hs3⟩:=HFA.out kind h size ys next HR.out.symm
  obtain⟨A',c',rfl,h1,h2,h3,hB,hfr⟩:=hm;have HFR:=zh hfr;clear hfr;have HB:=zh hB;have H3:=zh h3;have HB2:=zh (hB.ext (zxa (zxr w1) (.cells #[.int .u8 (kind:Int),.int .u8 (h:Int),.int .i64 (size:Int),.slice A' ys.length c',.int .i64 (next:Int)] 206)));have HPB:=zh (Blk.new w1 206 #[.int .u8 (kind:Int),.int .u8 (h:Int),.int .i64 (size:Int),.slice A' ys.length c',.int .i64 (next:Int)]);have HEA:=zh (zxa hE (.cells #[.int .u8 (kind:Int),.int .u8 (h:Int),.int .i64 (size:Int),.slice A' ys.length c',.int .i64 (next:Int)] 206));clear hE hB h3 HR HFA HC;by_cases hmo:most<(size:Int)
  ·have HRT:Hid (takeAt xs at_ most= .bad 6):=zh (by rw[HTK.out];simp only;rw[if_pos hmo])
   clear HTK;go_wp2_with fail;refine bodyPost_ret (v:= .tuple #[.int .u8 0,.slice none 0 0,.int .i64 0,.int .i64 6]) (by simp[results,Tryz.results97,go_sem]) rfl ?_;rw[HRT.out];exact⟨HEA.out,by decide,rfl⟩
  ·have HMO:=zh hmo
   by_cases hh:h=1
   ·have HRT:Hid (takeAt xs at_ most=match Lz.unp size [] ys with
     | .bad _=> .bad 4
     | .ok zs=>if zs.length=size then .ok kind zs next else .bad 4):=zh (by rw[HTK.out];simp only;rw[if_neg hmo,if_pos hh])
    subst hh;clear HTK;go_wp2_with fail;refine(Lz.unpack A' ys.length c' ys (size:Int) _ HB2.out H3.out (by omega) (by omega) (by omega)).mono ?_;rintro e w2 ⟨hE2,hu⟩;rw[zw35]at hu;have HP2:=zh (HPB.out.ext hE2);have HE2:=zh (zxt HEA.out hE2);have q0:=HP2.out.cell 0;have q1:=HP2.out.cell 1;have q2:=HP2.out.cell 2;have q3:=HP2.out.cell 3;have q4:=HP2.out.cell 4;simp only[zzD,zzE,zzF]at q0 q1 q2 q3 q4;clear hE2
    cases hun:Lz.unp size [] ys with
    | bad f=>
     rw[hun]at hu HRT;obtain⟨rfl,hf⟩:=hu;have hfb:(f==0)=false:=zw12.2 hf;clear hun hf;go_wp2_with fail;refine bodyPost_ret (v:= .tuple #[.int .u8 0,.slice none 0 0,.int .i64 0,.int .i64 4]) (by simp[results,Tryz.results97,go_sem]) rfl ?_;rw[HRT.out];exact⟨HE2.out,by decide,rfl⟩
    | ok zs=>
     rw[hun]at hu HRT;obtain⟨⟨v,rfl,hO⟩,hzs⟩:=hu;obtain⟨A3,c3,rfl,_⟩:=own_shape hO;have HBZ:=zh (Wire.Own.bs hO (small_mem hzs));have HFZ:Hid (0<zs.length→∀a,A3=some a→w.heap.size≤a.block):=zh (fun _ a ha=>by
      have h1:=own_ge hO a.block (by rw[ha];rfl);have h2:=HEA.out.size;omega)
     clear hun hO hzs;by_cases hz:zs.length=size
     ·have hzb:((zs.length:Int) != (size:Int))=false:=by rw[hz];simp
      have HRT2:Hid (takeAt xs at_ most= .ok kind zs next):=zh (by rw[HRT.out];simp only;rw[if_pos hz]);clear hz HRT;go_wp2_with fail;refine wp_still (by kernel_rfl) (by kernel_rfl) ?_
      repeat still_step
      refine wpStill_nil ?_;go_wp2_with fail;refine bodyPost_ret (v:= .tuple #[.int .u8 (kind:Int),.slice A3 zs.length c3,.int .i64 (next:Int),.int .i64 0]) (by simp[results,Tryz.results97,go_sem]) rfl ?_;rw[HRT2.out];exact⟨zxd HE2.out,A3,c3,rfl,HBZ.out.ext (zxd (zxr _)),HFZ.out⟩
     ·have hzb:((zs.length:Int) != (size:Int))=true:=by simp;omega
      have HRT2:Hid (takeAt xs at_ most= .bad 4):=zh (by rw[HRT.out];simp only;rw[if_neg hz]);clear hz;go_wp2_with fail;refine bodyPost_ret (v:= .tuple #[.int .u8 0,.slice none 0 0,.int .i64 0,.int .i64 4]) (by simp[results,Tryz.results97,go_sem]) rfl ?_;rw[HRT2.out];exact⟨HE2.out,by decide,rfl⟩
   ·have hhb:((h:Int)==1)=false:=zw12.2 (by omega)
    have HRT:Hid (takeAt xs at_ most= .ok kind ys next):=zh (by rw[HTK.out];simp only;rw[if_neg hmo,if_neg hh]);clear HTK hh;go_wp2_with fail;refine wp_still (by kernel_rfl) (by kernel_rfl) ?_
    repeat still_step
    refine wpStill_nil ?_;go_wp2_with fail;refine bodyPost_ret (v:= .tuple #[.int .u8 (kind:Int),.slice A' ys.length c',.int .i64 (next:Int),.int .i64 0]) (by simp[results,Tryz.results97,go_sem]) rfl ?_;rw[HRT.out];exact⟨zxd HEA.out,A',c',rfl,HB2.out.ext (zxd (zxr _)),HFR.out⟩
theorem drop_app {xs ys:List Nat} {n:Nat} (h:n=xs.length):(xs++ys).drop n=ys:=by subst h;exact List.drop_left
theorem take_app {xs ys:List Nat} {n:Nat} (h:n=xs.length):(xs++ys).take n=xs:=by subst h;exact List.take_left
theorem lim_put {m:Nat} (h:m≤2147483647) (ys:List Nat):lim (vr 0 0 (vb m++ys))= .ok m (vb m).length:=by
 rw[vr_put (by omega)];simp[lim,h]
theorem scan_chunk (kind:Nat) (xs ys:List Nat) (hl:xs.length≤2147483647):Chk.scan (chunk kind xs++ys)= .ok (how xs) xs.length (body xs).length (2+(vb xs.length).length+(vb (body xs).length).length):=by
 have hb:=body_len xs;have e:chunk kind xs++ys=kind::how xs::(vb xs.length++(vb (body xs).length++(body xs++(fx (crc (head kind xs))++ys)))):=by
  simp[chunk,head,zw7]
 rw[e];unfold Chk.scan;rw[if_neg (by simp)];have e1:(kind::how xs::(vb xs.length++(vb (body xs).length++(body xs++(fx (crc (head kind xs))++ys))))).getD 1 0=how xs:=rfl;have e2:(kind::how xs::(vb xs.length++(vb (body xs).length++(body xs++(fx (crc (head kind xs))++ys))))).drop 2=vb xs.length++(vb (body xs).length++(body xs++(fx (crc (head kind xs))++ys))):=rfl;rw[e1,e2,if_neg (by have:=how_le xs;omega),lim_put hl];simp only;have e3:(kind::how xs::(vb xs.length++(vb (body xs).length++(body xs++(fx (crc (head kind xs))++ys))))).drop (2+(vb xs.length).length)=vb (body xs).length++(body xs++(fx (crc (head kind xs))++ys)):=by
  rw[←zw31];exact drop_app rfl
 rw[e3,lim_put (by omega)];simp only;rw[if_neg];unfold how body;by_cases h:(Lz.pk xs 0 0).length<xs.length
 ·rw[if_pos h,if_pos h];omega
 ·rw[if_neg h,if_neg h];omega
theorem read_chunk (kind:Nat) (xs ys:List Nat) (hl:xs.length≤2147483647):Chk.read (chunk kind xs++ys)= .ok kind (how xs) xs.length (body xs) (chunk kind xs).length:=by
 have hh:=head_len kind xs;have hc:=chunk_len kind xs;unfold Chk.read;rw[scan_chunk kind xs ys hl];simp only;have e0:chunk kind xs++ys=head kind xs++(fx (crc (head kind xs))++ys):=by simp[chunk,zw7]
 have e1:(chunk kind xs++ys).take (2+(vb xs.length).length+(vb (body xs).length).length+(body xs).length)=head kind xs:=by rw[e0];exact take_app (by omega)
 have e2:((chunk kind xs++ys).drop (2+(vb xs.length).length+(vb (body xs).length).length+(body xs).length)).take 4=fx (crc (head kind xs)):=by
  rw[e0,drop_app (by omega)];exact take_app rfl
 have e3:((chunk kind xs++ys).drop (2+(vb xs.length).length+(vb (body xs).length).length)).take (body xs).length=body xs:=by
  have e4:chunk kind xs++ys=(kind::how xs::(vb xs.length++vb (body xs).length))++(body xs++(fx (crc (head kind xs))++ys)):=by simp[chunk,head,zw7]
  rw[e4,drop_app (by simp;omega)];exact take_app rfl
 have e5:(chunk kind xs++ys).getD 0 0=kind:=rfl;rw[if_neg (by rw[zw0];omega),e1,e2,e3,e5,be_fx (crc_lt _),if_neg (by simp)]
 congr 1;omega
theorem readAt_app {ps L:List Nat}:readAt (ps++L) (ps.length:Int)=match Chk.read L with
  | .bad e=> .bad e
  | .ok kind h size ys next=> .ok kind h size ys (ps.length+next):=by
 unfold readAt;rw[if_neg (by rw[zw0];omega),zw35,drop_app rfl];rfl
theorem take_chunk {kind:Nat} {xs:List Nat} (hx:∀j,xs.getD j 0<256) (ps ys:List Nat) (hl:xs.length≤2147483647) (most:Int) (hm:(xs.length:Int)≤most):takeAt (ps++(chunk kind xs++ys)) (ps.length:Int) most= .ok kind xs (ps.length+(chunk kind xs).length):=by
 unfold takeAt;rw[readAt_app,read_chunk kind xs ys hl];simp only;rw[if_neg (by omega)];unfold how body;by_cases h:(Lz.pk xs 0 0).length<xs.length
 ·rw[if_pos h,if_pos rfl,if_pos h]
  have:=Lz.unp_pk hx _ 0 0 rfl (zw8 _) (Nat.zero_le _);rw[zw29]at this;rw[this];simp
 ·rw[if_neg h,if_neg (by omega),if_neg h]
end Go.Proofs.YtbopblbhjcemaaaGreatDoor.Chk
