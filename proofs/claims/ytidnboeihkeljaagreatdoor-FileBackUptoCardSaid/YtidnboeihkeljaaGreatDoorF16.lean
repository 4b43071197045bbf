
import Derived.Test.YtidnboeihkeljaaGreatDoorChkC
import Derived.Test.YtidnboeihkeljaaGreatDoorChkD
set_option maxHeartbeats 16000000
set_option maxRecDepth 100000
set_option linter.all false
open Go.ChangeShapes Go.WideShapes Go.ChangeAt Go.RowKit
namespace Go.Proofs.YtidnboeihkeljaaGreatDoor.Chk
open Wire
def SPost (w:World) (R:RD) (e:Ending) (w':World):Prop:=
 Ext w w'∧match R with
 | .bad f=>f≠0∧e= .returned (.tuple #[.int .u8 0,.int .i64 0,.int .i64 f])
 | .ok kind h size ys next=>e= .returned (.tuple #[.int .u8 (kind:Int),.int .i64 (next:Int),.int .i64 0])
theorem skip (A:Option Addr) (n c:Nat) (xs:List Nat) (at_:Int) (w:World) (hT:Crc.Tab w) (hB:Bs w A n xs) (hnil:A=none→n=0∧c=0) (hn:n≤c) (hc:c≤9223372036854775807) (hN:n≤1000000):
  Calls Tryz.prog 123 #[.slice A n c,.int .i64 at_] w (SPost w (readAt xs at_)):=by
 have HC:=zh (readC A n c xs at_ w hT hB hnil hn hc hN);clear hT hB hnil;generalize readAt xs at_=R at*;go_enter Tryz.func123,Tryz.ntmps123;go_wp2_with fail;refine HC.out.mono ?_;rintro e w1 ⟨hE,hm⟩;have HE:=zh hE
 cases R with
 | bad f=>
  obtain⟨hf,rfl⟩:=hm;have HF:=zh hf;clear hE hf;go_wp2_with fail;refine wp_still (by kernel_rfl) (by kernel_rfl) ?_
  repeat still_step
  refine wpStill_nil ?_;go_wp2_with fail
  go_ret3
  exact⟨zxd (zxa HE.out _),HF.out,rfl⟩
 | ok kind h size ys next=>
  obtain⟨A',c',rfl,_,_,_,_⟩:=hm;clear hE;go_wp2_with fail;refine wp_still (by kernel_rfl) (by kernel_rfl) ?_
  repeat still_step
  refine wpStill_nil ?_;go_wp2_with fail
  go_ret3
  exact⟨zxd (zxa HE.out _),rfl⟩
inductive TK where
 | bad (e:Int)
 | ok (kind:Nat) (zs:List Nat) (next:Nat)
def takeAt (xs:List Nat) (at_ most:Int):TK:=
 match readAt xs at_ with
 | .bad e=> .bad e
 | .ok kind h size ys next=>
  if most<(size:Int)then .bad 6
  else if h=1 then match Lz.unp size [] ys with
   | .bad _=> .bad 4
   | .ok zs=>if zs.length=size then .ok kind zs next else .bad 4
  else .ok kind ys next
def TPost (w:World) (R:TK) (e:Ending) (w':World):Prop:=
 Ext w w'∧match R with
 | .bad f=>f≠0∧e= .returned (.tuple #[.int .u8 0,.slice none 0 0,.int .i64 0,.int .i64 f])
 | .ok kind zs next=>∃A' c',e= .returned (.tuple #[.int .u8 (kind:Int),.slice A' zs.length c',.int .i64 (next:Int),.int .i64 0])∧Bs w' A' zs.length zs∧(0<zs.length→∀a,A'=some a→w.heap.size≤a.block)
theorem read_facts {L:List Nat} {kind h size:Nat} {ys:List Nat} {next:Nat} (hr:Chk.read L= .ok kind h size ys next):size≤2147483647∧h≤1∧ys.length≤L.length:=by
 unfold Chk.read at hr
 cases hs:Chk.scan L with
 | bad e=>rw[hs]at hr;cases hr
 | ok h1 s1 n1 k1=>
  rw[hs]at hr;simp only at hr
  split at hr
  ·cases hr
  ·split at hr
   ·cases hr
   ·cases hr
    refine⟨?_,?_,by rw[zw2,zw1];omega⟩
    ·unfold Chk.scan at hs
     split at hs
     ·cases hs
     ·split at hs
      ·cases hs
      ·split at hs
       ·cases hs
       ·cases hs
       ·rename_i hv
        have:=lim_le hv
        split at hs
        ·cases hs
        ·cases hs
        ·split at hs
         ·cases hs
         ·cases hs;exact this
    ·unfold Chk.scan at hs
     split at hs
     ·cases hs
     ·split at hs
      ·cases hs
      ·rename_i h1
       split at hs
       ·cases hs
       ·cases hs
       ·split at hs
        ·cases hs
        ·cases hs
        ·split at hs
         ·cases hs
         ·cases hs;omega
theorem readAt_facts {xs:List Nat} {at_:Int} {kind h size:Nat} {ys:List Nat} {next:Nat} (hr:readAt xs at_= .ok kind h size ys next):size≤2147483647∧h≤1∧ys.length≤xs.length:=by
 unfold readAt at hr
 split at hr
 ·cases hr
 ·cases hs:Chk.read (xs.drop at_.toNat)with
  | bad e=>rw[hs]at hr;cases hr
  | ok a b c d e=>
   rw[hs]at hr;cases hr
   have:=read_facts hs;rw[zw1]at this;omega
theorem take (A:Option Addr) (n c:Nat) (xs:List Nat) (at_ most:Int) (w:World) (hT:Crc.Tab w) (hB:Bs w A n xs) (hnil:A=none→n=0∧c=0) (hn:n≤c) (hc:c≤9223372036854775807) (hN:n≤1000000):
  Calls Tryz.prog 78 #[.slice A n c,.int .i64 at_,.int .i64 most] w (TPost w (takeAt xs at_ most)):=by
 have HC:=zh (readC A n c xs at_ w hT hB hnil hn hc hN);have HFA:=zh (fun kind h size ys next hr=>readAt_facts (xs:=xs) (at_:=at_) (kind:=kind) (h:=h) (size:=size) (ys:=ys) (next:=next) hr);have hxl:xs.length=n:=hB.1;have HTK:Hid (takeAt xs at_ most=match readAt xs at_ with
  | .bad e=> .bad e
  | .ok kind h size ys next=>
   if most<(size:Int)then .bad 6
   else if h=1 then match Lz.unp size [] ys with
    | .bad _=> .bad 4
    | .ok zs=>if zs.length=size then .ok kind zs next else .bad 4
   else .ok kind ys next):=zh rfl
 clear hT hB hnil;obtain⟨R,hR⟩:∃R,R=readAt xs at_:=⟨_,rfl⟩;rw[←hR]at HC HTK;have HR:=zh hR;clear hR;go_enter Tryz.func78,Tryz.ntmps78;go_wp2_with fail;refine HC.out.mono ?_;rintro e w1 ⟨hE,hm⟩;have HE:=zh hE
 cases R with
 | bad f=>
  obtain⟨hf,rfl⟩:=hm;have HF:=zh hf;have HRT:Hid (takeAt xs at_ most= .bad f):=HTK;have hfb:(f==0)=false:=zw12.2 hf;clear hE hf HTK HR;go_wp2_with fail;refine bodyPost_ret (v:= .tuple #[.int .u8 0,.slice none 0 0,.int .i64 0,.int .i64 f]) (by simp[results,Tryz.results78,go_sem]) rfl ?_;rw[HRT.out];exact⟨zxa HE.out _,HF.out,rfl⟩
 | ok kind h size ys next=>
  obtain⟨hs1,hs2,hs3⟩:=HFA.out kind h size ys next HR.out.symm
  obtain⟨A',c',rfl,h1,h2,h3,hB,hfr⟩:=hm;have HFR:=zh hfr;clear hfr;have HB:=zh hB;have H3:=zh h3;have HB2:=zh (hB.ext (zxa (zxr w1) (.cells #[.int .u8 (kind:Int),.int .u8 (h:Int),.int .i64 (size:Int),.slice A' ys.length c',.int .i64 (next:Int)] 179)));have HPB:=zh (Blk.new w1 179 #[.int .u8 (kind:Int),.int .u8 (h:Int),.int .i64 (size:Int),.slice A' ys.length c',.int .i64 (next:Int)]);have HEA:=zh (zxa hE (.cells #[.int .u8 (kind:Int),.int .u8 (h:Int),.int .i64 (size:Int),.slice A' ys.length c',.int .i64 (next:Int)] 179));clear hE hB h3 HR HFA HC;by_cases hmo:most<(size:Int)
  ·have HRT:Hid (takeAt xs at_ most= .bad 6):=zh (by rw[HTK.out];simp only;rw[if_pos hmo])
   clear HTK;go_wp2_with fail;refine bodyPost_ret (v:= .tuple #[.int .u8 0,.slice none 0 0,.int .i64 0,.int .i64 6]) (by simp[results,Tryz.results78,go_sem]) rfl ?_;rw[HRT.out];exact⟨HEA.out,by decide,rfl⟩
  ·have HMO:=zh hmo
   by_cases hh:h=1
   ·have HRT:Hid (takeAt xs at_ most=match Lz.unp size [] ys with
     | .bad _=> .bad 4
     | .ok zs=>if zs.length=size then .ok kind zs next else .bad 4):=zh (by rw[HTK.out];simp only;rw[if_neg hmo,if_pos hh])
    subst hh;clear HTK;go_wp2_with fail;refine(Lz.unpack A' ys.length c' ys (size:Int) _ HB2.out H3.out (by omega) (by omega) (by omega)).mono ?_;rintro e w2 ⟨hE2,hu⟩;rw[zw35]at hu;have HP2:=zh (HPB.out.ext hE2);have HE2:=zh (zxt HEA.out hE2);have q0:=HP2.out.cell 0;have q1:=HP2.out.cell 1;have q2:=HP2.out.cell 2;have q3:=HP2.out.cell 3;have q4:=HP2.out.cell 4;simp only[zzD,zzE,zzF]at q0 q1 q2 q3 q4;clear hE2
    cases hun:Lz.unp size [] ys with
    | bad f=>
     rw[hun]at hu HRT;obtain⟨rfl,hf⟩:=hu;have hfb:(f==0)=false:=zw12.2 hf;clear hun hf;go_wp2_with fail;refine bodyPost_ret (v:= .tuple #[.int .u8 0,.slice none 0 0,.int .i64 0,.int .i64 4]) (by simp[results,Tryz.results78,go_sem]) rfl ?_;rw[HRT.out];exact⟨HE2.out,by decide,rfl⟩
    | ok zs=>
     rw[hun]at hu HRT;obtain⟨⟨v,rfl,hO⟩,hzs⟩:=hu;obtain⟨A3,c3,rfl,_⟩:=own_shape hO;have HBZ:=zh (Wire.Own.bs hO (small_mem hzs));have HFZ:Hid (0<zs.length→∀a,A3=some a→w.heap.size≤a.block):=zh (fun _ a ha=>by
      have h1:=own_ge hO a.block (by rw[ha];rfl);have h2:=HEA.out.size;omega)
     clear hun hO hzs;by_cases hz:zs.length=size
     ·have hzb:((zs.length:Int) != (size:Int))=false:=by rw[hz];simp
      have HRT2:Hid (takeAt xs at_ most= .ok kind zs next):=zh (by rw[HRT.out];simp only;rw[if_pos hz]);clear hz HRT;go_wp2_with fail;refine wp_still (by kernel_rfl) (by kernel_rfl) ?_
      repeat still_step
      refine wpStill_nil ?_;go_wp2_with fail;refine bodyPost_ret (v:= .tuple #[.int .u8 (kind:Int),.slice A3 zs.length c3,.int .i64 (next:Int),.int .i64 0]) (by simp[results,Tryz.results78,go_sem]) rfl ?_;rw[HRT2.out];exact⟨zxd HE2.out,A3,c3,rfl,HBZ.out.ext (zxd (zxr _)),HFZ.out⟩
     ·have hzb:((zs.length:Int) != (size:Int))=true:=by simp;omega
      have HRT2:Hid (takeAt xs at_ most= .bad 4):=zh (by rw[HRT.out];simp only;rw[if_neg hz]);clear hz;go_wp2_with fail;refine bodyPost_ret (v:= .tuple #[.int .u8 0,.slice none 0 0,.int .i64 0,.int .i64 4]) (by simp[results,Tryz.results78,go_sem]) rfl ?_;rw[HRT2.out];exact⟨HE2.out,by decide,rfl⟩
   ·have hhb:((h:Int)==1)=false:=zw12.2 (by omega)
    have HRT:Hid (takeAt xs at_ most= .ok kind ys next):=zh (by rw[HTK.out];simp only;rw[if_neg hmo,if_neg hh]);clear HTK hh;go_wp2_with fail;refine wp_still (by kernel_rfl) (by kernel_rfl) ?_
    repeat still_step
    refine wpStill_nil ?_;go_wp2_with fail;refine bodyPost_ret (v:= .tuple #[.int .u8 (kind:Int),.slice A' ys.length c',.int .i64 (next:Int),.int .i64 0]) (by simp[results,Tryz.results78,go_sem]) rfl ?_;rw[HRT.out];exact⟨zxd HEA.out,A',c',rfl,HB2.out.ext (zxd (zxr _)),HFR.out⟩
theorem fx_be' {ys:List Nat} (h:∀c∈ys,c<256) (hl:ys.length=4):fx (be ys)=ys:=by
 match ys,hl,h with
 | [a,b,c,d],_,h=>
  have h1:=h a (by simp);have h2:=h b (by simp);have h3:=h c (by simp);have h4:=h d (by simp);simp only[be,List.foldl_cons,List.foldl_nil,fx,List.cons.injEq,and_true];refine⟨by omega,by omega,by omega,by omega⟩
theorem drop_app {xs ys:List Nat} {n:Nat} (h:n=xs.length):(xs++ys).drop n=ys:=by subst h;exact List.drop_left
theorem take_app {xs ys:List Nat} {n:Nat} (h:n=xs.length):(xs++ys).take n=xs:=by subst h;exact List.take_left
theorem lim_put {m:Nat} (h:m≤2147483647) (ys:List Nat):lim (vr 0 0 (vb m++ys))= .ok m (vb m).length:=by
 rw[vr_put (by omega)];simp[lim,h]
theorem scan_chunk (kind:Nat) (xs ys:List Nat) (hl:xs.length≤2147483647):Chk.scan (chunk kind xs++ys)= .ok (how xs) xs.length (body xs).length (2+(vb xs.length).length+(vb (body xs).length).length):=by
 have hb:=body_len xs;have e:chunk kind xs++ys=kind::how xs::(vb xs.length++(vb (body xs).length++(body xs++(fx (crc (head kind xs))++ys)))):=by
  simp[chunk,head,zw7]
 rw[e];unfold Chk.scan;rw[if_neg (by simp)];have e1:(kind::how xs::(vb xs.length++(vb (body xs).length++(body xs++(fx (crc (head kind xs))++ys))))).getD 1 0=how xs:=rfl;have e2:(kind::how xs::(vb xs.length++(vb (body xs).length++(body xs++(fx (crc (head kind xs))++ys))))).drop 2=vb xs.length++(vb (body xs).length++(body xs++(fx (crc (head kind xs))++ys))):=rfl;rw[e1,e2,if_neg (by have:=how_le xs;omega),lim_put hl];simp only;have e3:(kind::how xs::(vb xs.length++(vb (body xs).length++(body xs++(fx (crc (head kind xs))++ys))))).drop (2+(vb xs.length).length)=vb (body xs).length++(body xs++(fx (crc (head kind xs))++ys)):=by
  rw[←zw31];exact drop_app rfl
 rw[e3,lim_put (by omega)];simp only;rw[if_neg];unfold how body;by_cases h:(Lz.pk xs 0 0).length<xs.length
 ·rw[if_pos h,if_pos h];omega
 ·rw[if_neg h,if_neg h];omega
theorem read_chunk (kind:Nat) (xs ys:List Nat) (hl:xs.length≤2147483647):Chk.read (chunk kind xs++ys)= .ok kind (how xs) xs.length (body xs) (chunk kind xs).length:=by
 have hh:=head_len kind xs;have hc:=chunk_len kind xs;unfold Chk.read;rw[scan_chunk kind xs ys hl];simp only;have e0:chunk kind xs++ys=head kind xs++(fx (crc (head kind xs))++ys):=by simp[chunk,zw7]
 have e1:(chunk kind xs++ys).take (2+(vb xs.length).length+(vb (body xs).length).length+(body xs).length)=head kind xs:=by rw[e0];exact take_app (by omega)
 have e2:((chunk kind xs++ys).drop (2+(vb xs.length).length+(vb (body xs).length).length+(body xs).length)).take 4=fx (crc (head kind xs)):=by
  rw[e0,drop_app (by omega)];exact take_app rfl
 have e3:((chunk kind xs++ys).drop (2+(vb xs.length).length+(vb (body xs).length).length)).take (body xs).length=body xs:=by
  have e4:chunk kind xs++ys=(kind::how xs::(vb xs.length++vb (body xs).length))++(body xs++(fx (crc (head kind xs))++ys)):=by simp[chunk,head,zw7]
  rw[e4,drop_app (by simp;omega)];exact take_app rfl
 have e5:(chunk kind xs++ys).getD 0 0=kind:=rfl;rw[if_neg (by rw[zw0];omega),e1,e2,e3,e5,be_fx (crc_lt _),if_neg (by simp)]
 congr 1;omega
theorem burst1 {head:List Nat} (hs:∀c∈head,c<256) {i:Nat} (hi:i<head.length) {c':Nat} (hc:c'<256) (h:crc head=crc (head.set i c')):c'=head.getD i 0:=by
 have h1:Crc.moreW 0#32 head=Crc.moreW 0#32 (head.set i c'):=BitVec.eq_of_toNat_eq h;have e1:head=head.take i++[head.getD i 0]++head.drop (i+1):=by
  rw[zw5,zw6 hi];simp
 have e2:head.set i c'=head.take i++[c']++head.drop (i+1):=by
  rw[List.set_eq_take_append_cons_drop,if_pos hi];simp
 rw[e2]at h1;have h1:Crc.moreW 0#32 (head.take i++[head.getD i 0]++head.drop (i+1))=Crc.moreW 0#32 (head.take i++[c']++head.drop (i+1)):=by rw[←e1];exact h1
 have:=Crc.burst 0#32 (head.take i) [head.getD i 0] [c'] (head.drop (i+1)) rfl (fun c hc2=>by
  simp only[zw30,List.not_mem_nil,or_false]at hc2;rw[hc2,zw5,zw6 hi];exact hs _ (zw25 hi)) (fun c hc2=>by
  simp only[zw30,List.not_mem_nil,or_false]at hc2;omega) (by simp) h1
 simpa using this.symm
theorem readAt_app {ps L:List Nat}:readAt (ps++L) (ps.length:Int)=match Chk.read L with
  | .bad e=> .bad e
  | .ok kind h size ys next=> .ok kind h size ys (ps.length+next):=by
 unfold readAt;rw[if_neg (by rw[zw0];omega),zw35,drop_app rfl];rfl
theorem take_chunk {kind:Nat} {xs:List Nat} (hx:∀j,xs.getD j 0<256) (ps ys:List Nat) (hl:xs.length≤2147483647) (most:Int) (hm:(xs.length:Int)≤most):takeAt (ps++(chunk kind xs++ys)) (ps.length:Int) most= .ok kind xs (ps.length+(chunk kind xs).length):=by
 unfold takeAt;rw[readAt_app,read_chunk kind xs ys hl];simp only;rw[if_neg (by omega)];unfold how body;by_cases h:(Lz.pk xs 0 0).length<xs.length
 ·rw[if_pos h,if_pos rfl,if_pos h]
  have:=Lz.unp_pk hx _ 0 0 rfl (zw8 _) (Nat.zero_le _);rw[zw29]at this;rw[this];simp
 ·rw[if_neg h,if_neg (by omega),if_neg h]
theorem own_blk {W w:World} {g n c:Nat} {zs:List Nat} (h:Wire.Own W w (.slice (some ⟨g,0,none⟩) n c) zs) (hp:0<n):∃cur,Blk w g 5 cur∧∀j,j<zs.length→cur[j]? =some (.int .u8 (zs.getD j 0:Nat)):=by
 rcases h.2 with ⟨h1,_⟩ | ⟨g',cap,cur,h1,h2,h3,h4,h5,h6,h7⟩
 ·cases h1
 ·obtain⟨h8,h9,h10⟩:=Value.slice.inj h1
  obtain rfl:g=g':=by cases h8;rfl
  refine⟨cur,h3,fun j hj=>?_⟩;have h11:=c8_at hj;rw[←h7,List.getElem?_take,if_pos (by omega)]at h11;rw[←h11];simp
theorem bs_blk {w:World} {g:Nat} {t:TypeId} {cur:Array Value} {zs:List Nat} (h:Blk w g t cur) (hc:∀j,j<zs.length→cur[j]? =some (.int .u8 (zs.getD j 0:Nat))) (hz:∀j,zs.getD j 0<256):Bs w (some ⟨g,0,none⟩) zs.length zs:=
 ⟨rfl,hz,fun hp=>⟨g,0,rfl,h.lt,fun j hj=>by rw[Nat.zero_add,h.cell,hc j hj]⟩⟩
theorem blk_put {w:World} {g:Nat} {t:TypeId} {cur:Array Value} {zs:List Nat} (h:Blk w g t cur) (hc:∀j,j<zs.length→cur[j]? =some (.int .u8 (zs.getD j 0:Nat))) (i c':Nat):
  Blk (w.setCell ⟨g,i,none⟩ (.int .u8 (c':Int))) g t (cur.setIfInBounds i (.int .u8 (c':Int)))∧∀j,j<(zs.set i c').length→(cur.setIfInBounds i (.int .u8 (c':Int)))[j]? =some (.int .u8 ((zs.set i c').getD j 0:Nat)):=by
 refine⟨h.set_ i _,fun j hj=>?_⟩;rw[List.length_set]at hj;have h1:=hc j hj;have h2:j<cur.size:=by
  rcases Nat.lt_or_ge j cur.size with h | h
  ·exact h
  ·rw[Array.getElem?_eq_none h]at h1;cases h1
 rw[Array.getElem?_setIfInBounds,zw5,List.getElem?_set];by_cases hij:i=j
 ·subst hij
  rw[if_pos rfl,if_pos h2,if_pos rfl,if_pos hj];rfl
 ·rw[if_neg hij,if_neg hij,h1,zw5]
theorem set_small {zs:List Nat} (hz:∀j,zs.getD j 0<256) {i c':Nat} (hc:c'<256):∀j,(zs.set i c').getD j 0<256:=small_mem fun c h=>by
 rcases List.mem_or_eq_of_mem_set h with h | h
 ·exact mem_small hz c h
 ·omega
theorem xor8 (a b:Nat):bits .xor .u8 (a:Int) (b:Int)=((BitVec.ofNat 8 a ^^^BitVec.ofNat 8 b).toNat:Int):=by
 show IntKind.u8.wrap ((BitVec.ofInt 8 (a:Int) ^^^BitVec.ofInt 8 (b:Int)).toNat:Int)=_;rw[BitVec.ofInt_natCast,BitVec.ofInt_natCast];have:=(BitVec.ofNat 8 a ^^^BitVec.ofNat 8 b).isLt;rw[IntKind.wrap_u8];omega
theorem xor8_ne {a b:Nat} (ha:a<256) (hb:b<256) (h0:b≠0):∃y:Nat,y<256∧bits .xor .u8 (a:Int) (b:Int)=(y:Int)∧y≠a:=by
 refine⟨_,(BitVec.ofNat 8 a ^^^BitVec.ofNat 8 b).isLt,xor8 a b,fun h=>h0 ?_⟩;have h1:BitVec.ofNat 8 a ^^^BitVec.ofNat 8 b=BitVec.ofNat 8 a:=by
  apply BitVec.eq_of_toNat_eq;rw[h,BitVec.toNat_ofNat,Nat.mod_eq_of_lt (by omega)]
 have h2:BitVec.ofNat 8 b=0#8:=by
  have:=congrArg (BitVec.ofNat 8 a ^^^ ·) h1
  simpa [←BitVec.xor_assoc]using this
 have h3:=congrArg BitVec.toNat h2;rw[BitVec.toNat_ofNat,Nat.mod_eq_of_lt (by omega)]at h3
 simpa using h3
end Go.Proofs.YtidnboeihkeljaaGreatDoor.Chk
