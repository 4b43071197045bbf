/- Contracts of package chunk: what stands at a place is read. -/
import Derived.Test.YtbopblbhjcemaaaGreatDoorF08
set_option maxHeartbeats 16000000
set_option maxRecDepth 100000
set_option linter.all false
open Go.ChangeShapes Go.WideShapes Go.ChangeAt Go.RowKit
namespace Go.Proofs.YtbopblbhjcemaaaGreatDoor.Chk
open Wire
def RPost (w:World) (R:RD) (e:Ending) (w':World):Prop:=
 Ext w w'∧match R with
 | .bad f=>f≠0∧e= .returned (.tuple #[.agg #[.int .u8 0,.int .u8 0,.int .i64 0,.slice none 0 0,.int .i64 0],.int .i64 f])
 | .ok kind h size ys next=>∃A' c',e= .returned (.tuple #[.agg #[.int .u8 (kind:Int),.int .u8 (h:Int),.int .i64 (size:Int),.slice A' ys.length c',.int .i64 (next:Int)],.int .i64 0])∧ys.length≤c'∧c'≤9223372036854775807∧(A'=none→ys.length=0∧c'=0)∧Bs w' A' ys.length ys∧(0<ys.length→∀a,A'=some a→w.heap.size≤a.block)
theorem read_out (A:Option Addr) (n c:Nat) (xs:List Nat) (at_:Int) (w:World) (hT:Crc.Tab w) (hB:Bs w A n xs) (hnil:A=none→n=0∧c=0) (hn:n≤c) (hc:c≤9223372036854775807) (hN:n≤1000000) (hout:at_<0∨(n:Int)<at_):
  Calls Tryz.prog 130 #[.slice A n c,.int .i64 at_] w (RPost w (readAt xs at_)):=by
 have HR:Hid (readAt xs at_= .bad 2):=zh (by unfold readAt;rw[if_pos (by rw[hB.1];exact hout)]);clear hB hT hnil hn hc;rcases hout with h | h
 ·go_enter Tryz.func130,Tryz.ntmps130
  go_wp2_with fail;refine bodyPost_ret (v:= .tuple #[.agg #[.int .u8 0,.int .u8 0,.int .i64 0,.slice none 0 0,.int .i64 0],.int .i64 2]) (by simp[results,Tryz.results130,go_sem]) rfl ?_;rw[HR.out];exact⟨zxa (zxr w) _,by decide,rfl⟩
 ·have h0:¬at_<0:=by omega
  go_enter Tryz.func130,Tryz.ntmps130;go_wp2_with fail;refine bodyPost_ret (v:= .tuple #[.agg #[.int .u8 0,.int .u8 0,.int .i64 0,.slice none 0 0,.int .i64 0],.int .i64 2]) (by simp[results,Tryz.results130,go_sem]) rfl ?_;rw[HR.out];exact⟨zxa (zxr w) _,by decide,rfl⟩
theorem bs_piece {w:World} {a:Addr} {n c lo m:Nat} {xs:List Nat} (hB:Bs w (some a) n xs) (hn:n≤c) (hm:lo+m≤n):Bs w (if c=lo then some a else some (a.add lo)) m ((xs.drop lo).take m):=by
 rcases Nat.eq_zero_or_pos m with h0 | hp
 ·subst h0;rw[zw29];exact Bs.none _ _
 ·rw[if_neg (by omega)]
  obtain⟨b,o,e,_,_⟩:=hB.2.2 (by omega);obtain rfl:a=⟨b,o,none⟩:=zw13 e;have hadd:(⟨b,o,none⟩:Addr).add lo=⟨b,o+lo,none⟩:=by unfold Addr.add;split<;>simp_all
  rw[hadd];exact(Wire.Bs.drop hB lo (by omega)).take (by omega)
theorem bs_kept {w w':World} {r:Nat} {A:Option Addr} {n:Nat} {xs:List Nat} (hB:Bs w A n xs) (h:w.grownBy w' (some r)) (hne:0<n→∀a,A=some a→a.block≠r):Bs w' A n xs:=by
 rcases Nat.eq_zero_or_pos n with h0 | hp
 ·subst h0
  have:xs=[]:=zw19 hB.1;subst this;exact Bs.none _ _
 ·exact hB.kept h (fun a ha=>by have:=hne hp a ha;simpa using this)
def cutOf (A:Option Addr) (c lo:Nat):Option Addr:=
 match A with
 | none=>none
 | some a=>if c=lo then some a else some (a.add lo)
theorem cut_none {A:Option Addr} {c lo:Nat} (h:cutOf A c lo=none):A=none:=by
 rcases A with _ | a
 ·rfl
 ·simp only[cutOf]at h;split at h<;>cases h
theorem bs_cut {w:World} {A:Option Addr} {n c lo m:Nat} {xs:List Nat} (hB:Bs w A n xs) (hn:n≤c) (hm:lo+m≤n):Bs w (cutOf A c lo) m ((xs.drop lo).take m):=by
 rcases A with _ | a
 ·rcases Nat.eq_zero_or_pos n with h0 | hp
  ·obtain rfl:m=0:=by omega
   rw[zw29];exact Bs.none _ _
  ·obtain⟨b,o,e,_⟩:=hB.2.2 hp;cases e
 ·exact bs_piece hB hn hm
theorem scan_two {L:List Nat} {h s n k:Nat} (hs:Chk.scan L= .ok h s n k):2≤L.length:=by
 unfold Chk.scan at hs;by_cases h2:L.length<2
 ·rw[if_pos h2]at hs;cases hs
 ·omega
theorem rs_new {w0 w w':World} {g n:Nat} {A':Option Addr} {c':Nat} {M:List Nat} (hE0:Ext w0 w) (hg:w.heap.size≤g) (hr:Rdr w' g (.slice A' n c') 0 0) (hrb:RB w' g A' n c' M) (hE:Ext w w'):
  RS w0 (w'.alloc (.cells #[.pointer (some ⟨g,0,none⟩),.int .i64 0] 217)) (w'.heap.size+1) g w'.heap.size A' n c' M 0 0 0:=by
 have hgl:=Blk.lt hr;have h0:=hE0.size;have h1:=hE.size;have ha:0<n→∀a,A'=some a→a.block<w'.heap.size:=fun hp a e=>by
  obtain⟨b,o,e2,hl,_⟩:=hrb.1.2.2 hp;obtain rfl:=zw13 (e.symm.trans e2);exact hl
 refine⟨hr.ext (zxa (zxr _) _),rb_kept hrb (gb_ext (zxa (zxr _) _) (some w'.heap.size)) (fun hp a e=>by have:=ha hp a e;omega),Blk.new _ _ _,zxa (zxt hE0 hE) _,by omega,by omega,by omega,by omega,by omega,fun hp a e=>by have:=ha hp a e;omega,fun hp a e=>by have:=ha hp a e;omega,by simp⟩
theorem read_in (A:Option Addr) (n c at_:Nat) (xs:List Nat) (w:World) (hT:Crc.Tab w) (hB:Bs w A n xs) (hnil:A=none→n=0∧c=0) (hn:n≤c) (hc:c≤9223372036854775807) (hN:n≤1000000) (hat:at_≤n):
  Calls Tryz.prog 130 #[.slice A n c,.int .i64 (at_:Int)] w (RPost w (readAt xs at_)):=by
 have h0:¬(at_:Int)<0:=by omega
 have h1:¬(n:Int)<(at_:Int):=by omega
 obtain⟨m,hm⟩:∃m:Nat,m=min (n-at_) 22:=⟨_,rfl⟩;have b1:(0:Int)≤(at_:Int):=by omega
 obtain⟨A',hA'⟩:∃A':Option Addr,cutOf A c at_=A':=⟨_,rfl⟩;have HIF:=zh hA';have HM:Hid (∀w',Ext w w'→Bs w' A' m ((xs.drop at_).take m)):=zh (fun w' h=>by rw[←HIF.out];exact(bs_cut hB hn (by omega)).ext h);have HNIL:Hid (A'=none→m=0∧c-at_=0):=zh (fun h=>by
  rw[←HIF.out]at h;have:=hnil (cut_none h);omega)
 have HNL:=zh hnil;have HML:Hid ((xs.drop at_).take m=(xs.drop at_).take 22∧((xs.drop at_).take m).length=m):=zh (by
  have:=hB.1;refine⟨?_,by rw[zw2,zw1];omega⟩;rcases Nat.le_total (n-at_) 22 with h | h
  ·rw[List.take_of_length_le (by rw[zw1];omega),List.take_of_length_le (by rw[zw1];omega)]
  ·rw[hm,Nat.min_eq_right h])
 have HB:=zh hB;have HT:=zh hT;obtain⟨w0,hw0⟩:∃w0,w0=w.alloc (.cells #[.int .u8 0,.int .u8 0,.int .i64 0,.slice none 0 0,.int .i64 0] 206):=⟨_,rfl⟩;have HX1:Hid (Ext w w0):=zh (by rw[hw0];exact zxa (zxr w) _);have HRC:Hid (Blk w0 w.heap.size 206 #[.int .u8 0,.int .u8 0,.int .i64 0,.slice none 0 0,.int .i64 0]):=zh (by rw[hw0];exact Blk.new _ _ _);have HW0:=zh hw0;obtain⟨M,hMM⟩:∃M,M=(xs.drop at_).take m:=⟨_,rfl⟩;rw[←hMM]at HM HML;have HMM:=zh hMM;have HXS:Hid (∀x∈M,x<256):=zh (fun x hx=>by
  rw[HMM.out]at hx;exact mem_small HB.out.2.1 x (List.mem_of_mem_drop (List.mem_of_mem_take hx)))
 obtain⟨B1,hB1⟩:∃B,B=Chk.b1 0 (M.drop 0):=⟨_,rfl⟩;obtain⟨B2,hB2⟩:∃B,B=Chk.b1 B1.2.2 (M.drop (0+B1.2.1)):=⟨_,rfl⟩;have HJ1:Hid (0+B1.2.1≤m):=zh (by
  have:=(b1_lt (e:=0) (rest:=M.drop 0) HXS.out).2;rw[←hB1,zw1,HML.out.2]at this;omega)
 have HJ2:Hid (0+B1.2.1+B2.2.1≤m):=zh (by
  have:=(b1_lt (e:=B1.2.2) (rest:=M.drop (0+B1.2.1)) (fun x hx=>HXS.out x (List.mem_of_mem_drop hx))).2;have h2:=HJ1.out;rw[←hB2,zw1,HML.out.2]at this;omega)
 obtain⟨B3,hB3⟩:∃B,B=i1 B2.2.2 (M.drop (0+B1.2.1+B2.2.1)):=⟨_,rfl⟩;obtain⟨B4,hB4⟩:∃B,B=i1 B3.2.2 (M.drop (0+B1.2.1+B2.2.1+B3.2.1)):=⟨_,rfl⟩;have HJ3:Hid (0+B1.2.1+B2.2.1+B3.2.1≤m):=zh (by
  have:=(i1_le B2.2.2 (M.drop (0+B1.2.1+B2.2.1))).2;have h2:=HJ2.out;rw[←hB3,zw1,HML.out.2]at this;omega)
 have HJ4:Hid (0+B1.2.1+B2.2.1+B3.2.1+B4.2.1≤m):=zh (by
  have:=(i1_le B3.2.2 (M.drop (0+B1.2.1+B2.2.1+B3.2.1))).2;have h2:=HJ3.out;rw[←hB4,zw1,HML.out.2]at this;omega)
 have hk3:B3.1≤2147483647:=by rw[hB3];exact(i1_le _ _).1
 have hk4:B4.1≤2147483647:=by rw[hB4];exact(i1_le _ _).1
 obtain⟨q1,hq1⟩:∃q,q=rf (decide (1<B2.1)) 0 B2.2.2:=⟨_,rfl⟩;obtain⟨q2,hq2⟩:∃q,q=rf (decide (B2.1=0∧B4.1≠B3.1)) q1 B4.2.2:=⟨_,rfl⟩;obtain⟨q3,hq3⟩:∃q,q=rf (decide (B2.1=1∧B3.1≤B4.1)) q2 B4.2.2:=⟨_,rfl⟩;have HB2:=zh hB2;have HB3:=zh hB3;have HB4:=zh hB4;have HQ1:=zh hq1;have HQ2:=zh hq2;have HQ3:=zh hq3;clear hB3 hB4 hq1 hq2 hq3;have HSR:Hid (match Chk.scan (xs.drop at_)with
  | .bad f=>(if q3≠0 then q3 else B4.2.2)=f∧f≠0
  | .ok h s m k=>(if q3≠0 then q3 else B4.2.2)=0∧B2.1=h∧B3.1=s∧B4.1=m∧0+B1.2.1+B2.2.1+B3.2.1+B4.2.1=k∧B1.1=(xs.drop at_).getD 0 0):=zh (by
  have hg:M.getD 0 0=(xs.drop at_).getD 0 0:=by rw[HML.out.1];exact getD_take _ _ _ (by omega)
  rw[←scan_take,←HML.out.1,←hg];simp only[Nat.zero_add]at HB2 HB3 HB4 ⊢;exact scan_run M B1.1 B1.2.1 B2.1 B2.2.1 B3.1 B3.2.1 B4.1 B4.2.1 B1.2.2 B2.2.2 B3.2.2 B4.2.2 q1 q2 q3 (by rw[hB1];rfl) (by rw[←HB2.out]) HQ1.out (by rw[←HB3.out]) (by rw[←HB4.out]) HQ2.out HQ3.out)
 have hk1:B1.1<256:=by rw[hB1];exact(b1_lt HXS.out).1
 have hk2:B2.1<256:=by rw[hB2];exact(b1_lt (fun x hx=>HXS.out x (List.mem_of_mem_drop hx))).1
 have HB1:=zh hB1;clear hB hT hA' hMM hB1 hB2 hw0 hnil;go_enter Tryz.func130,Tryz.ntmps130;go_upto_region 3 with fail
 go_cut [6]from 20 to 142 (fun sv wx=>∃(g sb:Nat) (A2:Option Addr) (c2:Nat),sv= .pointer (some ⟨sb,0,none⟩)∧RS w0 wx (sb+1) g sb A2 m c2 M 0 0 0)
 case first=>
  rcases A with _ | a
  ·obtain⟨rfl,rfl⟩:=HNL.out rfl
   obtain rfl:at_=0:=by omega
   obtain rfl:m=0:=by omega
   obtain rfl:A'=none:=HIF.out.symm;clear hm;go_wp2_with fail;refine(Wire.of none 0 0 M _ (HM.out _ (by rw[←HW0.out];exact HX1.out)) (fun _=>⟨rfl,rfl⟩) (by omega)).mono ?_;rintro e w1 ⟨g,A1,c1,rfl,hg,hr,hrb,hE1⟩;have HRS:=zh (rs_new (by rw[HW0.out];exact zxr _:Ext w0 _) hg hr hrb hE1);clear hg hr hrb hE1;go_wp2_with fail;go_meet;exact⟨g,_,A1,c1,rfl,HRS.out⟩
  ·have HIF:Hid ((if c=at_ then some a else some (a.add at_))=A'):=zh HIF.out
   by_cases hmin:(n:Int)≤(at_:Int)+22
   ·obtain rfl:m=n-at_:=by omega
    clear hm;have hif:=HIF.out;go_wp2_with fail;clear hif;refine(Wire.of A' (n-at_) (c-at_) M _ (HM.out _ (by rw[←HW0.out];exact HX1.out)) HNIL.out (by omega)).mono ?_;rintro e w1 ⟨g,A1,c1,rfl,hg,hr,hrb,hE1⟩;have HRS:=zh (rs_new (by rw[HW0.out];exact zxr _:Ext w0 _) hg hr hrb hE1);clear hg hr hrb hE1;go_wp2_with fail;go_meet;exact⟨g,_,A1,c1,rfl,HRS.out⟩
   ·obtain rfl:m=22:=by omega
    clear hm;have hif:=HIF.out;go_wp2_with fail;clear hif;refine(Wire.of A' 22 (c-at_) M _ (HM.out _ (by rw[←HW0.out];exact HX1.out)) HNIL.out (by omega)).mono ?_;rintro e w1 ⟨g,A1,c1,rfl,hg,hr,hrb,hE1⟩;have HRS:=zh (rs_new (by rw[HW0.out];exact zxr _:Ext w0 _) hg hr hrb hE1);clear hg hr hrb hE1;go_wp2_with fail;go_meet;exact⟨g,_,A1,c1,rfl,HRS.out⟩
 case rest=>
  obtain⟨g,sb,A2,c2,rfl,hRS⟩:=hcut;have HRS:=zh hRS;clear hRS;go_upto_region 4 with fail
  go_cut [7]from 31 to 142 (fun pv wx=>∃(pb:Nat),pv= .pointer (some ⟨pb,0,none⟩)∧sb+1≤pb∧RS w0 wx (sb+1) g sb A2 m c2 M (0+B1.2.1+B2.2.1) B2.2.2 0∧PB wx pb B1.1 B2.1 0 (.slice none 0 0) 0)
  case first=>
   have HSW:=zh (show SK g sb (World.drew _)from(HRS.out.ext (zxd (zxr _))).eN);have HRS:=zh (HRS.out.ext (zxd (zxr _)));refine zw38 (S:=SK g sb) hmx HSW.out (fun _=>?_);generalize World.drew _=WC at*
   (refine zw40 (i:=0) (v:=?_) rfl (by kernel_rfl) (by kernel_rfl) (by kernel_rfl) (fun _ _ _ h=>h) (Or.inl ⟨by rfl,?_⟩) HSW.out ?_);rotate_left
   ·(intro w' hSw;go_simp;try with_reducible rfl)
   (refine zw40 (i:=1) (v:=?_) rfl (by kernel_rfl) (by kernel_rfl) (by kernel_rfl) (fun _ _ _ h=>h) (Or.inl ⟨by rfl,?_⟩) HSW.out ?_);rotate_left
   ·(intro w' hSw;go_simp;try with_reducible rfl)
   (refine zw40 (i:=2) (v:=?_) rfl (by kernel_rfl) (by kernel_rfl) (by kernel_rfl) (fun _ _ _ h=>h) (Or.inl ⟨by rfl,?_⟩) HSW.out ?_);rotate_left
   ·(intro w' hSw;go_simp;try with_reducible rfl)
   (refine zw40 (i:=3) (v:=?_) rfl (by kernel_rfl) (by kernel_rfl) (by kernel_rfl) (fun _ _ _ h=>h) (Or.inl ⟨by rfl,?_⟩) HSW.out ?_);rotate_left
   ·(intro w' hSw;have hsw:w'.cell? ⟨sb,0,none⟩=some (.pointer (some ⟨g,0,none⟩)):=hSw;go_simp;try with_reducible rfl)
   (refine zw40 (i:=6) (v:=?_) rfl (by kernel_rfl) (by kernel_rfl) (by kernel_rfl) (fun _ _ _ h=>h) (Or.inl ⟨by rfl,?_⟩) HSW.out ?_);rotate_left
   ·(intro w' hSw;go_simp;try with_reducible rfl)
   (refine zw40 (i:=7) (v:=?_) rfl (by kernel_rfl) (by kernel_rfl) (by kernel_rfl) (fun _ _ _ h=>h) (Or.inl ⟨by rfl,?_⟩) HSW.out ?_);rotate_left
   ·(intro w' hSw;go_simp;try with_reducible rfl)
   (refine zw40 (i:=8) (v:=?_) rfl (by kernel_rfl) (by kernel_rfl) (by kernel_rfl) (fun _ _ _ h=>h) (Or.inl ⟨by rfl,?_⟩) HSW.out ?_);rotate_left
   ·(intro w' hSw;go_simp;try with_reducible rfl)
   (refine zw40 (i:=9) (v:=?_) rfl (by kernel_rfl) (by kernel_rfl) (by kernel_rfl) (fun _ _ _ h=>h) (Or.inl ⟨by rfl,?_⟩) HSW.out ?_);rotate_left
   ·(intro w' hSw;have hsw:w'.cell? ⟨sb,0,none⟩=some (.pointer (some ⟨g,0,none⟩)):=hSw;go_simp;try with_reducible rfl)
   refine zw41 (rs:=[4,13]) (by kernel_rfl) (by simp) ?_;refine AllReadyH.cons rfl (fun K hK=>?_) (AllReadyH.cons rfl (fun K hK=>?_) zw42)
   ·go_simp
    refine(HRS.out.byte (by omega) (by omega)).mono ?_;rw[←HB1.out];intro e WD hp;obtain⟨v,rfl,hv,hE⟩:=b1_fv hp;clear hp;have HRS:=zh (HRS.out.eff hE);have HV:=zh hv;clear hE hv
    (try go_wp2_with fail)
    refine hK.out _ _ HRS.out.eN fun _=>?_;clear hK K HSW;have HSW:=zh (show SK g sb WD from HRS.out.eN);skip;generalize WD=WC at*;refine zw41 (rs:=[5,13]) (by kernel_rfl) (by simp) ?_;refine AllReadyH.cons rfl (fun K hK=>?_) (AllReadyH.cons rfl (fun K hK=>?_) zw42)
    ·go_simp
     refine(HV.out.first).mono ?_;rintro e W3 ⟨rfl,rfl⟩
     (try go_wp2_with fail)
     refine hK.out _ _ HRS.out.eN fun _=>?_;clear hK K HV;refine zw41 (rs:=[10,13]) (by kernel_rfl) (by simp) ?_;refine AllReadyH.cons rfl (fun K hK=>?_) (AllReadyH.cons rfl (fun K hK=>?_) zw42)
     ·go_simp
      refine(HRS.out.byte HJ1.out (by omega)).mono ?_;rw[←HB2.out];intro e WD hp;obtain⟨v,rfl,hv,hE⟩:=b1_fv hp;clear hp;have HRS:=zh (HRS.out.eff hE);have HV:=zh hv;clear hE hv
      (try go_wp2_with fail)
      refine hK.out _ _ HRS.out.eN fun _=>?_;clear hK K HSW;have HSW:=zh (show SK g sb WD from HRS.out.eN);skip;generalize WD=WC at*;refine zw41 (rs:=[11,13]) (by kernel_rfl) (by simp) ?_;refine AllReadyH.cons rfl (fun K hK=>?_) (AllReadyH.cons rfl (fun K hK=>?_) zw42)
      ·go_simp
       refine(HV.out.first).mono ?_;rintro e W3 ⟨rfl,rfl⟩
       (try go_wp2_with fail)
       refine hK.out _ _ HRS.out.eN fun _=>?_;clear hK K HV
       (refine zw40 (i:=12) (v:=?_) rfl (by kernel_rfl) (by kernel_rfl) (by kernel_rfl) (fun _ _ _ h=>h) (Or.inl ⟨by rfl,?_⟩) HSW.out ?_);rotate_left
       ·(intro w' hSw;go_simp;try with_reducible rfl)
       refine zqO (i:=13) (by kernel_rfl) rfl fun K hK=>?_;have hpb:=HRS.out.nN;have HAL:=zh (Blk.new WC 206 #[.int .u8 0,.int .u8 0,.int .i64 0,.slice none 0 0,.int .i64 0]);have HRS:=zh (HRS.out.ext (zxa (zxr WC) (.cells #[.int .u8 0,.int .u8 0,.int .i64 0,.slice none 0 0,.int .i64 0] 206)));go_simp;refine hK.out _ _ HRS.out.eN fun _=>?_;clear hK K;skip;generalize WC.heap.size=pb at*;have HSW:=zh HRS.out.eN;generalize WC.alloc (.cells #[.int .u8 0,.int .u8 0,.int .i64 0,.slice none 0 0,.int .i64 0] 206)=WC at*;refine zqO (i:=14) (by kernel_rfl) rfl fun K hK=>?_;have z0:=HAL.out.cell 0;have z1:=HAL.out.cell 1;have z2:=HAL.out.cell 2;have z3:=HAL.out.cell 3;have z4:=HAL.out.cell 4;simp only[zzD,zzE,zzF]at z0 z1 z2 z3 z4;have y0:=HAL.out.frozen 0;have y1:=HAL.out.frozen 1;have y2:=HAL.out.frozen 2;have y3:=HAL.out.frozen 3;have y4:=HAL.out.frozen 4;go_simp;refine hK.out _ _ (HRS.out.far hpb (gb_set5 _ pb _ _ _ _ _)).eN (fun _=>?_);refine zw39 (by kernel_rfl) ?_ _;go_wp2_with fail;go_meet;exact⟨pb,rfl,hpb,HRS.out.far hpb (gb_set5 _ pb _ _ _ _ _),blk_set5 HAL.out _ _ _ _ _⟩
      ·have hpb:=HRS.out.nN
       have HAL:=zh (Blk.new WC 206 #[.int .u8 0,.int .u8 0,.int .i64 0,.slice none 0 0,.int .i64 0]);have HRS:=zh (HRS.out.ext (zxa (zxr WC) (.cells #[.int .u8 0,.int .u8 0,.int .i64 0,.slice none 0 0,.int .i64 0] 206)));go_simp;refine hK.out _ _ HRS.out.eN fun _=>?_;clear hK K;have HV:=zh (HV.out.ext (zxa (zxr WC) (.cells #[.int .u8 0,.int .u8 0,.int .i64 0,.slice none 0 0,.int .i64 0] 206)));generalize WC.heap.size=pb at*;have HSW:=zh HRS.out.eN;generalize WC.alloc (.cells #[.int .u8 0,.int .u8 0,.int .i64 0,.slice none 0 0,.int .i64 0] 206)=WC at*;refine zqO (i:=11) (by kernel_rfl) rfl fun K hK=>?_;go_simp;refine(HV.out.first).mono ?_;rintro e W3 ⟨rfl,rfl⟩
       (try go_wp2_with fail)
       refine hK.out _ _ HRS.out.eN fun _=>?_;clear hK K HV
       (refine zw40 (i:=12) (v:=?_) rfl (by kernel_rfl) (by kernel_rfl) (by kernel_rfl) (fun _ _ _ h=>h) (Or.inl ⟨by rfl,?_⟩) HSW.out ?_);rotate_left
       ·(intro w' hSw;go_simp;try with_reducible rfl)
       refine zqO (i:=14) (by kernel_rfl) rfl fun K hK=>?_;have z0:=HAL.out.cell 0;have z1:=HAL.out.cell 1;have z2:=HAL.out.cell 2;have z3:=HAL.out.cell 3;have z4:=HAL.out.cell 4;simp only[zzD,zzE,zzF]at z0 z1 z2 z3 z4;have y0:=HAL.out.frozen 0;have y1:=HAL.out.frozen 1;have y2:=HAL.out.frozen 2;have y3:=HAL.out.frozen 3;have y4:=HAL.out.frozen 4;go_simp;refine hK.out _ _ (HRS.out.far hpb (gb_set5 _ pb _ _ _ _ _)).eN (fun _=>?_);refine zw39 (by kernel_rfl) ?_ _;go_wp2_with fail;go_meet;exact⟨pb,rfl,hpb,HRS.out.far hpb (gb_set5 _ pb _ _ _ _ _),blk_set5 HAL.out _ _ _ _ _⟩
     ·have hpb:=HRS.out.nN
      have HAL:=zh (Blk.new WC 206 #[.int .u8 0,.int .u8 0,.int .i64 0,.slice none 0 0,.int .i64 0]);have HRS:=zh (HRS.out.ext (zxa (zxr WC) (.cells #[.int .u8 0,.int .u8 0,.int .i64 0,.slice none 0 0,.int .i64 0] 206)));go_simp;refine hK.out _ _ HRS.out.eN fun _=>?_;clear hK K;skip;generalize WC.heap.size=pb at*;have HSW:=zh HRS.out.eN;generalize WC.alloc (.cells #[.int .u8 0,.int .u8 0,.int .i64 0,.slice none 0 0,.int .i64 0] 206)=WC at*;refine zqO (i:=10) (by kernel_rfl) rfl fun K hK=>?_;go_simp;refine(HRS.out.byte HJ1.out (by omega)).mono ?_;rw[←HB2.out];intro e WD hp;obtain⟨v,rfl,hv,hE⟩:=b1_fv hp;clear hp;have HAL:=zh (blk_kept HAL.out hE.2 (by have:=HRS.out.gN;omega));have HRS:=zh (HRS.out.eff hE);have HV:=zh hv;clear hE hv
      (try go_wp2_with fail)
      refine hK.out _ _ HRS.out.eN fun _=>?_;clear hK K HSW;have HSW:=zh (show SK g sb WD from HRS.out.eN);skip;generalize WD=WC at*;refine zqO (i:=11) (by kernel_rfl) rfl fun K hK=>?_;go_simp;refine(HV.out.first).mono ?_;rintro e W3 ⟨rfl,rfl⟩
      (try go_wp2_with fail)
      refine hK.out _ _ HRS.out.eN fun _=>?_;clear hK K HV
      (refine zw40 (i:=12) (v:=?_) rfl (by kernel_rfl) (by kernel_rfl) (by kernel_rfl) (fun _ _ _ h=>h) (Or.inl ⟨by rfl,?_⟩) HSW.out ?_);rotate_left
      ·(intro w' hSw;go_simp;try with_reducible rfl)
      refine zqO (i:=14) (by kernel_rfl) rfl fun K hK=>?_;have z0:=HAL.out.cell 0;have z1:=HAL.out.cell 1;have z2:=HAL.out.cell 2;have z3:=HAL.out.cell 3;have z4:=HAL.out.cell 4;simp only[zzD,zzE,zzF]at z0 z1 z2 z3 z4;have y0:=HAL.out.frozen 0;have y1:=HAL.out.frozen 1;have y2:=HAL.out.frozen 2;have y3:=HAL.out.frozen 3;have y4:=HAL.out.frozen 4;go_simp;refine hK.out _ _ (HRS.out.far hpb (gb_set5 _ pb _ _ _ _ _)).eN (fun _=>?_);refine zw39 (by kernel_rfl) ?_ _;go_wp2_with fail;go_meet;exact⟨pb,rfl,hpb,HRS.out.far hpb (gb_set5 _ pb _ _ _ _ _),blk_set5 HAL.out _ _ _ _ _⟩
    ·have hpb:=HRS.out.nN
     have HAL:=zh (Blk.new WC 206 #[.int .u8 0,.int .u8 0,.int .i64 0,.slice none 0 0,.int .i64 0]);have HRS:=zh (HRS.out.ext (zxa (zxr WC) (.cells #[.int .u8 0,.int .u8 0,.int .i64 0,.slice none 0 0,.int .i64 0] 206)));go_simp;refine hK.out _ _ HRS.out.eN fun _=>?_;clear hK K;have HV:=zh (HV.out.ext (zxa (zxr WC) (.cells #[.int .u8 0,.int .u8 0,.int .i64 0,.slice none 0 0,.int .i64 0] 206)));generalize WC.heap.size=pb at*;have HSW:=zh HRS.out.eN;generalize WC.alloc (.cells #[.int .u8 0,.int .u8 0,.int .i64 0,.slice none 0 0,.int .i64 0] 206)=WC at*;refine zqO (i:=5) (by kernel_rfl) rfl fun K hK=>?_;go_simp;refine(HV.out.first).mono ?_;rintro e W3 ⟨rfl,rfl⟩
     (try go_wp2_with fail)
     refine hK.out _ _ HRS.out.eN fun _=>?_;clear hK K HV;refine zqO (i:=10) (by kernel_rfl) rfl fun K hK=>?_;go_simp;refine(HRS.out.byte HJ1.out (by omega)).mono ?_;rw[←HB2.out];intro e WD hp;obtain⟨v,rfl,hv,hE⟩:=b1_fv hp;clear hp;have HAL:=zh (blk_kept HAL.out hE.2 (by have:=HRS.out.gN;omega));have HRS:=zh (HRS.out.eff hE);have HV:=zh hv;clear hE hv
     (try go_wp2_with fail)
     refine hK.out _ _ HRS.out.eN fun _=>?_;clear hK K HSW;have HSW:=zh (show SK g sb WD from HRS.out.eN);skip;generalize WD=WC at*;refine zqO (i:=11) (by kernel_rfl) rfl fun K hK=>?_;go_simp;refine(HV.out.first).mono ?_;rintro e W3 ⟨rfl,rfl⟩
     (try go_wp2_with fail)
     refine hK.out _ _ HRS.out.eN fun _=>?_;clear hK K HV
     (refine zw40 (i:=12) (v:=?_) rfl (by kernel_rfl) (by kernel_rfl) (by kernel_rfl) (fun _ _ _ h=>h) (Or.inl ⟨by rfl,?_⟩) HSW.out ?_);rotate_left
     ·(intro w' hSw;go_simp;try with_reducible rfl)
     refine zqO (i:=14) (by kernel_rfl) rfl fun K hK=>?_;have z0:=HAL.out.cell 0;have z1:=HAL.out.cell 1;have z2:=HAL.out.cell 2;have z3:=HAL.out.cell 3;have z4:=HAL.out.cell 4;simp only[zzD,zzE,zzF]at z0 z1 z2 z3 z4;have y0:=HAL.out.frozen 0;have y1:=HAL.out.frozen 1;have y2:=HAL.out.frozen 2;have y3:=HAL.out.frozen 3;have y4:=HAL.out.frozen 4;go_simp;refine hK.out _ _ (HRS.out.far hpb (gb_set5 _ pb _ _ _ _ _)).eN (fun _=>?_);refine zw39 (by kernel_rfl) ?_ _;go_wp2_with fail;go_meet;exact⟨pb,rfl,hpb,HRS.out.far hpb (gb_set5 _ pb _ _ _ _ _),blk_set5 HAL.out _ _ _ _ _⟩
   ·have hpb:=HRS.out.nN
    have HAL:=zh (Blk.new WC 206 #[.int .u8 0,.int .u8 0,.int .i64 0,.slice none 0 0,.int .i64 0]);have HRS:=zh (HRS.out.ext (zxa (zxr WC) (.cells #[.int .u8 0,.int .u8 0,.int .i64 0,.slice none 0 0,.int .i64 0] 206)));go_simp;refine hK.out _ _ HRS.out.eN fun _=>?_;clear hK K;skip;generalize WC.heap.size=pb at*;have HSW:=zh HRS.out.eN;generalize WC.alloc (.cells #[.int .u8 0,.int .u8 0,.int .i64 0,.slice none 0 0,.int .i64 0] 206)=WC at*;refine zqO (i:=4) (by kernel_rfl) rfl fun K hK=>?_;go_simp;refine(HRS.out.byte (by omega) (by omega)).mono ?_;rw[←HB1.out];intro e WD hp;obtain⟨v,rfl,hv,hE⟩:=b1_fv hp;clear hp;have HAL:=zh (blk_kept HAL.out hE.2 (by have:=HRS.out.gN;omega));have HRS:=zh (HRS.out.eff hE);have HV:=zh hv;clear hE hv
    (try go_wp2_with fail)
    refine hK.out _ _ HRS.out.eN fun _=>?_;clear hK K HSW;have HSW:=zh (show SK g sb WD from HRS.out.eN);skip;generalize WD=WC at*;refine zqO (i:=5) (by kernel_rfl) rfl fun K hK=>?_;go_simp;refine(HV.out.first).mono ?_;rintro e W3 ⟨rfl,rfl⟩
    (try go_wp2_with fail)
    refine hK.out _ _ HRS.out.eN fun _=>?_;clear hK K HV;refine zqO (i:=10) (by kernel_rfl) rfl fun K hK=>?_;go_simp;refine(HRS.out.byte HJ1.out (by omega)).mono ?_;rw[←HB2.out];intro e WD hp;obtain⟨v,rfl,hv,hE⟩:=b1_fv hp;clear hp;have HAL:=zh (blk_kept HAL.out hE.2 (by have:=HRS.out.gN;omega));have HRS:=zh (HRS.out.eff hE);have HV:=zh hv;clear hE hv
    (try go_wp2_with fail)
    refine hK.out _ _ HRS.out.eN fun _=>?_;clear hK K HSW;have HSW:=zh (show SK g sb WD from HRS.out.eN);skip;generalize WD=WC at*;refine zqO (i:=11) (by kernel_rfl) rfl fun K hK=>?_;go_simp;refine(HV.out.first).mono ?_;rintro e W3 ⟨rfl,rfl⟩
    (try go_wp2_with fail)
    refine hK.out _ _ HRS.out.eN fun _=>?_;clear hK K HV
    (refine zw40 (i:=12) (v:=?_) rfl (by kernel_rfl) (by kernel_rfl) (by kernel_rfl) (fun _ _ _ h=>h) (Or.inl ⟨by rfl,?_⟩) HSW.out ?_);rotate_left
    ·(intro w' hSw;go_simp;try with_reducible rfl)
    refine zqO (i:=14) (by kernel_rfl) rfl fun K hK=>?_;have z0:=HAL.out.cell 0;have z1:=HAL.out.cell 1;have z2:=HAL.out.cell 2;have z3:=HAL.out.cell 3;have z4:=HAL.out.cell 4;simp only[zzD,zzE,zzF]at z0 z1 z2 z3 z4;have y0:=HAL.out.frozen 0;have y1:=HAL.out.frozen 1;have y2:=HAL.out.frozen 2;have y3:=HAL.out.frozen 3;have y4:=HAL.out.frozen 4;go_simp;refine hK.out _ _ (HRS.out.far hpb (gb_set5 _ pb _ _ _ _ _)).eN (fun _=>?_);refine zw39 (by kernel_rfl) ?_ _;go_wp2_with fail;go_meet;exact⟨pb,rfl,hpb,HRS.out.far hpb (gb_set5 _ pb _ _ _ _ _),blk_set5 HAL.out _ _ _ _ _⟩
  case rest=>
   obtain⟨pb,rfl,hpb,hRS,hPB⟩:=hcut;have HRS:=zh hRS;have HPB:=zh hPB;clear hRS hPB;obtain⟨p0,p1,p2,p3,p4,f2,f3,f4⟩:=HPB.out.cells;have hne:sb≠pb:=by have:=HRS.out.sN;omega
   have hng:pb≠g:=by have:=HRS.out.gN;omega
   go_wp2_with fail;refine(HRS.out.refuse _).mono ?_;rintro e W1 ⟨rfl,hS,hG⟩;rw[show decide ((1:Int)<(B2.1:Int))=decide (1<B2.1)from decide_eq_decide.2 (by omega),←HQ1.out]at hS;have HRS:=zh (HRS.out.scn hS hG);have HPB:=zh (show PB W1 pb B1.1 B2.1 0 (.slice none 0 0) 0 from blk_kept HPB.out hG hne.symm);have s0:=HRS.out.eN;clear hS hG p0 p1 p2 p3 p4 f2 f3 f4;go_wp2_with fail;refine(HRS.out.int HJ2.out (by omega)).mono ?_;rw[←HB3.out];rintro e W2 ⟨hE,rfl⟩;have HRS:=zh (HRS.out.eff hE);have HPB:=zh (show PB W2 pb B1.1 B2.1 0 (.slice none 0 0) 0 from blk_kept HPB.out hE.2 hng);clear hE s0;obtain⟨p0,p1,p2,p3,p4,f2,f3,f4⟩:=HPB.out.cells;have s0:=HRS.out.eN;go_wp2_with fail;have HRS:=zh (HRS.out.far hpb (gb_set W2 pb 2 (.int .i64 (B3.1:Int))));have HPB:=zh (show PB (W2.setCell ⟨pb,2,none⟩ (.int .i64 (B3.1:Int))) pb B1.1 B2.1 (B3.1:Int) (.slice none 0 0) 0 from Blk.set_ HPB.out 2 _);clear p0 p1 p2 p3 p4 f2 f3 f4 s0;generalize W2.setCell ⟨pb,2,none⟩ (.int .i64 (B3.1:Int))=W3 at*;refine(HRS.out.int HJ3.out (by omega)).mono ?_;rw[←HB4.out];rintro e W4 ⟨hE,rfl⟩;have HRS:=zh (HRS.out.eff hE);have HPB:=zh (show PB W4 pb B1.1 B2.1 (B3.1:Int) (.slice none 0 0) 0 from blk_kept HPB.out hE.2 hng);clear hE;obtain⟨p0,p1,p2,p3,p4,f2,f3,f4⟩:=HPB.out.cells;have s0:=HRS.out.eN;go_upto_region 8 with fail
   go_cut [8]from 44 to 142 (fun nv wx=>nv= .int .i64 (B4.1:Int)∧RS w0 wx (sb+1) g sb A2 m c2 M (0+B1.2.1+B2.2.1+B3.2.1+B4.2.1) B4.2.2 q2∧PB wx pb B1.1 B2.1 (B3.1:Int) (.slice none 0 0) 0)
   case first=>
    by_cases hh:B2.1=0
    ·have y1:((B2.1:Int)==0)=true:=beq_iff_eq.2 (by omega)
     have HD:Hid (((B4.1:Int) != (B3.1:Int))=decide (B2.1=0∧B4.1≠B3.1)):=zh (by
      by_cases h:B4.1=B3.1
      ·simp[h]
      ·have:¬(B4.1:Int)=(B3.1:Int):=by omega
       simp[h,hh,this])
     clear hh;go_wp2_with fail;refine(HRS.out.refuse _).mono ?_;rintro e W5 ⟨rfl,hS,hG⟩;rw[HD.out,←HQ2.out]at hS;have HRS:=zh (HRS.out.scn hS hG);have HPB:=zh (show PB W5 pb B1.1 B2.1 (B3.1:Int) (.slice none 0 0) 0 from blk_kept HPB.out hG hne.symm);clear hS hG p0 p1 p2 p3 p4 f2 f3 f4 s0;go_wp2_with fail;go_meet;exact⟨rfl,HRS.out,HPB.out⟩
    ·have y1:((B2.1:Int)==0)=false:=zw12.2 (by omega)
     have HD:Hid (false=decide (B2.1=0∧B4.1≠B3.1)):=zh (by simp[hh]);clear hh;go_wp2_with fail;refine(HRS.out.refuse _).mono ?_;rintro e W5 ⟨rfl,hS,hG⟩;rw[HD.out,←HQ2.out]at hS;have HRS:=zh (HRS.out.scn hS hG);have HPB:=zh (show PB W5 pb B1.1 B2.1 (B3.1:Int) (.slice none 0 0) 0 from blk_kept HPB.out hG hne.symm);clear hS hG p0 p1 p2 p3 p4 f2 f3 f4 s0;go_wp2_with fail;go_meet;exact⟨rfl,HRS.out,HPB.out⟩
   case rest=>
    obtain⟨rfl,hRS,hPB⟩:=hcut;have HRS:=zh hRS;have HPB:=zh hPB;clear hRS hPB p0 p1 p2 p3 p4 f2 f3 f4 s0;obtain⟨p0,p1,p2,p3,p4,f2,f3,f4⟩:=HPB.out.cells;have s0:=HRS.out.eN;go_upto_region 9 with fail
    go_cut [8]from 60 to 142 (fun nv wx=>nv= .int .i64 (B4.1:Int)∧RS w0 wx (sb+1) g sb A2 m c2 M (0+B1.2.1+B2.2.1+B3.2.1+B4.2.1) B4.2.2 q3∧PB wx pb B1.1 B2.1 (B3.1:Int) (.slice none 0 0) 0)
    case first=>
     by_cases hh:B2.1=1
     ·have y1:((B2.1:Int)==1)=true:=beq_iff_eq.2 (by omega)
      have HD:Hid (decide (B3.1≤B4.1)=decide (B2.1=1∧B3.1≤B4.1)):=zh (decide_eq_decide.2 (by omega));clear hh;go_wp2_with fail;refine(HRS.out.refuse _).mono ?_;rintro e W5 ⟨rfl,hS,hG⟩;rw[HD.out,←HQ3.out]at hS;have HRS:=zh (HRS.out.scn hS hG);have HPB:=zh (show PB W5 pb B1.1 B2.1 (B3.1:Int) (.slice none 0 0) 0 from blk_kept HPB.out hG hne.symm);clear hS hG p0 p1 p2 p3 p4 f2 f3 f4 s0;go_wp2_with fail;go_meet;exact⟨rfl,HRS.out,HPB.out⟩
     ·have y1:((B2.1:Int)==1)=false:=zw12.2 (by omega)
      have HD:Hid (false=decide (B2.1=1∧B3.1≤B4.1)):=zh (by simp[hh]);clear hh;go_wp2_with fail;refine(HRS.out.refuse _).mono ?_;rintro e W5 ⟨rfl,hS,hG⟩;rw[HD.out,←HQ3.out]at hS;have HRS:=zh (HRS.out.scn hS hG);have HPB:=zh (show PB W5 pb B1.1 B2.1 (B3.1:Int) (.slice none 0 0) 0 from blk_kept HPB.out hG hne.symm);clear hS hG p0 p1 p2 p3 p4 f2 f3 f4 s0;go_wp2_with fail;go_meet;exact⟨rfl,HRS.out,HPB.out⟩
    case rest=>
     obtain⟨rfl,hRS,hPB⟩:=hcut;have HRS:=zh hRS;have HPB:=zh hPB;clear hRS hPB p0 p1 p2 p3 p4 f2 f3 f4 s0;have s0:=HRS.out.eN;obtain⟨f,hf⟩:∃f,f=if q3≠0 then q3 else B4.2.2:=⟨_,rfl⟩;have HF:=zh hf;clear hf;by_cases hz:f=0
     ·have HSC:Hid (∃h s n k,Chk.scan (xs.drop at_)= .ok h s n k∧B2.1=h∧B3.1=s∧B4.1=n∧0+B1.2.1+B2.2.1+B3.2.1+B4.2.1=k∧B1.1=(xs.drop at_).getD 0 0):=zh (by
       have h:=HSR.out;rw[←HF.out]at h;cases hs:Chk.scan (xs.drop at_)with
       | bad f'=>rw[hs]at h;obtain⟨h1,h2⟩:=h;exact absurd (h1.symm.trans hz) h2
       | ok h1 s1 n1 k1=>rw[hs]at h;exact⟨h1,s1,n1,k1,rfl,h.2⟩)
      subst hz;have hj4:=HJ4.out;have hkN:at_+(0+B1.2.1+B2.2.1+B3.2.1+B4.2.1)≤n:=by omega
      generalize 0+B1.2.1+B2.2.1+B3.2.1+B4.2.1=k at*;have HSD:Hid (Chk.scan (xs.drop at_)= .ok B2.1 B3.1 B4.1 k∧B1.1=(xs.drop at_).getD 0 0):=zh (by
       obtain⟨h',s',n',k',h1,h2,h3,h4,h5,h6⟩:=HSC.out;rw[h1,h2,h3,h4,h5];exact⟨rfl,h6⟩)
      have h2n:2≤n:=by
       have h1:=scan_two HSD.out.1;rw[zw1,HB.out.1]at h1;omega
      obtain⟨a,rfl⟩:∃a,A=some a:=by
       rcases A with _ | a
       ·have:=(HNL.out rfl).1;omega
       ·exact⟨a,rfl⟩
      have HIF:Hid ((if c=at_ then some a else some (a.add at_))=A'):=zh HIF.out;clear hj4 HJ1 HJ2 HJ3 HJ4 HSR HB1 HB2 HB3 HB4 HQ1 HQ2 HQ3 HSC;go_wp2_with fail;refine(HRS.out.fault).mono ?_;rw[←HF.out];rintro e W5 ⟨rfl,rfl⟩;go_wp2_with fail;refine(at_any g _ k _ _ HRS.out.rd).mono ?_;rintro e W5 ⟨rfl,rfl⟩;obtain⟨F,hF⟩:∃F,F=at_+k:=⟨_,rfl⟩;go_upto_region 13 with fail;rw[show((at_:Int)+(k:Int))=(F:Int)from by omega];obtain⟨m2,hm2⟩:∃m2,m2=min (n-F) (B4.1+4):=⟨_,rfl⟩;obtain⟨A4,hA4⟩:∃A4:Option Addr,(if c=F then some a else some (a.add F))=A4:=⟨_,rfl⟩;have HIF2:=zh hA4;have hFn:F≤n:=by omega
      have hatF:at_≤F:=by omega
      have HFK:=zh hF;clear hF hkN;obtain⟨M2,hM2⟩:∃M2,M2=(xs.drop F).take m2:=⟨_,rfl⟩;have HM2:Hid (∀w',Ext w w'→Bs w' A4 m2 M2):=zh (fun w' h=>by rw[←HIF2.out,hM2];exact(bs_piece HB.out hn (by omega)).ext h);have HNIL2:Hid (A4=none→m2=0∧c-F=0):=zh (fun h=>by rw[←HIF2.out]at h;split at h<;>cases h)
      have HML2:Hid (M2.length=m2):=zh (by
       have:=HB.out.1;rw[hM2,zw2,zw1];omega)
      have HMM2:=zh hM2;have HE1:=zh (zxt HX1.out HRS.out.ex);have hpl:pb<wc.heap.size:=HPB.out.lt;have b5:(0:Int)≤(F:Int):=by omega
      clear hA4 hM2 s0
      go_cut [6]from 60 to 142 (fun sv wx=>∃(g2 sb2:Nat) (A3:Option Addr) (c3:Nat),sv= .pointer (some ⟨sb2,0,none⟩)∧RS w0 wx (sb2+1) g2 sb2 A3 m2 c3 M2 0 0 0∧PB wx pb B1.1 B2.1 (B3.1:Int) (.slice none 0 0) 0∧pb<g2∧pb<sb2∧(0<m2→∀a,A3=some a→pb<a.block))
      case first=>
       by_cases hmin:(n:Int)≤(F:Int)+(B4.1:Int)+4
       ·obtain rfl:m2=n-F:=by omega
        clear hm2;have hif:=HIF2.out;go_wp2_with fail;clear hif;refine(Wire.ofF A4 (n-F) (c-F) M2 _ (HM2.out _ HE1.out) HNIL2.out (by omega)).mono ?_;rintro e w1 ⟨g2,A1,c1,rfl,hg,hr,hrb,hE1,hfr⟩;have HRS2:=zh (rs_new HRS.out.ex hg hr hrb hE1);have HPB2:=zh (Blk.ext HPB.out (zxa hE1 (.cells #[.pointer (some ⟨g2,0,none⟩),.int .i64 0] 217)));have hz:=hE1.size;have HFR:=zh hfr;clear hr hrb hE1 hfr;go_wp2_with fail;go_meet;exact⟨g2,_,A1,c1,rfl,HRS2.out,HPB2.out,by omega,by omega,fun hp a ha=>by have:=HFR.out hp a ha;omega⟩
       ·obtain rfl:m2=B4.1+4:=by omega
        clear hm2;have hif:=HIF2.out;have hdf:((F:Int)+(B4.1:Int)+4).toNat-F=B4.1+4:=by omega
        go_wp2_with fail;clear hif hdf;refine(Wire.ofF A4 (B4.1+4) (c-F) M2 _ (HM2.out _ HE1.out) HNIL2.out (by omega)).mono ?_;rintro e w1 ⟨g2,A1,c1,rfl,hg,hr,hrb,hE1,hfr⟩;have HRS2:=zh (rs_new HRS.out.ex hg hr hrb hE1);have HPB2:=zh (Blk.ext HPB.out (zxa hE1 (.cells #[.pointer (some ⟨g2,0,none⟩),.int .i64 0] 217)));have hz:=hE1.size;have HFR:=zh hfr;clear hr hrb hE1 hfr;go_wp2_with fail;go_meet;exact⟨g2,_,A1,c1,rfl,HRS2.out,HPB2.out,by omega,by omega,fun hp a ha=>by have:=HFR.out hp a ha;omega⟩
      case rest=>
       have hp0:w0.heap.size≤pb:=by have:=HRS.out.s0;omega
       obtain⟨g2,sb2,A3,c3,rfl,hRS,hPB,hpg,hps,hpa⟩:=hcut;clear HRS HPB;have HRS:=zh hRS;have HPB:=zh hPB;have HPA:=zh hpa;clear hRS hPB hpa hpl HE1;have hpl:=HPB.out.lt;obtain⟨p0,p1,p2,p3,p4,f2,f3,f4⟩:=HPB.out.cells;have s0:=HRS.out.eN;have hne2:sb2≠pb:=by omega
       have HLN:Hid ((xs.drop at_).length=n-at_):=zh (by rw[zw1,HB.out.1]);have HIN:Hid (¬((at_:Int)<0∨(xs.length:Int)<(at_:Int))):=zh (by have:=HB.out.1;omega);go_wp2_with fail;refine(Wire.bytesF g2 m2 c3 0 (B4.1:Int) (by omega) (by omega) A3 M2 _ HRS.out.rd HRS.out.rb (by omega) (by omega)).mono ?_;intro e W6 hp;unfold Wire.BPostF at hp;rw[zw28,zw35]at hp;rcases hp with ⟨h0,_⟩ | ⟨_,h2,rfl,hE⟩ | ⟨_,h2,⟨v,rfl,A6,c6,rfl,r1,r2,r3,hB6,hfr⟩,hE⟩
       ·omega
       ·rw[HML2.out]at h2
        have HRA:Hid (readAt xs at_= .bad 3):=zh (by
         unfold readAt read;rw[if_neg HIN.out,zw35,HSD.out.1];simp only;rw[if_pos (by rw[HLN.out];have:=HFK.out;omega)])
        have HRS:=zh (HRS.out.eff hE);have HPB:=zh (show PB W6 pb B1.1 B2.1 (B3.1:Int) (.slice none 0 0) 0 from blk_kept HPB.out hE.2 (by omega));clear p0 p1 p2 p3 p4 f2 f3 f4 s0 hE;obtain⟨p0,p1,p2,p3,p4,f2,f3,f4⟩:=HPB.out.cells;have s0:=HRS.out.eN;go_wp2_with fail;have HRS:=zh (HRS.out.far2 hp0 (by omega) (by omega) (fun hp a ha=>by have:=HPA.out hp a ha;omega) (gb_set W6 pb 3 (.slice none 0 0)));clear p0 p1 p2 p3 p4 f2 f3 f4 s0 HPB;generalize W6.setCell ⟨pb,3,none⟩ (.slice none 0 0)=W7 at*;refine(fixed_err g2 _ _ 3 _ HRS.out.rd (by decide)).mono ?_;rintro e W8 ⟨rfl,hE⟩;have HRS:=zh (HRS.out.ext hE);have s0:=HRS.out.eN;clear hE;go_wp2_with fail;refine(HRS.out.fault).mono ?_;simp only[ne_eq,not_true_eq_false,if_false];rintro e W9 ⟨rfl,rfl⟩;have HC:=zh (HRC.out.ext HRS.out.ex);have HO:=zh (zxt HX1.out HRS.out.ex);go_wp2_with fail;refine(HRS.out.fault).mono ?_;simp only[ne_eq,not_true_eq_false,if_false];rintro e W9 ⟨rfl,rfl⟩;have z0:=HC.out.cell 0;have z1:=HC.out.cell 1;have z2:=HC.out.cell 2;have z3:=HC.out.cell 3;have z4:=HC.out.cell 4;simp only[zzD,zzE,zzF]at z0 z1 z2 z3 z4;have y0:=HC.out.frozen 0;have y1:=HC.out.frozen 1;have y2:=HC.out.frozen 2;have y3:=HC.out.frozen 3;have y4:=HC.out.frozen 4;have hrl:=HC.out.lt;go_wp2_with fail;refine bodyPost_ret (v:= .tuple #[.agg #[.int .u8 0,.int .u8 0,.int .i64 0,.slice none 0 0,.int .i64 0],.int .i64 3]) (by simp[results,Tryz.results130,go_sem,z0,z1,z2,z3,z4]) rfl ?_;rw[HRA.out];exact⟨ext_grown HO.out (gb_set5 _ _ _ _ _ _ _) (fun k hk=>by obtain rfl:=zw13 hk;exact zw8 _),by decide,rfl⟩

       ·rw[HML2.out]at h2
        have hyl:(M2.take B4.1).length=B4.1:=by rw[zw2,HML2.out];omega
        have HRS:=zh (HRS.out.eff hE);have HPB:=zh (show PB W6 pb B1.1 B2.1 (B3.1:Int) (.slice none 0 0) 0 from blk_kept HPB.out hE.2 (by omega));have hwl:wc.heap.size≤W6.heap.size:=hE.2.size;clear p0 p1 p2 p3 p4 f2 f3 f4 s0 hE;obtain⟨p0,p1,p2,p3,p4,f2,f3,f4⟩:=HPB.out.cells;have s0:=HRS.out.eN;have HFR:=zh hfr;rw[hyl]at r1 r3 HFR hB6 ⊢;have HA6:Hid (0<B4.1→∀a,A6=some a→a.block≠pb):=zh (fun hp a ha=>by have:=HFR.out hp a ha;omega);have hrl0:=HRC.out.lt;have HAR:Hid (0<B4.1→∀a,A6=some a→a.block≠w.heap.size):=zh (fun hp a ha=>by have:=HFR.out hp a ha;omega);have HAW:Hid (0<B4.1→∀a,A6=some a→w.heap.size≤a.block):=zh (fun hp a ha=>by have:=HFR.out hp a ha;omega);clear hrl0;have HB6:=zh hB6;have HR3:=zh r3;obtain⟨ys,hys⟩:∃ys,ys=M2.take B4.1:=⟨_,rfl⟩;rw[←hys]at HB6;have HYS:=zh hys;clear hfr hB6 r3 hyl hys;go_wp2_with fail;have HRS:=zh (HRS.out.far2 hp0 (by omega) (by omega) (fun hp a ha=>by have:=HPA.out hp a ha;omega) (gb_set W6 pb 3 (.slice A6 B4.1 c6)));have HPB:=zh (show PB (W6.setCell ⟨pb,3,none⟩ (.slice A6 B4.1 c6)) pb B1.1 B2.1 (B3.1:Int) (.slice A6 B4.1 c6) 0 from Blk.set_ HPB.out 3 _);have HB6:=zh (bs_kept HB6.out (gb_set W6 pb 3 (.slice A6 B4.1 c6)) (fun hp a ha=>by have:=HFR.out hp a ha;omega));clear p0 p1 p2 p3 p4 f2 f3 f4 s0 HFR hwl;generalize W6.setCell ⟨pb,3,none⟩ (.slice A6 B4.1 c6)=W7 at*;refine(Wire.fixed g2 m2 c3 (0+B4.1) A3 M2 W7 HRS.out.rd HRS.out.rb (by omega) (by omega)).mono ?_;rintro e W8 (⟨h4,rfl,hE⟩ | ⟨h4,rfl,hE⟩)
        ·rw[zw1,HML2.out]at h4
         have HB6:=zh (bs_kept HB6.out hE.2 (fun hp=>bs_rdr HRS.out.rd (fun _ _ h=>by cases h) HB6.out hp));have HRS:=zh (HRS.out.eff hE);have HPB:=zh (show PB W8 pb B1.1 B2.1 (B3.1:Int) (.slice A6 B4.1 c6) 0 from blk_kept HPB.out hE.2 (by omega));have HBE:Hid ((M2.drop (0+B4.1)).take 4=((xs.drop at_).drop (k+B4.1)).take 4):=zh (by
          rw[HMM2.out,Nat.zero_add,List.drop_take,zw31,List.take_take,zw31,HFK.out]
          congr 1
          ·omega
          ·congr 1;omega)
         rw[HBE.out];have hbl:be (((xs.drop at_).drop (k+B4.1)).take 4)<4294967296:=be_lt (fun x hx=>mem_small HB.out.2.1 x (List.mem_of_mem_drop (List.mem_of_mem_drop (List.mem_of_mem_take hx)))) (by rw[zw2];omega);obtain⟨sm,hsm⟩:∃sm,sm=be (((xs.drop at_).drop (k+B4.1)).take 4):=⟨_,rfl⟩;rw[←hsm]at hbl ⊢;have HSM:=zh hsm;have hFB:F+B4.1≤n:=by omega
         have HSUM:Hid (∀W,Ext w W→Calls Tryz.prog 52 #[.slice A' (F+B4.1-at_) (c-at_)] W fun e w'=>e= .returned (.int .u32 (crc ((xs.drop at_).take (k+B4.1)):Int))∧W=w'):=zh (fun W hW=>by
          have hb:=bs_piece (lo:=at_) (m:=F+B4.1-at_) (HB.out.ext hW) hn (by omega);rw[HIF.out,show F+B4.1-at_=k+B4.1 from by have:=HFK.out;omega]at hb;rw[show F+B4.1-at_=k+B4.1 from by have:=HFK.out;omega];exact Crc.sum A' _ _ _ W (HT.out.ext hW) hb (by have:=HFK.out;omega))
         have hcr:=crc_lt ((xs.drop at_).take (k+B4.1));obtain⟨cr,hcr2⟩:∃cr,cr=crc ((xs.drop at_).take (k+B4.1)):=⟨_,rfl⟩;rw[←hcr2]at hcr HSUM;have HCR:=zh hcr2;have HO:=zh (zxt HX1.out HRS.out.ex);clear hE hsm hcr2 HBE;go_wp2_with fail;refine(HRS.out.fault).mono ?_;simp only[ne_eq,not_true_eq_false,if_false];rintro e W9 ⟨rfl,rfl⟩;have hif:=HIF.out;have hto:((F:Int)+(B4.1:Int)).toNat=F+B4.1:=by omega
         go_wp2_with fail;clear hif hto;refine(HSUM.out _ HO.out).mono ?_;rintro e W9 ⟨rfl,rfl⟩;have HC:=zh (HRC.out.ext HRS.out.ex);by_cases heq:sm=cr
         ·subst heq
          obtain⟨p0,p1,p2,p3,p4,f2,f3,f4⟩:=HPB.out.cells;have HRA:Hid (readAt xs at_= .ok B1.1 B2.1 B3.1 ys (F+B4.1+4)):=zh (by
           unfold readAt read;rw[if_neg HIN.out,zw35,HSD.out.1];simp only;rw[if_neg (by rw[HLN.out];have:=HFK.out;omega),if_neg (by rw[←HSM.out,←HCR.out];simp),←HSD.out.2];simp only;have e1:((xs.drop at_).drop k).take B4.1=ys:=by
            rw[HYS.out,HMM2.out,List.take_take,zw31,HFK.out]
            congr 1;omega
           rw[e1,HFK.out]
           congr 1;omega)
          go_upto_region 21 with fail;have HPB:=zh (show PB (W8.setCell ⟨pb,4,none⟩ (.int .i64 ((F:Int)+(B4.1:Int)+4))) pb B1.1 B2.1 (B3.1:Int) (.slice A6 B4.1 c6) ((F:Int)+(B4.1:Int)+4)from Blk.set_ HPB.out 4 _);have HRS:=zh (HRS.out.far2 hp0 (by omega) (by omega) (fun hp a ha=>by have:=HPA.out hp a ha;omega) (gb_set W8 pb 4 (.int .i64 ((F:Int)+(B4.1:Int)+4))));have hbx:0<B4.1→∀a,A6=some a→a.block≠pb:=HA6.out;have HB6:=zh (bs_kept HB6.out (gb_set W8 pb 4 (.int .i64 ((F:Int)+(B4.1:Int)+4))) hbx);clear p0 p1 p2 p3 p4 f2 f3 f4 HO HC hbx;generalize W8.setCell ⟨pb,4,none⟩ (.int .i64 ((F:Int)+(B4.1:Int)+4))=WX at*;obtain⟨p0,p1,p2,p3,p4,f2,f3,f4⟩:=HPB.out.cells;have HC:=zh (HRC.out.ext HRS.out.ex);have HO:=zh (zxt HX1.out HRS.out.ex);have z0:=HC.out.cell 0;have z1:=HC.out.cell 1;have z2:=HC.out.cell 2;have z3:=HC.out.cell 3;have z4:=HC.out.cell 4;simp only[zzD,zzE,zzF]at z0 z1 z2 z3 z4;have y0:=HC.out.frozen 0;have y1:=HC.out.frozen 1;have y2:=HC.out.frozen 2;have y3:=HC.out.frozen 3;have y4:=HC.out.frozen 4;have hrl:=HC.out.lt;go_wp2_with fail;refine bodyPost_ret (v:= .tuple #[.agg #[.int .u8 (B1.1:Int),.int .u8 (B2.1:Int),.int .i64 (B3.1:Int),.slice A6 B4.1 c6,.int .i64 ((F:Int)+(B4.1:Int)+4)],.int .i64 0]) (by simp[results,Tryz.results130,go_sem,z0,z1,z2,z3,z4]) rfl ?_;rw[HRA.out];have hyl:ys.length=B4.1:=HB6.out.1;have hap:0<B4.1→∀a,A6=some a→a.block≠w.heap.size:=HAR.out;refine⟨ext_grown HO.out (gb_set5 _ _ _ _ _ _ _) (fun k hk=>by obtain rfl:=zw13 hk;exact zw8 _),A6,c6,?_,by omega,r2,by rw[hyl];exact HR3.out,by rw[hyl];exact bs_kept HB6.out (gb_set5 _ _ _ _ _ _ _) hap,by rw[hyl];exact HAW.out⟩
          rw[hyl];rfl
         ·have hne5:((sm:Int) != (cr:Int))=true:=by simp;omega
          have HRA:Hid (readAt xs at_= .bad 5):=zh (by
           unfold readAt read;rw[if_neg HIN.out,zw35,HSD.out.1];simp only;rw[if_neg (by rw[HLN.out];have:=HFK.out;omega),if_pos (by rw[←HSM.out,←HCR.out];exact heq)])
          have z0:=HC.out.cell 0;have z1:=HC.out.cell 1;have z2:=HC.out.cell 2;have z3:=HC.out.cell 3;have z4:=HC.out.cell 4;simp only[zzD,zzE,zzF]at z0 z1 z2 z3 z4;have y0:=HC.out.frozen 0;have y1:=HC.out.frozen 1;have y2:=HC.out.frozen 2;have y3:=HC.out.frozen 3;have y4:=HC.out.frozen 4;have hrl:=HC.out.lt;go_wp2_with fail;refine bodyPost_ret (v:= .tuple #[.agg #[.int .u8 0,.int .u8 0,.int .i64 0,.slice none 0 0,.int .i64 0],.int .i64 5]) (by simp[results,Tryz.results130,go_sem,z0,z1,z2,z3,z4]) rfl ?_;rw[HRA.out];exact⟨ext_grown HO.out (gb_set5 _ _ _ _ _ _ _) (fun k hk=>by obtain rfl:=zw13 hk;exact zw8 _),by decide,rfl⟩
        ·rw[zw1,HML2.out]at h4
         have HRA:Hid (readAt xs at_= .bad 3):=zh (by
          unfold readAt read;rw[if_neg HIN.out,zw35,HSD.out.1];simp only;rw[if_pos (by rw[HLN.out];have:=HFK.out;omega)])
         have HRS:=zh (HRS.out.eff hE);clear hE;go_wp2_with fail;refine(HRS.out.fault).mono ?_;simp only[ne_eq,not_true_eq_false,if_false];rintro e W9 ⟨rfl,rfl⟩;have HC:=zh (HRC.out.ext HRS.out.ex);have HO:=zh (zxt HX1.out HRS.out.ex);go_wp2_with fail;refine(HRS.out.fault).mono ?_;simp only[ne_eq,not_true_eq_false,if_false];rintro e W9 ⟨rfl,rfl⟩;have z0:=HC.out.cell 0;have z1:=HC.out.cell 1;have z2:=HC.out.cell 2;have z3:=HC.out.cell 3;have z4:=HC.out.cell 4;simp only[zzD,zzE,zzF]at z0 z1 z2 z3 z4;have y0:=HC.out.frozen 0;have y1:=HC.out.frozen 1;have y2:=HC.out.frozen 2;have y3:=HC.out.frozen 3;have y4:=HC.out.frozen 4;have hrl:=HC.out.lt;go_wp2_with fail;refine bodyPost_ret (v:= .tuple #[.agg #[.int .u8 0,.int .u8 0,.int .i64 0,.slice none 0 0,.int .i64 0],.int .i64 3]) (by simp[results,Tryz.results130,go_sem,z0,z1,z2,z3,z4]) rfl ?_;rw[HRA.out];exact⟨ext_grown HO.out (gb_set5 _ _ _ _ _ _ _) (fun k hk=>by obtain rfl:=zw13 hk;exact zw8 _),by decide,rfl⟩
     ·have HRA:Hid (readAt xs at_= .bad f):=zh (by
       have h:=HSR.out;rw[←HF.out]at h;have hin:¬((at_:Int)<0∨(xs.length:Int)<(at_:Int)):=by have:=HB.out.1;omega
       unfold readAt read;rw[if_neg hin,zw35];cases hs:Chk.scan (xs.drop at_)with
       | bad f'=>rw[hs]at h;rw[h.1]
       | ok h1 s1 n1 k1=>rw[hs]at h;exact absurd h.1 hz)
      have hzb:(f==0)=false:=zw12.2 hz;have HZ:=zh hz;clear hz;go_wp2_with fail;refine(HRS.out.fault).mono ?_;rw[←HF.out];rintro e W9 ⟨rfl,rfl⟩;have HC:=zh (HRC.out.ext HRS.out.ex);have HO:=zh (zxt HX1.out HRS.out.ex);go_wp2_with fail;refine(HRS.out.fault).mono ?_;rw[←HF.out];rintro e W9 ⟨rfl,rfl⟩;have z0:=HC.out.cell 0;have z1:=HC.out.cell 1;have z2:=HC.out.cell 2;have z3:=HC.out.cell 3;have z4:=HC.out.cell 4;simp only[zzD,zzE,zzF]at z0 z1 z2 z3 z4;have y0:=HC.out.frozen 0;have y1:=HC.out.frozen 1;have y2:=HC.out.frozen 2;have y3:=HC.out.frozen 3;have y4:=HC.out.frozen 4;have hrl:=HC.out.lt;go_wp2_with fail;refine bodyPost_ret (v:= .tuple #[.agg #[.int .u8 0,.int .u8 0,.int .i64 0,.slice none 0 0,.int .i64 0],.int .i64 f]) (by simp[results,Tryz.results130,go_sem,z0,z1,z2,z3,z4]) rfl ?_;rw[HRA.out];exact⟨ext_grown HO.out (gb_set5 _ _ _ _ _ _ _) (fun k hk=>by obtain rfl:=zw13 hk;exact zw8 _),HZ.out,rfl⟩
theorem readC (A:Option Addr) (n c:Nat) (xs:List Nat) (at_:Int) (w:World) (hT:Crc.Tab w) (hB:Bs w A n xs) (hnil:A=none→n=0∧c=0) (hn:n≤c) (hc:c≤9223372036854775807) (hN:n≤1000000):
  Calls Tryz.prog 130 #[.slice A n c,.int .i64 at_] w (RPost w (readAt xs at_)):=by
 by_cases hout:at_<0∨(n:Int)<at_
 ·exact read_out A n c xs at_ w hT hB hnil hn hc hN hout
 ·obtain⟨a,rfl⟩:∃a:Nat,at_=(a:Int):=⟨at_.toNat,by omega⟩
  exact read_in A n c a xs w hT hB hnil hn hc hN (by omega)
end Go.Proofs.YtbopblbhjcemaaaGreatDoor.Chk
