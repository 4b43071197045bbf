/- Contracts of package file: the index, the foot, the frames' sizes. -/
import Derived.Test.YtbopblbhjcemaaaGreatDoorF10
set_option maxHeartbeats 16000000
set_option maxRecDepth 100000
set_option linter.all false
open Go.ChangeShapes Go.WideShapes Go.ChangeAt Go.RowKit
namespace Go.Proofs.YtbopblbhjcemaaaGreatDoor.Fil
open Wire
open Rec
def up:Nat→List Nat→Prop
  | _,[]=>True
  | last,a::l=>last≤a∧a≤1000000000∧up a l
def XRel (w:World) (ps:List Nat) (gh:Nat) (ov lv iv:Value) (wr:World):Prop:=
  ∃(i last:Nat) (zs:List Nat),i+gh=ps.length∧iv= .int .i64 (i:Int)∧lv= .int .i64 (last:Int)∧up last (ps.drop i)∧last≤1000000000∧OwnB w.heap.size wr ov zs∧zs.length≤10*i∧Ext w wr∧idx 0 ps=zs++idx last (ps.drop i)
theorem index_st (A : Option Addr) (m c : Nat) (ps : List Nat) (w : World) (hB : RowR w A m 1 cN ps) (hu : up 0 ps) (hm : m ≤ 1000000) :
    Calls Tryz.prog 23 #[.slice A m c] w fun e w'=>∃v,e= .returned v∧OwnB w.heap.size w' v (idx 0 ps)∧Ext w w':=by
  have HREL:Hid (XRel w ps m (.slice none 0 0) (.int .i64 0) (.int .i64 0) w):=zh ⟨0,0,[],by rw[hB.1];omega,rfl,rfl,hu,by omega,OwnB.nil _ _,by simp,zxr w,by simp⟩;have HB:=zh hB;have HL:=zh hB.1;clear hB hu;go_enter Tryz.func23,Tryz.ntmps23;go_wp2_with fail
  go_loopg [3,4,9] m (fun gh ov lv iv wr=>XRel w ps gh ov lv iv wr)
  case atStart=>exact HREL.out
  case round=>
    obtain⟨i,last,zs,hi,rfl,rfl,hup,hl,hO,hz,hE,hT⟩:=hrel;obtain⟨wi,rfl⟩:∃wi:World,wi=wr:=⟨_,rfl⟩;obtain⟨vi,rfl⟩:∃vi:Value,vi=u3:=⟨_,rfl⟩;obtain⟨gh,rfl⟩:∃gh:Nat,gh=gk:=⟨_,rfl⟩;have HO:=zh hO;have HE:=zh hE;have HT:=zh hT;have HUP:=zh hup;clear hO hE hT HREL hup;have y1:(0:Int)≤(i:Int):=by omega
    have him:i+gh=m:=by rw[hi,HL.out]
    by_cases hlt:i<m
    · have y2:(i:Int)<(m:Int):=by omega
      have hip:i<ps.length:=by rw[HL.out];exact hlt
      obtain⟨b,o,rfl,hbw,hcell⟩:=HB.out.2 (by omega);have c0:=kc HE.out (hcell i hip 0 (by omega));have hd:ps.drop i=ps[i]::ps.drop (i+1):=zw20 hip;generalize ps[i]=a at c0 hd;simp only[cN,List.getElem?_cons_zero,Nat.mul_one,Nat.add_zero]at c0;have hup2:=HUP.out;rw[hd]at hup2;obtain⟨q1,q2,q3⟩:=hup2;have HUP2:=zh q3;obtain⟨d,hdd⟩:∃d,a=last+d:=⟨a-last,by omega⟩;have HT2:Hid (idx 0 ps=(zs++vb d)++idx a (ps.drop (i+1))):=zh (by rw[HT.out,hd,idx,show a-last=d by omega,zw7]);clear hcell hd q3 HUP HT;have hcast:(a:Int)-(last:Int)=(d:Int):=by omega
      have hd9:d≤1000000000:=by omega
      replace hdd:=zh hdd;have HPY:=zh (fun w'=>put_nil d (by omega) w');have HVL:=zh (vb_ten (n:=d) (by omega));have hwr:IntKind.u64.wrap (d:Int)=(d:Int):=by rw[IntKind.wrap_u64];omega
      go_wp2_with fail;refine(HPY.out wi).mono ?_;rintro e w8 ⟨v8,rfl,hsrc8,hO8',hE8⟩;have HSRC:=zh hsrc8;have HO8:=zh (HO.out.ext hE8);have HE8:=zh (zxt HE.out hE8);clear hsrc8 hO8' hE8 c0;have HLZ:Hid (zs.length+(vb d).length≤140737488355328):=zh (by have:=HVL.out;omega);go_wp2_with (at_builtin;refine wpList_b rfl (.tmp 13) (.tmp 18) 22 rfl vi v8 zs (vb d) rfl rfl HO8.out HE8.out.size HSRC.out HLZ.out ?_;intro vC wC hOC hGC;have HOC:=zh hOC;have HGC:=zh hGC;clear hOC hGC)
      go_roundg (gh-1)
      case measure=>omega
      case rel=>
        refine⟨i+1,a,zs++vb d,by omega,by go_num,rfl,HUP2.out,by have:=hdd.out;omega,HOC.out,?_,HGC.out.ext HE8.out HO8.out (zw8 _),HT2.out⟩;have:=HVL.out;rw[zw0];omega
    · obtain rfl:gh=0:=by omega
      obtain rfl:i=m:=by omega
      have y2:¬(i:Int)<(i:Int):=by omega
      go_wp2_with fail;go_ret;refine⟨_,rfl,?_,HE.out⟩;have h1:=HT.out;rw[List.drop_of_length_le (by rw[HL.out];exact zw8 _),idx,zw18]at h1;rw[h1];exact HO.out
def FnPost (W:World) (T:List Nat) (e:Ending) (w':World):Prop:=∃v,e= .returned (.tuple #[v,.int .i64 0])∧OwnB W.heap.size w' v (T++fx (Chk.crc T))∧Ext W w'
theorem finish_st (W w : World) (B : Nat) (v p : Value) (zs ps : List Nat) (iA : Nat) (hT : Crc.Tab W) (h : Bd W w B v p zs ps) (hz : ∀ j, zs.getD j 0 < 256) (hl : zs.length ≤ 900000) (hi : iA ≤ 900000) :
    Calls Tryz.prog 22 #[.pointer (some ⟨B,0,none⟩),.int .i64 (iA:Int)] w (FnPost W (zs++fx iA)):=by
  have HX:=zh h;have HSM:Hid (∀(w':World) (v':Value),Ext W w'→∀A n c,v'= .slice A n c→Ob W.heap.size w' v' (zs++fx iA)→Calls Tryz.prog 52 #[v'] w' fun e w''=>e= .returned (.int .u32 (Chk.crc (zs++fx iA):Int))∧w'=w''):=zh (fun w' v' hE A n c hv hO=>by
    subst hv;have hs:∀j,(zs++fx iA).getD j 0<256:=small_app hz (small_mem (fx_mem (by omega)));obtain⟨hn,hb⟩:=hO.bs hs;exact Crc.sum A _ _ _ w' (hT.ext hE) hb (by rw[hn,zw0];show _+4≤_;omega))
  have HPF:=zh (fun(m:Nat) (hm:m<4294967296) w'=>putFixed none 0 0 [] m hm w' (Bs.none _ _) (fun _=>⟨rfl,rfl⟩) (zw8 _) (by omega) (by omega));have HCL:=zh (Chk.crc_lt (zs++fx iA));have hfl:∀m,(fx m).length=4:=fun _=>rfl;have hsh:∃A n c,v= .slice A n c∧n=zs.length:=by
    obtain⟨A,c,e⟩:=h.2.1.shape;exact⟨A,_,c,e,rfl⟩
  obtain⟨A0,n0,c0,rfl,hn0⟩:=hsh;have hwr:IntKind.u32.wrap (iA:Int)=(iA:Int):=by rw[IntKind.wrap_u32];omega
  have y1:¬(4194304:Int)<(n0:Int)+8:=by omega
  clear h hT;have HN0:=zh hn0;have HLI:=zh (And.intro hl hi);clear hn0 hl hi;obtain⟨b0,b1,b2,b3⟩:=HX.out.two;go_enter Tryz.func22,Tryz.ntmps22;go_upto_region 3 with fail;clear b0 b1 b2 b3;replace HX:=zh (HX.out.ext (zxd (zxr w)));have HW:=zh (zxd (zxr w));refine zw38 (S:=fun _=>True) hmxF trivial (fun _=>?_);generalize w.drew=w1 at*
  iterate 6
   refine zqU (v:=?_) trivial rfl ?_ ?_;rotate_left
   · intro w' hSw;go_simp;try with_reducible rfl
   (try simp only[Act.put,zzA,zzB,zzC])
  refine zw41 (rs:=[4,7]) (by kernel_rfl) (by simp) ?_;refine zqC rfl (fun K hK=>?_) (zqC rfl (fun K hK=>?_) zw42)
  · obtain⟨b0,b1,b2,b3⟩:=HX.out.two
    go_simp;clear b0 b1 b2 b3;refine hK.out _ _ trivial fun _=>?_;clear hK K
    (try simp only[Act.put,zzA,zzB,zzC])
    refine zqO (i:=7) (by kernel_rfl) rfl fun K hK=>?_;go_simp;refine(HPF.out iA (by have:=HLI.out;omega) _).mono ?_;rintro e w2 ⟨g,c1,rfl,hc1,hc2,hg,ho,hE⟩;rw[zw17]at*;replace HX:=zh (HX.out.ext hE);replace HW:=zh (zxt HW.out hE);have HSR:=zh (own_src ho (small_mem (fx_mem (show iA<4294967296 by have:=HLI.out;omega))));clear ho hE
    (try go_wp2_with fail)
    refine hK.out _ _ trivial fun _=>?_;clear hK K
    (try simp only[Act.put,zzA,zzB,zzC])
    refine zqO (i:=8) (by kernel_rfl) rfl fun K hK=>?_;obtain⟨v3,w3,hrun,hm3⟩:=HX.out.app HSR.out (by rw[hfl];omega) (by rw[hfl];have:=HLI.out;omega);have HRUN:=zh hrun;have HM:=zh hm3;clear hrun hm3;refine wanted_append (by rfl) (.tmp 17) (.tmp 20) 22 22 (by rfl) _ _ (by rfl) (by rfl) HRUN.out ?_;refine hK.out _ _ trivial fun _=>?_;clear hK K
    (try simp only[Act.put,zzA,zzB,zzC])
    iterate 2
     refine zqU (v:=?_) trivial rfl ?_ ?_;rotate_left
     · intro w' hSw;go_simp;try with_reducible rfl
     (try simp only[Act.put,zzA,zzB,zzC])
    refine zqO (i:=11) (by kernel_rfl) rfl fun K hK=>?_;obtain⟨A5,c5,rfl,_⟩:=HM.out.2.1.shape;have HD:=zh HM.out.store;obtain⟨b0,b1,b2,b3⟩:=HM.out.1.two;go_simp;clear b0 b1 b2 b3;refine hK.out _ _ trivial fun _=>?_;clear hK K
    (try simp only[Act.put,zzA,zzB,zzC])
    refine zw39 (by kernel_rfl) ?_ _;replace HX:=HD;clear HM HRUN HSR HD;have hln:(zs++fx iA).length=zs.length+4:=by rw[zw0,hfl]
    rw[hln]at HX;clear hln;obtain⟨w4,hw4⟩:∃q,q=w3.setCell ⟨B,0,none⟩ (.slice A5 (zs.length+4) c5):=⟨_,rfl⟩;rw[←hw4]at HX ⊢;clear hw4;obtain⟨n5,hn5⟩:∃q,q=zs.length+4:=⟨_,rfl⟩;rw[←hn5]at HX ⊢;clear hn5;go_upto_region 4 with fail;replace HX:=zh (HX.out.ext (zxd (zxr _)));refine zw38 (S:=fun _=>True) hmxF trivial (fun _=>?_);generalize w4.drew=w5 at*
    iterate 6
     refine zqU (v:=?_) trivial rfl ?_ ?_;rotate_left
     · intro w' hSw;go_simp;try with_reducible rfl
     (try simp only[Act.put,zzA,zzB,zzC])
    refine zw41 (rs:=[3,7]) (by kernel_rfl) (by simp) ?_;refine zqC rfl (fun K hK=>?_) (zqC rfl (fun K hK=>?_) zw42)
    · obtain⟨b0,b1,b2,b3⟩:=HX.out.two
      go_simp;clear b0 b1 b2 b3;refine hK.out _ _ trivial fun _=>?_;clear hK K
      (try simp only[Act.put,zzA,zzB,zzC])
      refine zqO (i:=7) (by kernel_rfl) rfl fun K hK=>?_;obtain⟨b0,b1,b2,b3⟩:=HX.out.two;go_simp;clear b0 b1 b2 b3;refine hK.out _ _ trivial fun _=>?_;clear hK K
      (try simp only[Act.put,zzA,zzB,zzC])
      refine zqO (i:=8) (by kernel_rfl) rfl fun K hK=>?_;go_simp;refine(HSM.out _ _ HX.out.2.2.2.1 _ _ _ rfl HX.out.2.1).mono ?_;rintro e w2 ⟨rfl,rfl⟩
      (try go_wp2_with fail)
      refine hK.out _ _ trivial fun _=>?_;clear hK K
      (try simp only[Act.put,zzA,zzB,zzC])
      refine zqO (i:=9) (by kernel_rfl) rfl fun K hK=>?_;go_simp;refine(HPF.out _ HCL.out _).mono ?_;rintro e w2 ⟨g2,c2,rfl,hc3,hc4,hg2,ho,hE⟩;rw[zw17]at*;replace HX:=zh (HX.out.ext hE);have HSR:=zh (own_src ho (small_mem (fx_mem HCL.out)));clear ho hE
      (try go_wp2_with fail)
      refine hK.out _ _ trivial fun _=>?_;clear hK K
      (try simp only[Act.put,zzA,zzB,zzC])
      refine zqO (i:=10) (by kernel_rfl) rfl fun K hK=>?_;obtain⟨v3,w6,hrun,hm3⟩:=HX.out.app HSR.out (by rw[hfl];omega) (by rw[hfl,zw0,hfl];have:=HLI.out;omega);have HRUN:=zh hrun;have HM:=zh hm3;clear hrun hm3;refine wanted_append (by rfl) (.tmp 27) (.tmp 33) 22 22 (by rfl) _ _ (by rfl) (by rfl) HRUN.out ?_;refine hK.out _ _ trivial fun _=>?_;clear hK K
      (try simp only[Act.put,zzA,zzB,zzC])
      iterate 2
       refine zqU (v:=?_) trivial rfl ?_ ?_;rotate_left
       · intro w' hSw;go_simp;try with_reducible rfl
       (try simp only[Act.put,zzA,zzB,zzC])
      refine zw39 (by kernel_rfl) ?_ _;go_wp2_with fail
      go_ret2
      exact⟨_,rfl,HM.out.2.1,HM.out.2.2.2.1⟩
    · obtain⟨b0,b1,b2,b3⟩:=HX.out.two
      go_simp;clear b0 b1 b2 b3;refine hK.out _ _ trivial fun _=>?_;clear hK K
      (try simp only[Act.put,zzA,zzB,zzC])
      refine zw41 (rs:=[3,8]) (by kernel_rfl) (by simp) ?_;refine zqC rfl (fun K hK=>?_) (zqC rfl (fun K hK=>?_) zw42)
      · obtain⟨b0,b1,b2,b3⟩:=HX.out.two
        go_simp;clear b0 b1 b2 b3;refine hK.out _ _ trivial fun _=>?_;clear hK K
        (try simp only[Act.put,zzA,zzB,zzC])
        refine zqO (i:=8) (by kernel_rfl) rfl fun K hK=>?_;go_simp;refine(HSM.out _ _ HX.out.2.2.2.1 _ _ _ rfl HX.out.2.1).mono ?_;rintro e w2 ⟨rfl,rfl⟩
        (try go_wp2_with fail)
        refine hK.out _ _ trivial fun _=>?_;clear hK K
        (try simp only[Act.put,zzA,zzB,zzC])
        refine zqO (i:=9) (by kernel_rfl) rfl fun K hK=>?_;go_simp;refine(HPF.out _ HCL.out _).mono ?_;rintro e w2 ⟨g2,c2,rfl,hc3,hc4,hg2,ho,hE⟩;rw[zw17]at*;replace HX:=zh (HX.out.ext hE);have HSR:=zh (own_src ho (small_mem (fx_mem HCL.out)));clear ho hE
        (try go_wp2_with fail)
        refine hK.out _ _ trivial fun _=>?_;clear hK K
        (try simp only[Act.put,zzA,zzB,zzC])
        refine zqO (i:=10) (by kernel_rfl) rfl fun K hK=>?_;obtain⟨v3,w6,hrun,hm3⟩:=HX.out.app HSR.out (by rw[hfl];omega) (by rw[hfl,zw0,hfl];have:=HLI.out;omega);have HRUN:=zh hrun;have HM:=zh hm3;clear hrun hm3;refine wanted_append (by rfl) (.tmp 27) (.tmp 33) 22 22 (by rfl) _ _ (by rfl) (by rfl) HRUN.out ?_;refine hK.out _ _ trivial fun _=>?_;clear hK K
        (try simp only[Act.put,zzA,zzB,zzC])
        iterate 2
         refine zqU (v:=?_) trivial rfl ?_ ?_;rotate_left
         · intro w' hSw;go_simp;try with_reducible rfl
         (try simp only[Act.put,zzA,zzB,zzC])
        refine zw39 (by kernel_rfl) ?_ _;go_wp2_with fail
        go_ret2
        exact⟨_,rfl,HM.out.2.1,HM.out.2.2.2.1⟩
      · go_simp
        refine(HSM.out _ _ HX.out.2.2.2.1 _ _ _ rfl HX.out.2.1).mono ?_;rintro e w2 ⟨rfl,rfl⟩
        (try go_wp2_with fail)
        refine hK.out _ _ trivial fun _=>?_;clear hK K
        (try simp only[Act.put,zzA,zzB,zzC])
        refine zw41 (rs:=[3,9]) (by kernel_rfl) (by simp) ?_;refine zqC rfl (fun K hK=>?_) (zqC rfl (fun K hK=>?_) zw42)
        · obtain⟨b0,b1,b2,b3⟩:=HX.out.two
          go_simp;clear b0 b1 b2 b3;refine hK.out _ _ trivial fun _=>?_;clear hK K
          (try simp only[Act.put,zzA,zzB,zzC])
          refine zqO (i:=9) (by kernel_rfl) rfl fun K hK=>?_;go_simp;refine(HPF.out _ HCL.out _).mono ?_;rintro e w2 ⟨g2,c2,rfl,hc3,hc4,hg2,ho,hE⟩;rw[zw17]at*;replace HX:=zh (HX.out.ext hE);have HSR:=zh (own_src ho (small_mem (fx_mem HCL.out)));clear ho hE
          (try go_wp2_with fail)
          refine hK.out _ _ trivial fun _=>?_;clear hK K
          (try simp only[Act.put,zzA,zzB,zzC])
          refine zqO (i:=10) (by kernel_rfl) rfl fun K hK=>?_;obtain⟨v3,w6,hrun,hm3⟩:=HX.out.app HSR.out (by rw[hfl];omega) (by rw[hfl,zw0,hfl];have:=HLI.out;omega);have HRUN:=zh hrun;have HM:=zh hm3;clear hrun hm3;refine wanted_append (by rfl) (.tmp 27) (.tmp 33) 22 22 (by rfl) _ _ (by rfl) (by rfl) HRUN.out ?_;refine hK.out _ _ trivial fun _=>?_;clear hK K
          (try simp only[Act.put,zzA,zzB,zzC])
          iterate 2
           refine zqU (v:=?_) trivial rfl ?_ ?_;rotate_left
           · intro w' hSw;go_simp;try with_reducible rfl
           (try simp only[Act.put,zzA,zzB,zzC])
          refine zw39 (by kernel_rfl) ?_ _;go_wp2_with fail
          go_ret2
          exact⟨_,rfl,HM.out.2.1,HM.out.2.2.2.1⟩
        · go_simp
          refine(HPF.out _ HCL.out _).mono ?_;rintro e w2 ⟨g2,c2,rfl,hc3,hc4,hg2,ho,hE⟩;rw[zw17]at*;replace HX:=zh (HX.out.ext hE);have HSR:=zh (own_src ho (small_mem (fx_mem HCL.out)));clear ho hE
          (try go_wp2_with fail)
          refine hK.out _ _ trivial fun _=>?_;clear hK K
          (try simp only[Act.put,zzA,zzB,zzC])
          refine zqO (i:=3) (by kernel_rfl) rfl fun K hK=>?_;obtain⟨b0,b1,b2,b3⟩:=HX.out.two;go_simp;clear b0 b1 b2 b3;refine hK.out _ _ trivial fun _=>?_;clear hK K
          (try simp only[Act.put,zzA,zzB,zzC])
          refine zqO (i:=10) (by kernel_rfl) rfl fun K hK=>?_;obtain⟨v3,w6,hrun,hm3⟩:=HX.out.app HSR.out (by rw[hfl];omega) (by rw[hfl,zw0,hfl];have:=HLI.out;omega);have HRUN:=zh hrun;have HM:=zh hm3;clear hrun hm3;refine wanted_append (by rfl) (.tmp 27) (.tmp 33) 22 22 (by rfl) _ _ (by rfl) (by rfl) HRUN.out ?_;refine hK.out _ _ trivial fun _=>?_;clear hK K
          (try simp only[Act.put,zzA,zzB,zzC])
          iterate 2
           refine zqU (v:=?_) trivial rfl ?_ ?_;rotate_left
           · intro w' hSw;go_simp;try with_reducible rfl
           (try simp only[Act.put,zzA,zzB,zzC])
          refine zw39 (by kernel_rfl) ?_ _;go_wp2_with fail
          go_ret2
          exact⟨_,rfl,HM.out.2.1,HM.out.2.2.2.1⟩
  · go_simp
    refine(HPF.out iA (by have:=HLI.out;omega) _).mono ?_;rintro e w2 ⟨g,c1,rfl,hc1,hc2,hg,ho,hE⟩;rw[zw17]at*;replace HX:=zh (HX.out.ext hE);replace HW:=zh (zxt HW.out hE);have HSR:=zh (own_src ho (small_mem (fx_mem (show iA<4294967296 by have:=HLI.out;omega))));clear ho hE
    (try go_wp2_with fail)
    refine hK.out _ _ trivial fun _=>?_;clear hK K
    (try simp only[Act.put,zzA,zzB,zzC])
    refine zqO (i:=4) (by kernel_rfl) rfl fun K hK=>?_;obtain⟨b0,b1,b2,b3⟩:=HX.out.two;go_simp;clear b0 b1 b2 b3;refine hK.out _ _ trivial fun _=>?_;clear hK K
    (try simp only[Act.put,zzA,zzB,zzC])
    refine zqO (i:=8) (by kernel_rfl) rfl fun K hK=>?_;obtain⟨v3,w3,hrun,hm3⟩:=HX.out.app HSR.out (by rw[hfl];omega) (by rw[hfl];have:=HLI.out;omega);have HRUN:=zh hrun;have HM:=zh hm3;clear hrun hm3;refine wanted_append (by rfl) (.tmp 17) (.tmp 20) 22 22 (by rfl) _ _ (by rfl) (by rfl) HRUN.out ?_;refine hK.out _ _ trivial fun _=>?_;clear hK K
    (try simp only[Act.put,zzA,zzB,zzC])
    iterate 2
     refine zqU (v:=?_) trivial rfl ?_ ?_;rotate_left
     · intro w' hSw;go_simp;try with_reducible rfl
     (try simp only[Act.put,zzA,zzB,zzC])
    refine zqO (i:=11) (by kernel_rfl) rfl fun K hK=>?_;obtain⟨A5,c5,rfl,_⟩:=HM.out.2.1.shape;have HD:=zh HM.out.store;obtain⟨b0,b1,b2,b3⟩:=HM.out.1.two;go_simp;clear b0 b1 b2 b3;refine hK.out _ _ trivial fun _=>?_;clear hK K
    (try simp only[Act.put,zzA,zzB,zzC])
    refine zw39 (by kernel_rfl) ?_ _;replace HX:=HD;clear HM HRUN HSR HD;have hln:(zs++fx iA).length=zs.length+4:=by rw[zw0,hfl]
    rw[hln]at HX;clear hln;obtain⟨w4,hw4⟩:∃q,q=w3.setCell ⟨B,0,none⟩ (.slice A5 (zs.length+4) c5):=⟨_,rfl⟩;rw[←hw4]at HX ⊢;clear hw4;obtain⟨n5,hn5⟩:∃q,q=zs.length+4:=⟨_,rfl⟩;rw[←hn5]at HX ⊢;clear hn5;go_upto_region 4 with fail;replace HX:=zh (HX.out.ext (zxd (zxr _)));refine zw38 (S:=fun _=>True) hmxF trivial (fun _=>?_);generalize w4.drew=w5 at*
    iterate 6
     refine zqU (v:=?_) trivial rfl ?_ ?_;rotate_left
     · intro w' hSw;go_simp;try with_reducible rfl
     (try simp only[Act.put,zzA,zzB,zzC])
    refine zw41 (rs:=[3,7]) (by kernel_rfl) (by simp) ?_;refine zqC rfl (fun K hK=>?_) (zqC rfl (fun K hK=>?_) zw42)
    · obtain⟨b0,b1,b2,b3⟩:=HX.out.two
      go_simp;clear b0 b1 b2 b3;refine hK.out _ _ trivial fun _=>?_;clear hK K
      (try simp only[Act.put,zzA,zzB,zzC])
      refine zqO (i:=7) (by kernel_rfl) rfl fun K hK=>?_;obtain⟨b0,b1,b2,b3⟩:=HX.out.two;go_simp;clear b0 b1 b2 b3;refine hK.out _ _ trivial fun _=>?_;clear hK K
      (try simp only[Act.put,zzA,zzB,zzC])
      refine zqO (i:=8) (by kernel_rfl) rfl fun K hK=>?_;go_simp;refine(HSM.out _ _ HX.out.2.2.2.1 _ _ _ rfl HX.out.2.1).mono ?_;rintro e w2 ⟨rfl,rfl⟩
      (try go_wp2_with fail)
      refine hK.out _ _ trivial fun _=>?_;clear hK K
      (try simp only[Act.put,zzA,zzB,zzC])
      refine zqO (i:=9) (by kernel_rfl) rfl fun K hK=>?_;go_simp;refine(HPF.out _ HCL.out _).mono ?_;rintro e w2 ⟨g2,c2,rfl,hc3,hc4,hg2,ho,hE⟩;rw[zw17]at*;replace HX:=zh (HX.out.ext hE);have HSR:=zh (own_src ho (small_mem (fx_mem HCL.out)));clear ho hE
      (try go_wp2_with fail)
      refine hK.out _ _ trivial fun _=>?_;clear hK K
      (try simp only[Act.put,zzA,zzB,zzC])
      refine zqO (i:=10) (by kernel_rfl) rfl fun K hK=>?_;obtain⟨v3,w6,hrun,hm3⟩:=HX.out.app HSR.out (by rw[hfl];omega) (by rw[hfl,zw0,hfl];have:=HLI.out;omega);have HRUN:=zh hrun;have HM:=zh hm3;clear hrun hm3;refine wanted_append (by rfl) (.tmp 27) (.tmp 33) 22 22 (by rfl) _ _ (by rfl) (by rfl) HRUN.out ?_;refine hK.out _ _ trivial fun _=>?_;clear hK K
      (try simp only[Act.put,zzA,zzB,zzC])
      iterate 2
       refine zqU (v:=?_) trivial rfl ?_ ?_;rotate_left
       · intro w' hSw;go_simp;try with_reducible rfl
       (try simp only[Act.put,zzA,zzB,zzC])
      refine zw39 (by kernel_rfl) ?_ _;go_wp2_with fail
      go_ret2
      exact⟨_,rfl,HM.out.2.1,HM.out.2.2.2.1⟩
    · obtain⟨b0,b1,b2,b3⟩:=HX.out.two
      go_simp;clear b0 b1 b2 b3;refine hK.out _ _ trivial fun _=>?_;clear hK K
      (try simp only[Act.put,zzA,zzB,zzC])
      refine zw41 (rs:=[3,8]) (by kernel_rfl) (by simp) ?_;refine zqC rfl (fun K hK=>?_) (zqC rfl (fun K hK=>?_) zw42)
      · obtain⟨b0,b1,b2,b3⟩:=HX.out.two
        go_simp;clear b0 b1 b2 b3;refine hK.out _ _ trivial fun _=>?_;clear hK K
        (try simp only[Act.put,zzA,zzB,zzC])
        refine zqO (i:=8) (by kernel_rfl) rfl fun K hK=>?_;go_simp;refine(HSM.out _ _ HX.out.2.2.2.1 _ _ _ rfl HX.out.2.1).mono ?_;rintro e w2 ⟨rfl,rfl⟩
        (try go_wp2_with fail)
        refine hK.out _ _ trivial fun _=>?_;clear hK K
        (try simp only[Act.put,zzA,zzB,zzC])
        refine zqO (i:=9) (by kernel_rfl) rfl fun K hK=>?_;go_simp;refine(HPF.out _ HCL.out _).mono ?_;rintro e w2 ⟨g2,c2,rfl,hc3,hc4,hg2,ho,hE⟩;rw[zw17]at*;replace HX:=zh (HX.out.ext hE);have HSR:=zh (own_src ho (small_mem (fx_mem HCL.out)));clear ho hE
        (try go_wp2_with fail)
        refine hK.out _ _ trivial fun _=>?_;clear hK K
        (try simp only[Act.put,zzA,zzB,zzC])
        refine zqO (i:=10) (by kernel_rfl) rfl fun K hK=>?_;obtain⟨v3,w6,hrun,hm3⟩:=HX.out.app HSR.out (by rw[hfl];omega) (by rw[hfl,zw0,hfl];have:=HLI.out;omega);have HRUN:=zh hrun;have HM:=zh hm3;clear hrun hm3;refine wanted_append (by rfl) (.tmp 27) (.tmp 33) 22 22 (by rfl) _ _ (by rfl) (by rfl) HRUN.out ?_;refine hK.out _ _ trivial fun _=>?_;clear hK K
        (try simp only[Act.put,zzA,zzB,zzC])
        iterate 2
         refine zqU (v:=?_) trivial rfl ?_ ?_;rotate_left
         · intro w' hSw;go_simp;try with_reducible rfl
         (try simp only[Act.put,zzA,zzB,zzC])
        refine zw39 (by kernel_rfl) ?_ _;go_wp2_with fail
        go_ret2
        exact⟨_,rfl,HM.out.2.1,HM.out.2.2.2.1⟩
      · go_simp
        refine(HSM.out _ _ HX.out.2.2.2.1 _ _ _ rfl HX.out.2.1).mono ?_;rintro e w2 ⟨rfl,rfl⟩
        (try go_wp2_with fail)
        refine hK.out _ _ trivial fun _=>?_;clear hK K
        (try simp only[Act.put,zzA,zzB,zzC])
        refine zw41 (rs:=[3,9]) (by kernel_rfl) (by simp) ?_;refine zqC rfl (fun K hK=>?_) (zqC rfl (fun K hK=>?_) zw42)
        · obtain⟨b0,b1,b2,b3⟩:=HX.out.two
          go_simp;clear b0 b1 b2 b3;refine hK.out _ _ trivial fun _=>?_;clear hK K
          (try simp only[Act.put,zzA,zzB,zzC])
          refine zqO (i:=9) (by kernel_rfl) rfl fun K hK=>?_;go_simp;refine(HPF.out _ HCL.out _).mono ?_;rintro e w2 ⟨g2,c2,rfl,hc3,hc4,hg2,ho,hE⟩;rw[zw17]at*;replace HX:=zh (HX.out.ext hE);have HSR:=zh (own_src ho (small_mem (fx_mem HCL.out)));clear ho hE
          (try go_wp2_with fail)
          refine hK.out _ _ trivial fun _=>?_;clear hK K
          (try simp only[Act.put,zzA,zzB,zzC])
          refine zqO (i:=10) (by kernel_rfl) rfl fun K hK=>?_;obtain⟨v3,w6,hrun,hm3⟩:=HX.out.app HSR.out (by rw[hfl];omega) (by rw[hfl,zw0,hfl];have:=HLI.out;omega);have HRUN:=zh hrun;have HM:=zh hm3;clear hrun hm3;refine wanted_append (by rfl) (.tmp 27) (.tmp 33) 22 22 (by rfl) _ _ (by rfl) (by rfl) HRUN.out ?_;refine hK.out _ _ trivial fun _=>?_;clear hK K
          (try simp only[Act.put,zzA,zzB,zzC])
          iterate 2
           refine zqU (v:=?_) trivial rfl ?_ ?_;rotate_left
           · intro w' hSw;go_simp;try with_reducible rfl
           (try simp only[Act.put,zzA,zzB,zzC])
          refine zw39 (by kernel_rfl) ?_ _;go_wp2_with fail
          go_ret2
          exact⟨_,rfl,HM.out.2.1,HM.out.2.2.2.1⟩
        · go_simp
          refine(HPF.out _ HCL.out _).mono ?_;rintro e w2 ⟨g2,c2,rfl,hc3,hc4,hg2,ho,hE⟩;rw[zw17]at*;replace HX:=zh (HX.out.ext hE);have HSR:=zh (own_src ho (small_mem (fx_mem HCL.out)));clear ho hE
          (try go_wp2_with fail)
          refine hK.out _ _ trivial fun _=>?_;clear hK K
          (try simp only[Act.put,zzA,zzB,zzC])
          refine zqO (i:=3) (by kernel_rfl) rfl fun K hK=>?_;obtain⟨b0,b1,b2,b3⟩:=HX.out.two;go_simp;clear b0 b1 b2 b3;refine hK.out _ _ trivial fun _=>?_;clear hK K
          (try simp only[Act.put,zzA,zzB,zzC])
          refine zqO (i:=10) (by kernel_rfl) rfl fun K hK=>?_;obtain⟨v3,w6,hrun,hm3⟩:=HX.out.app HSR.out (by rw[hfl];omega) (by rw[hfl,zw0,hfl];have:=HLI.out;omega);have HRUN:=zh hrun;have HM:=zh hm3;clear hrun hm3;refine wanted_append (by rfl) (.tmp 27) (.tmp 33) 22 22 (by rfl) _ _ (by rfl) (by rfl) HRUN.out ?_;refine hK.out _ _ trivial fun _=>?_;clear hK K
          (try simp only[Act.put,zzA,zzB,zzC])
          iterate 2
           refine zqU (v:=?_) trivial rfl ?_ ?_;rotate_left
           · intro w' hSw;go_simp;try with_reducible rfl
           (try simp only[Act.put,zzA,zzB,zzC])
          refine zw39 (by kernel_rfl) ?_ _;go_wp2_with fail
          go_ret2
          exact⟨_,rfl,HM.out.2.1,HM.out.2.2.2.1⟩
end Go.Proofs.YtbopblbhjcemaaaGreatDoor.Fil
