/- The document's Pack, walked. -/
import Derived.Test.YtbopblbhjcemaaaGreatDoorF06
set_option maxHeartbeats 16000000
set_option maxRecDepth 100000
set_option linter.all false
namespace Go.Proofs.YtbopblbhjcemaaaGreatDoor.Lz
open Go.ChangeShapes Go.WideShapes Go.ChangeAt Go.RowKit Go.Shelf
open Wire Go.Proofs.YtbopblbhjcemaaaGreatDoor.Map32
def RPRel (w:World) (xs R:List Nat) (N:Nat) (ov pv av:Value) (wr:World):Prop:=
 ∃(a plain:Nat) (E:List Nat),a≤N∧plain≤a∧av= .int .i64 (a:Int)∧pv= .int .i64 (plain:Int)∧ov= .string (strOf E)∧E++pk xs plain a=R∧Ext w wr
theorem refPack (s:ByteArray) (w:World) (hs:s.size≤1000000):
  Calls Tryz.prog 109 #[.string s] w fun e w'=>e= .returned (.string (strOf (pk (natsOf s) 0 0)))∧Ext w w':=by
 have hpl:=pk_len (natsOf_small s) _ 0 0 rfl (zw8 _) (Nat.zero_le _);rw[natsOf_len]at hpl;have HGD:=zh (bst_good (natsOf_small s));have HXL:=zh (natsOf_len s);have HBE:=zh (fun a W (h:a≤s.size)=>refBest s a W hs h);obtain⟨xs,hxs⟩:∃xs,xs=natsOf s:=⟨_,rfl⟩;rw[←hxs]at HGD HXL HBE hpl ⊢;have HRN:Hid (∀p a W,a≤s.size→p≤a→Calls Tryz.prog 136 #[.string (s.extract p a)] W fun e w'=>e= .returned (.string (strOf (litT ((xs.drop p).take (a-p)))))∧Ext W w'):=zh (fun p a W h1 h2=>by
  have h:=refRun (s.extract p a) W (by simp;omega);have e:natsOf (s.extract p a)=(xs.drop p).take (a-p):=by
   rw[Com.str_ext,←hxs,nats_strOf];intro j;rcases Nat.lt_or_ge j (((xs.drop p).take (a-p)).length)with hj | hj
   ·rw[zw2,zw1]at hj
    rw[zw5,List.getElem?_take_of_lt (by omega),List.getElem?_drop,←zw5,hxs];exact natsOf_small s _
   ·rw[zw5,List.getElem?_eq_none hj];simp
  rwa [e]at h)
 clear hxs;obtain⟨R,hR⟩:∃R,R=pk xs 0 0:=⟨_,rfl⟩;rw[←hR]at hpl ⊢;have hRl:R.length≤2000000:=by omega
 have HR:=zh hR;clear hpl hR;go_enter Tryz.func109,Tryz.ntmps109;go_wp2_with fail
 go_loopw [3,4,5] (fun ov pv av wr=>RPRel w xs R s.size ov pv av wr) (fun _ _ av _=>s.size-(intOf av).toNat)
 case atStart=>exact⟨0,0,[],Nat.zero_le _,zw8 _,rfl,rfl,rfl,by rw[HR.out,zw17],zxr _⟩
 case round=>
  obtain⟨a,plain,E,ha,hpa,rfl,rfl,rfl,hE,hEx⟩:=hrel;have hEl:E.length≤2000000:=by
   have e:=congrArg List.length hE;rw[zw0]at e;omega
  have HE:=zh hE;have HEx:=zh hEx;clear hE hEx;have hs0:(strOf E).size≤2000000:=by rw[strOf_size];exact hEl
  obtain⟨wo,hwo⟩:∃wo,wo=wr:=⟨_,rfl⟩;subst hwo;by_cases hlt:a<s.size
  ·have z0:(a:Int)<(s.size:Int):=by omega
   obtain⟨S0,hS0⟩:∃S0,S0=strOf E:=⟨_,rfl⟩;rw[←hS0]at hs0 ⊢;have HS0:=zh hS0;clear hS0;go_wp2_with fail;refine(HBE.out a _ (by omega)).mono ?_;rintro e w1 ⟨rfl,b1⟩;have HE1:=zh (zxt HEx.out b1);clear b1;obtain⟨B,L,hBL⟩:∃B L,bst xs a=(B,L):=⟨_,_,rfl⟩;have hgood:=HGD.out a;rw[hBL]at hgood ⊢;simp only;have HBL:=zh hBL;clear hBL;by_cases hL:L=0
   ·subst hL
    have HPK:Hid (pk xs plain a=pk xs plain (a+1)):=zh (pk_lit (by rw[HXL.out];exact hlt) (by rw[HBL.out]));clear hgood;go_wp2_with fail
    go_roundw
    case rel=>exact⟨a+1,plain,E,by omega,by omega,by go_num,rfl,by rw[HS0.out],by rw[←HPK.out];exact HE.out,HE1.out⟩
    case measure=>simp[intOf];omega
   ·obtain⟨h3,h66,haN,hB1,hB4,hBa⟩:3≤L∧L≤66∧a+L≤s.size∧1≤B∧B≤4096∧B≤a:=by
     rcases hgood with h | h
     ·exact absurd (Prod.mk.inj h).2 hL
     ·simp only at h;have:=HXL.out;omega
    have HPK:Hid (E++litT ((xs.drop plain).take (a-plain))++[2*(L-3)+1]++vb (B-1)++pk xs (a+L) (a+L)=R):=zh (by
     have e:=pk_match (xs:=xs) (told:=plain) (a:=a) (by rw[HXL.out];exact hlt) (by rw[HBL.out];exact hL);rw[HBL.out]at e;rw[←HE.out,e];simp only[zw7,List.cons_append,zw17])
    have hplc:plc a (B,L)=a-B:=by unfold plc;rw[if_neg (by simpa using hL)]
    rw[hplc];clear hgood hplc;have z1:((L:Int)==0)=false:=zw12.2 (by omega);clear hL;obtain⟨f,hf⟩:∃f,f=a-B:=⟨_,rfl⟩;rw[←hf];obtain⟨bb,hbb⟩:∃bb,bb=B-1:=⟨_,rfl⟩;rw[←hbb]at HPK;obtain⟨m,hm⟩:∃m,m=2*(L-3)+1:=⟨_,rfl⟩;rw[←hm]at HPK;have q0:IntKind.i64.wrap ((L:Int)-3)=(L:Int)-3:=by rw[IntKind.wrap_i64];omega
    have q1:IntKind.i64.wrap ((2:Int)*((L:Int)-3))=(2:Int)*((L:Int)-3):=by rw[IntKind.wrap_i64];omega
    have q2:IntKind.i64.wrap ((2:Int)*((L:Int)-3)+1)=(m:Int):=by rw[IntKind.wrap_i64];omega
    have q3:IntKind.u8.wrap (m:Int)=(m:Int):=by rw[IntKind.wrap_u8];omega
    have q4:IntKind.i64.wrap ((a:Int)-(f:Int))=(B:Int):=by rw[IntKind.wrap_i64];omega
    have q5:IntKind.i64.wrap ((B:Int)-1)=(bb:Int):=by rw[IntKind.wrap_i64];omega
    have q6:IntKind.u64.wrap (bb:Int)=(bb:Int):=by rw[IntKind.wrap_u64];omega
    have HW:=zh (And.intro q0 (And.intro q1 (And.intro q2 (And.intro q3 (And.intro q4 (And.intro q5 q6))))));clear q0 q1 q2 q3 q4 q5 q6;have hm1:m≤127:=by omega
    have hbb2:bb<4096:=by omega
    have hv1:=vb_ten (n:=bb) (by omega);have HC1:=zh (fun W=>HRN.out plain a W ha hpa);have HC2:=zh (fun W=>refVarint bb (by omega) W);have HCV:Hid (∀(B':Nat) (w':World),w'.cell? ⟨B',0,none⟩=some (.int .u8 (m:Int))→(convert 22 9 (.slice (some ⟨B',0,none⟩) 1 1)).run Tryz.prog w'= .ok (.string (strOf [m])) w'):=zh (fun B' w' hc=>one_conv B' w' m (by omega) hc);have hlits:(litT ((xs.drop plain).take (a-plain))).length≤2000000:=by
     have e:=congrArg List.length HPK.out;simp only[zw0]at e;omega
    have hs1:(strOf (litT ((xs.drop plain).take (a-plain)))).size≤2000000:=by rw[strOf_size];exact hlits
    have hs2:(strOf [m]).size≤1:=by rw[strOf_size];simp
    have hs3:(strOf (vb bb)).size≤10:=by rw[strOf_size];exact hv1
    have HF:Hid (S0++strOf (litT ((xs.drop plain).take (a-plain)))++strOf [m]++strOf (vb bb)=strOf (E++litT ((xs.drop plain).take (a-plain))++[m]++vb bb)):=zh (by
     rw[HS0.out,strOf_app,strOf_app,strOf_app])
    clear hf hbb hm hlits;generalize E++litT ((xs.drop plain).take (a-plain))++[m]++vb bb=E2 at*;generalize strOf (litT ((xs.drop plain).take (a-plain)))=S1 at*;generalize strOf [m]=S2 at*;generalize strOf (vb bb)=S3 at*;have hz1:¬9223372036854775807<S0.size+S1.size:=by omega
    have hz2:¬9223372036854775807<S0.size+S1.size+S2.size:=by omega
    have hz3:¬9223372036854775807<S0.size+S1.size+S2.size+S3.size:=by omega
    have s1:(plain:Int)≤(a:Int):=by omega
    have s2:(a:Int)≤(s.size:Int):=by omega
    go_wp2_with fail
    go_cut [3] (fun ov wx=>ov= .string (S0++S1++S2++S3)∧Ext w1 wx)
    case first=>
     obtain⟨q0,q1,q2,q3,q4,q5,q6⟩:=HW.out
     -- REGION
     refine zw38 (S:=fun _=>True) hmx trivial (fun _=>?_);have HX0:=zh (zxd (zxr w1))
     (refine zw40 (i:=0) (v:=?_) rfl (by kernel_rfl) (by kernel_rfl) (by kernel_rfl) (fun _ _ _ h=>h) (Or.inl ⟨by rfl,?_⟩) trivial ?_);rotate_left
     ·(intro w hSw;go_simp;try with_reducible rfl)
     (refine zw40 (i:=1) (v:=?_) rfl (by kernel_rfl) (by kernel_rfl) (by kernel_rfl) (fun _ _ _ h=>h) (Or.inl ⟨by rfl,?_⟩) trivial ?_);rotate_left
     ·(intro w hSw;go_simp;try with_reducible rfl)
     (refine zw40 (i:=2) (v:=?_) rfl (by kernel_rfl) (by kernel_rfl) (by kernel_rfl) (fun _ _ _ h=>h) (Or.inl ⟨by rfl,?_⟩) trivial ?_);rotate_left
     ·(intro w hSw;go_simp;try with_reducible rfl)
     (refine zw40 (i:=3) (v:=?_) rfl (by kernel_rfl) (by kernel_rfl) (by kernel_rfl) (fun _ _ _ h=>h) (Or.inl ⟨by rfl,?_⟩) trivial ?_);rotate_left
     ·(intro w hSw;go_simp;try with_reducible rfl)
     (refine zw40 (i:=4) (v:=?_) rfl (by kernel_rfl) (by kernel_rfl) (by kernel_rfl) (fun _ _ _ h=>h) (Or.inl ⟨by rfl,?_⟩) trivial ?_);rotate_left
     ·(intro w hSw;go_simp;try with_reducible rfl)
     (refine zw40 (i:=7) (v:=?_) rfl (by kernel_rfl) (by kernel_rfl) (by kernel_rfl) (fun _ _ _ h=>h) (Or.inl ⟨by rfl,?_⟩) trivial ?_);rotate_left
     ·(intro w hSw;go_simp;try with_reducible rfl)
     (refine zw40 (i:=8) (v:=?_) rfl (by kernel_rfl) (by kernel_rfl) (by kernel_rfl) (fun _ _ _ h=>h) (Or.inl ⟨by rfl,?_⟩) trivial ?_);rotate_left
     ·(intro w hSw;go_simp;try with_reducible rfl)
     (refine zw40 (i:=9) (v:=?_) rfl (by kernel_rfl) (by kernel_rfl) (by kernel_rfl) (fun _ _ _ h=>h) (Or.inl ⟨by rfl,?_⟩) trivial ?_);rotate_left
     ·(intro w hSw;go_simp;try with_reducible rfl)
     (refine zw40 (i:=10) (v:=?_) rfl (by kernel_rfl) (by kernel_rfl) (by kernel_rfl) (fun _ _ _ h=>h) (Or.inl ⟨by rfl,?_⟩) trivial ?_);rotate_left
     ·(intro w hSw;go_simp;try with_reducible rfl)
     (refine zw40 (i:=11) (v:=?_) rfl (by kernel_rfl) (by kernel_rfl) (by kernel_rfl) (fun _ _ _ h=>h) (Or.inl ⟨by rfl,?_⟩) trivial ?_);rotate_left
     ·(intro w hSw;go_simp;try with_reducible rfl)
     (refine zw40 (i:=15) (v:=?_) rfl (by kernel_rfl) (by kernel_rfl) (by kernel_rfl) (fun _ _ _ h=>h) (Or.inl ⟨by rfl,?_⟩) trivial ?_);rotate_left
     ·(intro w hSw;go_simp;try with_reducible rfl)
     (refine zw40 (i:=16) (v:=?_) rfl (by kernel_rfl) (by kernel_rfl) (by kernel_rfl) (fun _ _ _ h=>h) (Or.inl ⟨by rfl,?_⟩) trivial ?_);rotate_left
     ·(intro w hSw;go_simp;try with_reducible rfl)
     (refine zw40 (i:=17) (v:=?_) rfl (by kernel_rfl) (by kernel_rfl) (by kernel_rfl) (fun _ _ _ h=>h) (Or.inl ⟨by rfl,?_⟩) trivial ?_);rotate_left
     ·(intro w hSw;go_simp;try with_reducible rfl)
     (refine zw40 (i:=18) (v:=?_) rfl (by kernel_rfl) (by kernel_rfl) (by kernel_rfl) (fun _ _ _ h=>h) (Or.inl ⟨by rfl,?_⟩) trivial ?_);rotate_left
     ·(intro w hSw;go_simp;try with_reducible rfl)
     (refine zw40 (i:=19) (v:=?_) rfl (by kernel_rfl) (by kernel_rfl) (by kernel_rfl) (fun _ _ _ h=>h) (Or.inl ⟨by rfl,?_⟩) trivial ?_);rotate_left
     ·(intro w hSw;go_simp;try with_reducible rfl)
     clear q0 q1 q2 q3 q4 q5 q6;refine zw41 (rs:=[5,12]) (by kernel_rfl) (by simp) ?_;refine AllReadyH.cons rfl (fun K hK=>?_) (AllReadyH.cons rfl (fun K hK=>?_) zw42)
     ·
      go_simp;refine(HC1.out _).mono ?_;rintro e x1 ⟨rfl,b8⟩;have HX1:=zh (zxt HX0.out b8);clear b8
      (try go_wp2_with fail)
      refine hK.out _ _ trivial fun _=>?_;clear hK K
      (refine zw40 (i:=6) (v:=?_) rfl (by kernel_rfl) (by kernel_rfl) (by kernel_rfl) (fun _ _ _ h=>h) (Or.inl ⟨by rfl,?_⟩) trivial ?_);rotate_left
      ·(intro w hSw;go_simp;try with_reducible rfl)
      refine zw41 (rs:=[12,20]) (by kernel_rfl) (by simp) ?_;refine AllReadyH.cons rfl (fun K hK=>?_) (AllReadyH.cons rfl (fun K hK=>?_) zw42)
      ·
       go_simp;refine hK.out _ _ trivial fun _=>?_;clear hK K;have HX2:=zh (zxa HX1.out (.cells #[.int .u8 (m:Int)] 5));have HL2:=zh ((Blk.new x1 5 #[.int .u8 (m:Int)]).cell 0);refine zw41 (rs:=[13,20]) (by kernel_rfl) (by simp) ?_;refine AllReadyH.cons rfl (fun K hK=>?_) (AllReadyH.cons rfl (fun K hK=>?_) zw42)
       ·
        have hC:=HCV.out _ _ HL2.out;go_simp;refine hK.out _ _ trivial fun _=>?_;clear hK K hC
        (refine zw40 (i:=14) (v:=?_) rfl (by kernel_rfl) (by kernel_rfl) (by kernel_rfl) (fun _ _ _ h=>h) (Or.inl ⟨by rfl,?_⟩) trivial ?_);rotate_left
        ·(intro w hSw;go_simp;try with_reducible rfl)
        refine zqO (i:=20) (by kernel_rfl) rfl fun K hK=>?_;go_simp;refine(HC2.out _).mono ?_;rintro e x4 ⟨rfl,b8⟩;have HX4:=zh (zxt HX2.out b8);have HL4:=zh (kc b8 HL2.out);clear b8
        (try go_wp2_with fail)
        refine hK.out _ _ trivial fun _=>?_;clear hK K
        (refine zw40 (i:=21) (v:=?_) rfl (by kernel_rfl) (by kernel_rfl) (by kernel_rfl) (fun _ _ _ h=>h) (Or.inl ⟨by rfl,?_⟩) trivial ?_);rotate_left
        ·(intro w hSw;go_simp;try with_reducible rfl)
        refine zqO (i:=22) (by kernel_rfl) rfl fun K hK=>?_;go_simp;refine hK.out _ _ trivial fun _=>?_;clear hK K;refine zw39 (by kernel_rfl) ?_ _;go_wp2_with fail;go_meet;exact⟨rfl,HX4.out⟩
       ·
        go_simp;refine(HC2.out _).mono ?_;rintro e x5 ⟨rfl,b8⟩;have HX5:=zh (zxt HX2.out b8);have HL5:=zh (kc b8 HL2.out);clear b8
        (try go_wp2_with fail)
        refine hK.out _ _ trivial fun _=>?_;clear hK K;refine zqO (i:=13) (by kernel_rfl) rfl fun K hK=>?_;have hC:=HCV.out _ _ HL5.out;go_simp;refine hK.out _ _ trivial fun _=>?_;clear hK K hC
        (refine zw40 (i:=14) (v:=?_) rfl (by kernel_rfl) (by kernel_rfl) (by kernel_rfl) (fun _ _ _ h=>h) (Or.inl ⟨by rfl,?_⟩) trivial ?_);rotate_left
        ·(intro w hSw;go_simp;try with_reducible rfl)
        (refine zw40 (i:=21) (v:=?_) rfl (by kernel_rfl) (by kernel_rfl) (by kernel_rfl) (fun _ _ _ h=>h) (Or.inl ⟨by rfl,?_⟩) trivial ?_);rotate_left
        ·(intro w hSw;go_simp;try with_reducible rfl)
        refine zqO (i:=22) (by kernel_rfl) rfl fun K hK=>?_;go_simp;refine hK.out _ _ trivial fun _=>?_;clear hK K;refine zw39 (by kernel_rfl) ?_ _;go_wp2_with fail;go_meet;exact⟨rfl,HX5.out⟩
      ·
       go_simp;refine(HC2.out _).mono ?_;rintro e x7 ⟨rfl,b8⟩;have HX7:=zh (zxt HX1.out b8);clear b8
       (try go_wp2_with fail)
       refine hK.out _ _ trivial fun _=>?_;clear hK K;refine zqO (i:=12) (by kernel_rfl) rfl fun K hK=>?_;go_simp;refine hK.out _ _ trivial fun _=>?_;clear hK K;have HX8:=zh (zxa HX7.out (.cells #[.int .u8 (m:Int)] 5));have HL8:=zh ((Blk.new x7 5 #[.int .u8 (m:Int)]).cell 0);refine zqO (i:=13) (by kernel_rfl) rfl fun K hK=>?_;have hC:=HCV.out _ _ HL8.out;go_simp;refine hK.out _ _ trivial fun _=>?_;clear hK K hC
       (refine zw40 (i:=14) (v:=?_) rfl (by kernel_rfl) (by kernel_rfl) (by kernel_rfl) (fun _ _ _ h=>h) (Or.inl ⟨by rfl,?_⟩) trivial ?_);rotate_left
       ·(intro w hSw;go_simp;try with_reducible rfl)
       (refine zw40 (i:=21) (v:=?_) rfl (by kernel_rfl) (by kernel_rfl) (by kernel_rfl) (fun _ _ _ h=>h) (Or.inl ⟨by rfl,?_⟩) trivial ?_);rotate_left
       ·(intro w hSw;go_simp;try with_reducible rfl)
       refine zqO (i:=22) (by kernel_rfl) rfl fun K hK=>?_;go_simp;refine hK.out _ _ trivial fun _=>?_;clear hK K;refine zw39 (by kernel_rfl) ?_ _;go_wp2_with fail;go_meet;exact⟨rfl,HX8.out⟩
     ·
      go_simp;refine hK.out _ _ trivial fun _=>?_;clear hK K;have HX10:=zh (zxd (zxa (zxr w1) (.cells #[.int .u8 (m:Int)] 5)));have HL10:=zh ((Blk.new w1 5 #[.int .u8 (m:Int)]).drew.cell 0);refine zw41 (rs:=[5,13]) (by kernel_rfl) (by simp) ?_;refine AllReadyH.cons rfl (fun K hK=>?_) (AllReadyH.cons rfl (fun K hK=>?_) zw42)
      ·
       go_simp;refine(HC1.out _).mono ?_;rintro e x11 ⟨rfl,b8⟩;have HX11:=zh (zxt HX10.out b8);have HL11:=zh (kc b8 HL10.out);clear b8
       (try go_wp2_with fail)
       refine hK.out _ _ trivial fun _=>?_;clear hK K
       (refine zw40 (i:=6) (v:=?_) rfl (by kernel_rfl) (by kernel_rfl) (by kernel_rfl) (fun _ _ _ h=>h) (Or.inl ⟨by rfl,?_⟩) trivial ?_);rotate_left
       ·(intro w hSw;go_simp;try with_reducible rfl)
       refine zw41 (rs:=[13,20]) (by kernel_rfl) (by simp) ?_;refine AllReadyH.cons rfl (fun K hK=>?_) (AllReadyH.cons rfl (fun K hK=>?_) zw42)
       ·
        have hC:=HCV.out _ _ HL11.out;go_simp;refine hK.out _ _ trivial fun _=>?_;clear hK K hC
        (refine zw40 (i:=14) (v:=?_) rfl (by kernel_rfl) (by kernel_rfl) (by kernel_rfl) (fun _ _ _ h=>h) (Or.inl ⟨by rfl,?_⟩) trivial ?_);rotate_left
        ·(intro w hSw;go_simp;try with_reducible rfl)
        refine zqO (i:=20) (by kernel_rfl) rfl fun K hK=>?_;go_simp;refine(HC2.out _).mono ?_;rintro e x13 ⟨rfl,b8⟩;have HX13:=zh (zxt HX11.out b8);have HL13:=zh (kc b8 HL11.out);clear b8
        (try go_wp2_with fail)
        refine hK.out _ _ trivial fun _=>?_;clear hK K
        (refine zw40 (i:=21) (v:=?_) rfl (by kernel_rfl) (by kernel_rfl) (by kernel_rfl) (fun _ _ _ h=>h) (Or.inl ⟨by rfl,?_⟩) trivial ?_);rotate_left
        ·(intro w hSw;go_simp;try with_reducible rfl)
        refine zqO (i:=22) (by kernel_rfl) rfl fun K hK=>?_;go_simp;refine hK.out _ _ trivial fun _=>?_;clear hK K;refine zw39 (by kernel_rfl) ?_ _;go_wp2_with fail;go_meet;exact⟨rfl,HX13.out⟩
       ·
        go_simp;refine(HC2.out _).mono ?_;rintro e x14 ⟨rfl,b8⟩;have HX14:=zh (zxt HX11.out b8);have HL14:=zh (kc b8 HL11.out);clear b8
        (try go_wp2_with fail)
        refine hK.out _ _ trivial fun _=>?_;clear hK K;refine zqO (i:=13) (by kernel_rfl) rfl fun K hK=>?_;have hC:=HCV.out _ _ HL14.out;go_simp;refine hK.out _ _ trivial fun _=>?_;clear hK K hC
        (refine zw40 (i:=14) (v:=?_) rfl (by kernel_rfl) (by kernel_rfl) (by kernel_rfl) (fun _ _ _ h=>h) (Or.inl ⟨by rfl,?_⟩) trivial ?_);rotate_left
        ·(intro w hSw;go_simp;try with_reducible rfl)
        (refine zw40 (i:=21) (v:=?_) rfl (by kernel_rfl) (by kernel_rfl) (by kernel_rfl) (fun _ _ _ h=>h) (Or.inl ⟨by rfl,?_⟩) trivial ?_);rotate_left
        ·(intro w hSw;go_simp;try with_reducible rfl)
        refine zqO (i:=22) (by kernel_rfl) rfl fun K hK=>?_;go_simp;refine hK.out _ _ trivial fun _=>?_;clear hK K;refine zw39 (by kernel_rfl) ?_ _;go_wp2_with fail;go_meet;exact⟨rfl,HX14.out⟩
      ·
       have hC:=HCV.out _ _ HL10.out;go_simp;refine hK.out _ _ trivial fun _=>?_;clear hK K hC;refine zqO (i:=5) (by kernel_rfl) rfl fun K hK=>?_;go_simp;refine(HC1.out _).mono ?_;rintro e x17 ⟨rfl,b8⟩;have HX17:=zh (zxt HX10.out b8);have HL17:=zh (kc b8 HL10.out);clear b8
       (try go_wp2_with fail)
       refine hK.out _ _ trivial fun _=>?_;clear hK K
       (refine zw40 (i:=6) (v:=?_) rfl (by kernel_rfl) (by kernel_rfl) (by kernel_rfl) (fun _ _ _ h=>h) (Or.inl ⟨by rfl,?_⟩) trivial ?_);rotate_left
       ·(intro w hSw;go_simp;try with_reducible rfl)
       (refine zw40 (i:=14) (v:=?_) rfl (by kernel_rfl) (by kernel_rfl) (by kernel_rfl) (fun _ _ _ h=>h) (Or.inl ⟨by rfl,?_⟩) trivial ?_);rotate_left
       ·(intro w hSw;go_simp;try with_reducible rfl)
       refine zqO (i:=20) (by kernel_rfl) rfl fun K hK=>?_;go_simp;refine(HC2.out _).mono ?_;rintro e x18 ⟨rfl,b8⟩;have HX18:=zh (zxt HX17.out b8);have HL18:=zh (kc b8 HL17.out);clear b8
       (try go_wp2_with fail)
       refine hK.out _ _ trivial fun _=>?_;clear hK K
       (refine zw40 (i:=21) (v:=?_) rfl (by kernel_rfl) (by kernel_rfl) (by kernel_rfl) (fun _ _ _ h=>h) (Or.inl ⟨by rfl,?_⟩) trivial ?_);rotate_left
       ·(intro w hSw;go_simp;try with_reducible rfl)
       refine zqO (i:=22) (by kernel_rfl) rfl fun K hK=>?_;go_simp;refine hK.out _ _ trivial fun _=>?_;clear hK K;refine zw39 (by kernel_rfl) ?_ _;go_wp2_with fail;go_meet;exact⟨rfl,HX18.out⟩
    -- REST
    case rest=>
     obtain⟨rfl,hE2⟩:=hcut;have HE2:=zh (zxt HE1.out hE2);clear hE2;go_wp2_with fail
     go_roundw
     case rel=>exact⟨a+L,a+L,E2,by omega,zw8 _,by go_num,by go_num,by rw[HF.out],HPK.out,HE2.out⟩
     case measure=>simp[intOf];omega
  ·have haN:a=s.size:=by omega
   have z0:¬(a:Int)<(s.size:Int):=by omega
   have HF:Hid (strOf E++strOf (litT ((xs.drop plain).take (s.size-plain)))=strOf R):=zh (by
    rw[←strOf_app,←HE.out,pk_end (by rw[HXL.out];omega),List.take_of_length_le (by rw[zw1,HXL.out];exact zw8 _)])
   have hlits:(litT ((xs.drop plain).take (s.size-plain))).length≤2000000:=by
    have e:=congrArg ByteArray.size HF.out;rw[zw43,strOf_size,strOf_size,strOf_size]at e;omega
   have hs1:(strOf (litT ((xs.drop plain).take (s.size-plain)))).size≤2000000:=by rw[strOf_size];exact hlits
   have HC1:=zh (fun W=>HRN.out plain s.size W (zw8 _) (by omega));have HAN:=zh haN;clear haN hlits;generalize strOf E=S0 at*;generalize strOf (litT ((xs.drop plain).take (s.size-plain)))=S1 at*;have hz1:¬9223372036854775807<S0.size+S1.size:=by omega
   have s1:(plain:Int)≤(s.size:Int):=by omega
   go_wp2_with fail;refine(HC1.out _).mono ?_;rintro e w8 ⟨rfl,b8⟩;have HE2:=zh (zxt HEx.out b8);clear b8;go_wp2_with fail;go_ret;exact⟨by rw[HF.out];rfl,HE2.out⟩
end Go.Proofs.YtbopblbhjcemaaaGreatDoor.Lz
