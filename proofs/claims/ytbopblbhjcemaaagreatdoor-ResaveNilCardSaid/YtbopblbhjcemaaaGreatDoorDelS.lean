/- The document's difference, walked. -/
import Derived.Test.YtbopblbhjcemaaaGreatDoorF17
set_option maxHeartbeats 16000000
set_option maxRecDepth 100000
set_option linter.all false
open Go.ChangeShapes Go.WideShapes Go.ChangeAt Go.RowKit
namespace Go.Proofs.YtbopblbhjcemaaaGreatDoor.Delta
open Wire
theorem refZero_yes (s:ByteArray) (from_ n:Nat) (w:World) (hs:s.size≤1000000) (hf:from_≤s.size) (hn:n≤1000000) (h:min n (s.size-from_)≤zr ((natsOf s).drop from_)):
  Calls Tryz.prog 115 #[.string s,.int .i64 (from_:Int),.int .i64 (n:Int)] w fun e w'=>e= .returned (.bool true)∧w=w':=
 (refZero s from_ n w hs hf hn).mono fun _ _ ⟨a,b⟩=>⟨by rw[a,zw15 h],b⟩
theorem refZero_no (s:ByteArray) (from_ n:Nat) (w:World) (hs:s.size≤1000000) (hf:from_≤s.size) (hn:n≤1000000) (h:¬min n (s.size-from_)≤zr ((natsOf s).drop from_)):
  Calls Tryz.prog 115 #[.string s,.int .i64 (from_:Int),.int .i64 (n:Int)] w fun e w'=>e= .returned (.bool false)∧w=w':=
 (refZero s from_ n w hs hf hn).mono fun _ _ ⟨a,b⟩=>⟨by rw[a,zw14 h],b⟩
theorem lit_more {l:List Nat} {k:Nat} (hk:k<l.length) (h4:zr (l.drop k)<4) (hz:zr (l.drop k)<l.length-k):lit (l.drop k)=lit (l.drop (k+1))+1:=by
 have hd:=zw20 hk;rw[hd,lit,←hd,if_neg (by rw[zw1];omega)]
theorem str_ext (X:ByteArray) (j i:Nat):X.extract j i=strOf (((natsOf X).drop j).take (i-j)):=by
 have h1:=strOf_nats (X.extract j i);rw[←h1]
 congr 1
 unfold natsOf;rw[ByteArray.data_extract,Array.toList_extract,List.extract];simp[List.map_take,List.map_drop]
def ORel (w:World) (L head:List Nat) (sv av:Value) (wr:World):Prop:=
 ∃(k:Nat) (E:List Nat),k≤L.length∧av= .int .i64 (k:Int)∧sv= .string (strOf (head++E))∧E++enc (L.drop k)=enc L∧Ext w wr∧E.length≤21*k
def F1Rel (L:List Nat) (k:Nat) (fv:Value):Prop:=∃j:Nat,k≤j∧j≤L.length∧j-k≤zr (L.drop k)∧fv= .int .i64 (j:Int)
def F2Rel (L:List Nat) (j:Nat) (ev:Value):Prop:=∃i:Nat,j≤i∧i≤L.length∧lit (L.drop j)=(i-j)+lit (L.drop i)∧ev= .int .i64 (i:Int)
theorem refDiff (s t:ByteArray) (w:World) (hs:s.size≤500) (ht:t.size≤500):
  Calls Tryz.prog 77 #[.string s,.string t] w fun e w'=>e= .returned (.string (strOf (diff (natsOf s) (natsOf t))))∧Ext w w':=by
 have hM:=refMix s t w (by omega) (by omega);have hsm:=mix_small (natsOf_small s) (natsOf_small t);have HXN:Hid (natsOf (strOf (mix (natsOf s) (natsOf t)))=mix (natsOf s) (natsOf t)):=zh (nats_strOf hsm);have HXL:Hid ((natsOf (strOf (mix (natsOf s) (natsOf t)))).length=t.size):=zh (by rw[HXN.out,mix_len,natsOf_len]);have HD:Hid (diff (natsOf s) (natsOf t)=vb t.size++enc (natsOf (strOf (mix (natsOf s) (natsOf t))))):=zh (by unfold diff;rw[natsOf_len,HXN.out]);have HM:=zh hM;clear hM hsm HXN;generalize strOf (mix (natsOf s) (natsOf t))=X at*;have hXs:X.size=t.size:=by rw[←natsOf_len,HXL.out]
 have hX4:X.size≤500:=by omega
 have HXS:=zh hXs;clear hXs;have hX6:X.size≤1000000:=by omega
 have HL:=zh (natsOf_len X);rw[HD.out];have hvl:=vb_ten (n:=t.size) (by omega);obtain⟨head,hhd⟩:∃h,h=vb t.size:=⟨_,rfl⟩;rw[←hhd]at hvl ⊢;have Hhd:=zh hhd;clear hhd;have HV:=zh (fun(n:Nat) (hn:n≤500) (W:World)=>refVarint n (by omega) W);go_enter Tryz.func77,Tryz.ntmps77;go_wp2_with fail;refine HM.out.mono ?_;rintro e w1 ⟨rfl,b1⟩;have B1:=zh b1;clear b1;go_wp2_with fail;refine(HV.out t.size (by omega) _).mono ?_;rintro e w2 ⟨rfl,b2⟩;have E2:=zh (zxt B1.out b2);clear b2 B1;go_wp2_with fail
 go_loopw [6,7] (fun sv av wr=>ORel w (natsOf X) head sv av wr) (fun _ av _=>X.size-(intOf av).toNat)
 case atStart=>exact⟨0,[],Nat.zero_le _,rfl,by rw[zw18,Hhd.out],by rw[zw28,zw17],E2.out,by simp⟩
 case round=>
  clear E2;obtain⟨k,E,hk,rfl,rfl,hE,hex,hEl⟩:=hrel;have HE:=zh hE;clear hE;have EX:=zh hex;clear hex;rw[HL.out]at hk;by_cases hz:min X.size (X.size-k)≤zr ((natsOf X).drop k)
  ·have HR:Hid (E=enc (natsOf X)):=zh (by
    rw[←HE.out,enc_stop (by rw[zw1,HL.out];omega),zw18])
   clear HE;go_wp2_with fail;refine(refZero_yes X k X.size _ hX6 hk hX6 hz).mono ?_;rintro e w3 ⟨rfl,rfl⟩;go_wp2_with fail;go_ret;exact⟨by rw[HR.out];rfl,EX.out⟩
  ·have hzr:=zr_le ((natsOf X).drop k)
   rw[zw1,HL.out]at hzr;have HZ:Hid (zr ((natsOf X).drop k)<((natsOf X).drop k).length):=zh (by rw[zw1,HL.out];omega);have hzk:zr ((natsOf X).drop k)<X.size-k:=by omega
   have HNZ:=zh hz;clear hz;go_wp2_with fail;refine(refZero_no X k X.size _ hX6 hk hX6 HNZ.out).mono ?_;rintro e w3 ⟨rfl,rfl⟩;go_wp2_with fail;obtain⟨wo,rfl⟩:∃wo:World,wo=wr:=⟨_,rfl⟩;have HST:=zh (fun j (a:k≤j) (b:j-k≤zr ((natsOf X).drop k))=>zr_step (l:=natsOf X) a b)
   go_loop [8] (fun fv=>F1Rel (natsOf X) k fv) (fun fv=>X.size-(intOf fv).toNat)
   case atStart=>exact⟨k,zw8 _,by rw[HL.out];exact hk,by omega,rfl⟩
   case round=>
    obtain⟨j,hj1,hj2,hj3,rfl⟩:=hrel;rw[HL.out]at hj2;have hlt:j<X.size:=by omega
    have j0:(0:Int)≤(j:Int):=by omega
    have j1:(j:Int)<(X.size:Int):=by omega
    have HG:=zh (natsOf_get X j hlt);have HA:=zh (zr_at (xs:=natsOf X) (k:=j) (by rw[HL.out];exact hlt));have HS:=zh (HST.out j hj1 hj3);by_cases h0:X[j].toNat=0
    ·have hx:((X[j].toNat:Int)==0)=true:=by rw[h0];rfl
     have HN:Hid (j+1-k≤zr ((natsOf X).drop k)):=zh (by
      have e2:=HA.out;rw[HG.out,if_pos h0]at e2;have:=HS.out;omega)
     clear h0;go_wp2_with fail
     go_round
     case rel=>exact⟨j+1,by omega,by rw[HL.out];omega,HN.out,by go_num⟩
     case measure=>simp[intOf];omega
    ·have hx:((X[j].toNat:Int)==0)=false:=zw12.2 (by omega)
     have HJ:Hid (j-k=zr ((natsOf X).drop k)):=zh (by
      have e2:=HA.out;rw[HG.out,if_neg h0]at e2;have:=HS.out;omega)
     clear h0 HST HS HA HG;go_wp2_with fail
     go_loop [9] (fun ev=>F2Rel (natsOf X) j ev) (fun ev=>X.size-(intOf ev).toNat)
     case atStart=>exact⟨j,zw8 _,by rw[HL.out];omega,by omega,rfl⟩
     case round=>
      obtain⟨i,hi1,hi2,hi3,rfl⟩:=hrel;rw[HL.out]at hi2;have HI3:=zh hi3;clear hi3;have HMORE:=zh (fun a b c=>lit_more (l:=natsOf X) (k:=i) a b c);have hzi:=zr_le ((natsOf X).drop i);rw[zw1,HL.out]at hzi;have i0:(0:Int)≤(i:Int):=by omega
      by_cases hgo:i<X.size∧zr ((natsOf X).drop i)<4∧zr ((natsOf X).drop i)<X.size-i
      ·obtain⟨hg1,hg2,hg3⟩:=hgo
       have HN:Hid (lit ((natsOf X).drop j)=(i+1-j)+lit ((natsOf X).drop (i+1))):=zh (by
        have:=HI3.out;have:=HMORE.out (by rw[HL.out];exact hg1) hg2 (by rw[HL.out];exact hg3);omega)
       clear HMORE;go_wp2_with fail;refine(refZero_no X i 4 _ hX6 hi2 (by omega) (by omega)).mono ?_;rintro e w4 ⟨rfl,rfl⟩;go_wp2_with fail;refine(refZero_no X i X.size _ hX6 hi2 hX6 (by omega)).mono ?_;rintro e w4 ⟨rfl,rfl⟩;go_wp2_with fail
       go_round
       case rel=>exact⟨i+1,by omega,by rw[HL.out];omega,HN.out,by go_num⟩
       case measure=>simp[intOf];omega
      ·have HS0:Hid (lit ((natsOf X).drop i)=0):=zh (by
        by_cases hlt2:i<X.size
        ·exact lit_stop (by rw[zw1,HL.out];omega)
        ·rw[List.drop_of_length_le (by rw[HL.out];omega)];rfl)
       have HIJ:Hid (lit ((natsOf X).drop j)=i-j):=zh (by have:=HI3.out;have:=HS0.out;omega);have HIJ':Hid (j<i):=zh (by
        have h1:=zr_full HZ.out;have h2:=lit_pos h1.2 h1.1;rw[zw31,←HJ.out,show k+(j-k)=j from by omega]at h2;have:=HIJ.out;omega)
       clear HMORE HS0 HI3;obtain⟨a,ha⟩:∃a:Nat,a=j-k:=⟨_,rfl⟩;obtain⟨b,hb⟩:∃b:Nat,b=i-j:=⟨_,rfl⟩;have hij:=HIJ'.out;have hw1:IntKind.i64.wrap ((j:Int)-(k:Int))=(a:Int):=by rw[IntWalk.i64_in _ (by omega)];omega
       have hw2:IntKind.i64.wrap ((i:Int)-(j:Int))=(b:Int):=by rw[IntWalk.i64_in _ (by omega)];omega
       have hw3:IntKind.u64.wrap (a:Int)=(a:Int):=by rw[IntKind.wrap_u64];omega
       have hw4:IntKind.u64.wrap (b:Int)=(b:Int):=by rw[IntKind.wrap_u64];omega
       have HW:=zh (And.intro hw1 (And.intro hw2 (And.intro hw3 hw4)));have hv1:=vb_ten (n:=a) (by omega);have hv2:=vb_ten (n:=b) (by omega);have HC1:=zh (fun W=>HV.out a (by omega) W);have HC2:=zh (fun W=>HV.out b (by omega) W);have HF:Hid (strOf (head++E)++strOf (vb a)++strOf (vb b)++X.extract j i=strOf (head++(E++vb a++vb b++((natsOf X).drop j).take (lit ((natsOf X).drop j))))):=zh (by
        have e:X.extract j i=strOf (((natsOf X).drop j).take (lit ((natsOf X).drop j))):=by
         rw[HIJ.out];exact str_ext X j i
        rw[e,←strOf_app,←strOf_app,←strOf_app];simp only[zw7])
       have HE2:Hid ((E++vb a++vb b++((natsOf X).drop j).take (lit ((natsOf X).drop j)))++enc ((natsOf X).drop i)=enc (natsOf X)):=zh (by
        have e:=enc_more HZ.out;have e1:((natsOf X).drop k).drop (zr ((natsOf X).drop k))=(natsOf X).drop j:=by rw[zw31,←HJ.out];congr 1;omega
        rw[e1,←HJ.out,←ha]at e;have e2:a+lit ((natsOf X).drop j)=i-k:=by rw[HIJ.out];omega
        rw[e2,zw31,show k+(i-k)=i from by omega,HIJ.out,←hb]at e;rw[←HE.out,e,HIJ.out,←hb];simp only[zw7])
       have hEl2:(E++vb a++vb b++((natsOf X).drop j).take (lit ((natsOf X).drop j))).length≤21*i:=by
        simp only[zw0,zw2,HIJ.out];omega
       have hs0:(strOf (head++E)).size≤11000:=by rw[strOf_size,zw0];omega
       have hs1:(strOf (vb a)).size≤10:=by rw[strOf_size];exact hv1
       have hs2:(strOf (vb b)).size≤10:=by rw[strOf_size];exact hv2
       generalize E++vb a++vb b++((natsOf X).drop j).take (lit ((natsOf X).drop j))=E2 at*;generalize strOf (head++E)=S0 at*;generalize strOf (vb a)=S1 at*;generalize strOf (vb b)=S2 at*;have hz1:¬9223372036854775807<S0.size+S1.size:=by omega
       have hz2:¬9223372036854775807<S0.size+S1.size+S2.size:=by omega
       have hz3:¬9223372036854775807<S0.size+S1.size+S2.size+(i-j):=by omega
       have i1:(i:Int)≤(X.size:Int):=by omega
       have ij:(j:Int)≤(i:Int):=by omega
       clear hw1 hw2 hw3 hw4 HIJ hv1 hv2 HIJ' HE HJ HZ ha hb;have hlast:i=X.size∨(i<X.size∧4≤zr ((natsOf X).drop i))∨(i<X.size∧zr ((natsOf X).drop i)<4∧zr ((natsOf X).drop i)=X.size-i):=by omega
       rcases hlast with hc | ⟨hc1,hc2⟩ | ⟨hc1,hc2,hc3⟩
       ·have hnl:¬(i:Int)<(X.size:Int):=by omega
        clear hgo hc;go_wp2_with fail;obtain⟨hw1,hw2,hw3,hw4⟩:=HW.out;have E0:=zh (zxd (zxr wo))
        go_region_held3 (fun w'=>Hid (Ext wo w')) (first | assumption | exact zh (zxt (Hid.out (by assumption)) b8) | exact zh (zxt (Hid.out (by assumption)) b9)) (first | (go_at_call 110;((with_reducible refine(HC1.out _).mono ?_);rintro e w8 ⟨rfl,b8⟩)) | (go_at_call 110;((with_reducible refine(HC2.out _).mono ?_);rintro e w9 ⟨rfl,b9⟩)))
        clear hw1 hw2 hw3 hw4;go_wp2_with fail;refine⟨⟨i,E2,by rw[HL.out];exact hi2,rfl,by rw[HF.out],HE2.out,zxt EX.out (Hid.out (by assumption)),hEl2⟩,?_⟩;simp[intOf];omega
       ·have hc4:(i:Int)+4≤(X.size:Int):=by omega
        clear hgo;go_wp2_with fail;refine(refZero_yes X i 4 _ hX6 hi2 (by omega) (by omega)).mono ?_;rintro e w4 ⟨rfl,rfl⟩;go_wp2_with fail;obtain⟨hw1,hw2,hw3,hw4⟩:=HW.out;have E0:=zh (zxd (zxr wo))
        go_region_held3 (fun w'=>Hid (Ext wo w')) (first | assumption | exact zh (zxt (Hid.out (by assumption)) b8) | exact zh (zxt (Hid.out (by assumption)) b9)) (first | (go_at_call 110;((with_reducible refine(HC1.out _).mono ?_);rintro e w8 ⟨rfl,b8⟩)) | (go_at_call 110;((with_reducible refine(HC2.out _).mono ?_);rintro e w9 ⟨rfl,b9⟩)))
        clear hw1 hw2 hw3 hw4;go_wp2_with fail;refine⟨⟨i,E2,by rw[HL.out];exact hi2,rfl,by rw[HF.out],HE2.out,zxt EX.out (Hid.out (by assumption)),hEl2⟩,?_⟩;simp[intOf];omega
       ·have hc4:¬(i:Int)+4≤(X.size:Int):=by omega
        have HC3:=zh hc3;clear hgo hc3;go_wp2_with fail;refine(refZero_yes X i 4 _ hX6 hi2 (by omega) (by have:=HC3.out;omega)).mono ?_;rintro e w4 ⟨rfl,rfl⟩;go_wp2_with fail;refine(refZero_yes X i X.size _ hX6 hi2 hX6 (by have:=HC3.out;omega)).mono ?_;rintro e w4 ⟨rfl,rfl⟩;go_wp2_with fail;obtain⟨hw1,hw2,hw3,hw4⟩:=HW.out;have E0:=zh (zxd (zxr wo))
        go_region_held3 (fun w'=>Hid (Ext wo w')) (first | assumption | exact zh (zxt (Hid.out (by assumption)) b8) | exact zh (zxt (Hid.out (by assumption)) b9)) (first | (go_at_call 110;((with_reducible refine(HC1.out _).mono ?_);rintro e w8 ⟨rfl,b8⟩)) | (go_at_call 110;((with_reducible refine(HC2.out _).mono ?_);rintro e w9 ⟨rfl,b9⟩)))
        clear hw1 hw2 hw3 hw4;go_wp2_with fail;refine⟨⟨i,E2,by rw[HL.out];exact hi2,rfl,by rw[HF.out],HE2.out,zxt EX.out (Hid.out (by assumption)),hEl2⟩,?_⟩;simp[intOf];omega
end Go.Proofs.YtbopblbhjcemaaaGreatDoor.Delta
