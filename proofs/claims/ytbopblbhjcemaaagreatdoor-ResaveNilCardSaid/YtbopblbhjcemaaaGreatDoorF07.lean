
import Derived.Test.YtbopblbhjcemaaaGreatDoorF00
import Derived.LaidLaws
import Derived.Lib.SlBytesConst
set_option maxHeartbeats 16000000
set_option maxRecDepth 100000
set_option linter.all false
open Go.ChangeShapes Go.WideShapes Go.ChangeAt Go.RowKit
namespace Go.Proofs.YtbopblbhjcemaaaGreatDoor.Crc
def hv:List Nat:=[0x00000000,0x1db71064,0x3b6e20c8,0x26d930ac,0x76dc4190,0x6b6b51f4,0x4db26158,0x5005713c,0xedb88320,0xf00f9344,0xd6d6a3e8,0xcb61b38c,0x9b64c2b0,0x86d3d2d4,0xa00ae278,0xbdbdf21c]
def hw (i:Nat):BitVec 32:=BitVec.ofNat 32 (hv.getD i 0)
def Tab (w:World):Prop:=∀i:Nat,i<16→w.cell? ⟨0,i,none⟩=some (.int .u32 ((hw i).toNat:Int))
theorem Tab.lt {w:World} (h:Tab w):0<w.heap.size:=World.block_lt_of_cell? w _ (h 0 (by omega))
theorem Tab.ext {w w':World} (h:Tab w) (hb:Ext w w'):Tab w':=fun i hi=>(hb.cell (p:=⟨_,i,none⟩) h.lt).trans (h i hi)
def Rd (w:World) (A:Option Addr) (n:Nat) (xs:List Nat):Prop:=
 xs.length=n∧(∀j,xs.getD j 0<256)∧(0<n→∃b o,A=some ⟨b,o,none⟩∧b<w.heap.size∧∀j,j<n→w.cell? ⟨b,o+j,none⟩=some (.int .u8 (xs.getD j 0:Nat)))
def half (m:BitVec 32):BitVec 32:=m>>>4 ^^^hw (m &&& 15#32).toNat
def byteW (n:BitVec 32) (c:Nat):BitVec 32:=half (half (n ^^^BitVec.ofNat 32 c))
def feed (n:BitVec 32) (xs:List Nat):BitVec 32:=xs.foldl byteW n
def moreW (s:BitVec 32) (xs:List Nat):BitVec 32:= ~~~ feed (~~~ s) xs
theorem xor_bv (n s:BitVec 32):bits .xor .u32 (n.toNat:Int) (s.toNat:Int)=((n ^^^s).toNat:Int):=by
 show IntKind.u32.wrap ((BitVec.ofInt 32 (n.toNat:Int) ^^^BitVec.ofInt 32 (s.toNat:Int)).toNat:Int)=_;rw[BitVec.ofInt_natCast,BitVec.ofInt_natCast,BitVec.ofNat_toNat,BitVec.ofNat_toNat,BitVec.setWidth_eq,BitVec.setWidth_eq];have:=(n ^^^s).isLt;rw[IntKind.wrap_u32];omega
theorem and_bv (n s:BitVec 32):bits .and .u32 (n.toNat:Int) (s.toNat:Int)=((n &&& s).toNat:Int):=by
 show IntKind.u32.wrap ((BitVec.ofInt 32 (n.toNat:Int) &&& BitVec.ofInt 32 (s.toNat:Int)).toNat:Int)=_;rw[BitVec.ofInt_natCast,BitVec.ofInt_natCast,BitVec.ofNat_toNat,BitVec.ofNat_toNat,BitVec.setWidth_eq,BitVec.setWidth_eq];have:=(n &&& s).isLt;rw[IntKind.wrap_u32];omega
theorem not_bv (s:BitVec 32):bits .xor .u32 IntKind.u32.max (s.toNat:Int)=((~~~ s).toNat:Int):=by
 have h:=xor_bv (BitVec.allOnes 32) s;rw[BitVec.allOnes_xor]at h;exact h
theorem shr4_bv (n:BitVec 32):(n.toNat:Int)/(16:Int)=((n>>>4).toNat:Int):=by
 rw[BitVec.toNat_ushiftRight,Nat.shiftRight_eq_div_pow];omega
theorem and15_lt (m:BitVec 32):(m &&& 15#32).toNat<16:=by
 rw[BitVec.toNat_and];exact zw11 Nat.and_le_right (by decide)
def ORel (t:BitVec 32) (xs:List Nat) (nv iv:Value):Prop:=∃k:Nat,k≤xs.length∧nv= .int .u32 ((feed t (xs.take k)).toNat:Int)∧iv= .int .i64 (k:Int)
def IRel (m:BitVec 32) (nv jv:Value):Prop:=(nv= .int .u32 (m.toNat:Int)∧jv= .int .i64 0)∨(nv= .int .u32 ((half m).toNat:Int)∧jv= .int .i64 1)∨(nv= .int .u32 ((half (half m)).toNat:Int)∧jv= .int .i64 2)
theorem feed_snoc (n:BitVec 32) (xs:List Nat) (k:Nat) (h:k<xs.length):feed n (xs.take (k+1))=byteW (feed n (xs.take k)) (xs.getD k 0):=by
 unfold feed;rw[List.take_succ_eq_append_getElem h,List.foldl_append];simp[zw5,zw6 h]
theorem byte_nat {c:Nat} (h:c<256):(BitVec.ofNat 32 c).toNat=c:=by rw[BitVec.toNat_ofNat];omega
theorem more_nil (s:BitVec 32) (A:Option Addr) (c:Nat) (w:World):
  Calls Tryz.prog 91 #[.int .u32 (s.toNat:Int),.slice A 0 c] w fun e w'=>e= .returned (.int .u32 (s.toNat:Int))∧w=w':=by
 have h0:=s.isLt;go_enter Tryz.func91,Tryz.ntmps91
 go_wp2
 rw[not_bv];have ht: ~~~ (~~~ s)=s:=BitVec.not_not;generalize ~~~ s=t at*;have HT:=zh ht;clear ht
 go_loop [5,12] (fun nv iv=>nv= .int .u32 (t.toNat:Int)∧iv= .int .i64 0) (fun _ _=>0)
 case atStart=>exact⟨rfl,rfl⟩
 case round=>
  obtain⟨rfl,rfl⟩:=hrel
  go_wp2
  rw[not_bv,HT.out];go_ret;exact⟨rfl,rfl⟩
theorem half_rules (m:BitVec 32) (w:World) (hT:Tab w):∃(a:Nat) (sh t:BitVec 32),a<16∧bits BinOp.and IntKind.u32 (m.toNat:Int) 15=(a:Int)∧(m.toNat:Int)/16=(sh.toNat:Int)∧w.cell? ⟨0,a,none⟩=some (.int .u32 (t.toNat:Int))∧bits .xor .u32 (sh.toNat:Int) (t.toNat:Int)=((half m).toNat:Int):=
 ⟨(m &&& 15#32).toNat,m>>>4,hw (m &&& 15#32).toNat,and15_lt m,and_bv m 15#32,shr4_bv m,hT _ (and15_lt m),xor_bv _ _⟩
theorem more_some (s:BitVec 32) (b o n c:Nat) (xs:List Nat) (w:World) (hT:Tab w) (hl:xs.length=n) (hb:∀j,xs.getD j 0<256) (hc:∀j,j<n→w.cell? ⟨b,o+j,none⟩=some (.int .u8 (xs.getD j 0:Nat))) (hn:n≤4000000000):
  Calls Tryz.prog 91 #[.int .u32 (s.toNat:Int),.slice (some ⟨b,o,none⟩) n c] w fun e w'=>e= .returned (.int .u32 ((moreW s xs).toNat:Int))∧w=w':=by
 have h0:=s.isLt;have HT:=zh hT;clear hT;have HC:=zh hc;clear hc;have HB:=zh hb;clear hb;have HL:=zh hl;have hfin:moreW s xs= ~~~ feed (~~~ s) xs:=rfl;generalize moreW s xs=fin at*;have HF:=zh hfin;clear hfin;go_enter Tryz.func91,Tryz.ntmps91
 go_wp2
 rw[not_bv];generalize ~~~ s=t at*;have hle:n≤xs.length:=by omega
 have hle2:xs.length≤n:=by omega
 clear hl
 go_loop [5,12] (fun nv iv=>ORel t xs nv iv) (fun _ iv=>n-(intOf iv).toNat)
 case atStart=>exact⟨0,by omega,rfl,rfl⟩
 case round=>
  obtain⟨k,hk,rfl,rfl⟩:=hrel;by_cases hlt:k<n
  ·have hk0:(0:Int)≤(k:Int):=by omega
   have hk1:(k:Int)<(n:Int):=by omega
   have c0:=HC.out k hlt;have c1:=HB.out k;have HFS:=zh (feed_snoc t xs k (by omega));rw[←byte_nat c1]at c0;generalize hcb:BitVec.ofNat 32 (xs.getD k 0)=cb at*;generalize hnn:feed t (xs.take k)=nn at*;have HCB:=zh hcb;have HNN:=zh hnn;clear hcb hnn;have n1:=nn.isLt
   go_wp2
   rw[xor_bv];generalize hm:nn ^^^cb=m at*;have HM:=zh hm;clear hm
   go_loop [5,20] (fun nv jv=>IRel m nv jv) (fun _ jv=>2-(intOf jv).toNat)
   case atStart=>exact .inl ⟨rfl,rfl⟩
   case round=>
    rcases hrel with ⟨rfl,rfl⟩ | ⟨rfl,rfl⟩ | ⟨rfl,rfl⟩
    ·obtain⟨a,sh,t0,ha,r1,r2,r3,r4⟩:=half_rules m w HT.out
     have ha0:(a:Int)<16:=by omega
     have n2:=m.isLt;have R4:=zh r4;clear r4
     go_wp2
     go_round
     case rel=>exact .inr (.inl ⟨by rw[R4.out],rfl⟩)
     case measure=>simp[intOf]
    ·generalize hm2:half m=m2 at*
     have HM2:=zh hm2;clear hm2;obtain⟨a,sh,t0,ha,r1,r2,r3,r4⟩:=half_rules m2 w HT.out;have ha0:(a:Int)<16:=by omega
     have n2:=m2.isLt;have R4:=zh r4;clear r4
     go_wp2
     go_round
     case rel=>exact .inr (.inr ⟨by rw[HM2.out,R4.out],rfl⟩)
     case measure=>simp[intOf]
    ·have HG:Hid (byteW nn (xs.getD k 0)=half (half m)):=zh (by unfold byteW;rw[HCB.out,HM.out])
     generalize half (half m)=m3 at*
     go_wp2
     go_round
     case rel=>exact⟨k+1,by omega,by rw[HFS.out,HG.out],by go_num⟩
     case measure=>simp[intOf];omega
  ·have hk2:k=xs.length:=by omega
   have HX:=zh (show feed t (xs.take k)=feed t xs by rw[hk2,List.take_length]);have HY:=zh (not_bv (feed t xs));clear hk2;rw[HX.out];generalize feed t xs=y at*
   go_wp2
   rw[HY.out];go_ret;exact⟨by rw[HF.out];rfl,rfl⟩
theorem more (s:BitVec 32) (A:Option Addr) (n c:Nat) (xs:List Nat) (w:World) (hT:Tab w) (h:Rd w A n xs) (hn:n≤4000000000):
  Calls Tryz.prog 91 #[.int .u32 (s.toNat:Int),.slice A n c] w fun e w'=>e= .returned (.int .u32 ((moreW s xs).toNat:Int))∧w=w':=by
 rcases Nat.eq_zero_or_pos n with rfl | hp
 ·have:xs=[]:=zw19 h.1
  subst this;have e:moreW s []=s:=by simp[moreW,feed]
  rw[e];exact more_nil s A c w
 ·obtain⟨b,o,rfl,_,hc⟩:=h.2.2 hp
  exact more_some s b o n c xs w hT h.1 h.2.1 hc hn
theorem sum (A:Option Addr) (n c:Nat) (xs:List Nat) (w:World) (hT:Tab w) (h:Rd w A n xs) (hn:n≤4000000000):
  Calls Tryz.prog 52 #[.slice A n c] w fun e w'=>e= .returned (.int .u32 ((moreW 0#32 xs).toNat:Int))∧w=w':=by
 have H:=zh (fun W hW hR=>more 0#32 A n c xs W hW hR hn);have HT:=zh hT;have HR:=zh h;clear hT h;generalize moreW 0#32 xs=y at*;go_enter Tryz.func52,Tryz.ntmps52;go_wp2_with fail;refine(H.out _ HT.out HR.out).mono ?_;rintro e w1 ⟨rfl,rfl⟩;go_wp2_with fail;go_ret;exact⟨rfl,rfl⟩
def poly:BitVec 32:=0xedb88320#32
def step (x:BitVec 32):BitVec 32:=if x.getLsbD 0=true then x>>>1 ^^^poly else x>>>1
theorem xx (a b p:BitVec 32):a ^^^p ^^^(b ^^^p)=a ^^^b:=by
 apply BitVec.eq_of_getLsbD_eq;intro i _;simp only[BitVec.getLsbD_xor];cases a.getLsbD i<;>cases b.getLsbD i<;>cases p.getLsbD i<;>rfl
theorem step_xor (a b:BitVec 32):step (a ^^^b)=step a ^^^step b:=by
 unfold step;rw[BitVec.getLsbD_xor,BitVec.ushiftRight_xor_distrib];cases ha:a.getLsbD 0<;>cases hb:b.getLsbD 0<;>simp
 ·rw[BitVec.xor_assoc]
 ·rw[BitVec.xor_assoc,BitVec.xor_comm (b>>>1),←BitVec.xor_assoc]
 ·exact(xx _ _ _).symm
def stepN:Nat→BitVec 32→BitVec 32
 | 0,x=>x
 | k+1,x=>step (stepN k x)
theorem stepN_xor (k:Nat) (a b:BitVec 32):stepN k (a ^^^b)=stepN k a ^^^stepN k b:=by
 induction k with
 | zero=>rfl
 | succ k ih=>simp only[stepN,ih,step_xor]
theorem stepN_add (j k:Nat) (x:BitVec 32):stepN (j+k) x=stepN j (stepN k x):=by
 induction j with
 | zero=>simp[stepN]
 | succ j ih=>rw[Nat.succ_add];simp only[stepN,ih]
theorem stepN_low (k:Nat) (x:BitVec 32) (h:∀i,i<k→x.getLsbD i=false):stepN k x=x>>>k:=by
 induction k with
 | zero=>simp[stepN]
 | succ k ih=>
  have e:=ih (fun i hi=>h i (by omega));have hb:(x>>>k).getLsbD 0=false:=by rw[BitVec.getLsbD_ushiftRight];exact h k (by omega)
  simp only[stepN,e,step,hb];simp[BitVec.shiftRight_add]
theorem low_case:∀a:Nat,a<16→stepN 4 (BitVec.ofNat 32 a)=hw a:=by decide
theorem half_eq (m:BitVec 32):half m=stepN 4 m:=by
 have e:m=(m &&& ~~~ 15#32) ^^^(m &&& 15#32):=by
  apply BitVec.eq_of_getLsbD_eq;intro i hi;simp only[BitVec.getLsbD_xor,BitVec.getLsbD_and,BitVec.getLsbD_not];cases m.getLsbD i<;>cases (15#32).getLsbD i<;>simp[hi]
 have h1:stepN 4 (m &&& ~~~ 15#32)=m>>>4:=by
  rw[stepN_low 4 _ (fun i hi=>by
   have:(15#32).getLsbD i=true:=by
    have:i=0∨i=1∨i=2∨i=3:=by omega
    rcases this with rfl | rfl | rfl | rfl<;>decide
   rw[BitVec.getLsbD_and,BitVec.getLsbD_not,this];simp)]
  apply BitVec.eq_of_getLsbD_eq;intro i hi;simp only[BitVec.getLsbD_ushiftRight,BitVec.getLsbD_and,BitVec.getLsbD_not];by_cases h:4+i<32
  ·have:(15#32).getLsbD (4+i)=false:=by
    rw[BitVec.getLsbD,BitVec.toNat_ofNat];rw[Nat.testBit_eq_decide_div_mod_eq];have:(16:Nat)≤2 ^(4+i):=by
     calc (16:Nat)=2 ^4:=rfl
      _≤2 ^(4+i):=Nat.pow_le_pow_right (by omega) (by omega)
    rw[Nat.div_eq_of_lt (by omega)];rfl
   rw[this];simp[h]
  ·rw[BitVec.getLsbD_of_ge m (4+i) (by omega)];simp
 have h2:stepN 4 (m &&& 15#32)=hw (m &&& 15#32).toNat:=by
  have:=low_case _ (and15_lt m)
  rwa [BitVec.ofNat_toNat,BitVec.setWidth_eq]at this
 conv=>rhs;rw[e]
 rw[stepN_xor,h1,h2];rfl
theorem byte_eq (n:BitVec 32) (c:Nat):byteW n c=stepN 8 (n ^^^BitVec.ofNat 32 c):=by
 unfold byteW;rw[half_eq,half_eq,←stepN_add]
theorem bit_step (n:BitVec 32) (c:Nat) (hc:c<256) (x:BitVec 32) (hx:x=if (n.toNat+c)%2=1 then n>>>1 ^^^poly else n>>>1):
  x ^^^BitVec.ofNat 32 (c/2)=step (n ^^^BitVec.ofNat 32 c):=by
 have e1:(BitVec.ofNat 32 c)>>>1=BitVec.ofNat 32 (c/2):=by
  apply BitVec.eq_of_toNat_eq;rw[BitVec.toNat_ushiftRight,Nat.shiftRight_eq_div_pow,BitVec.toNat_ofNat,BitVec.toNat_ofNat];omega
 have e2:((n ^^^BitVec.ofNat 32 c).getLsbD 0=true)↔(n.toNat+c)%2=1:=by
  rw[BitVec.getLsbD_xor,BitVec.getLsbD,BitVec.getLsbD,BitVec.toNat_ofNat,Nat.testBit_zero,Nat.testBit_zero];have:c%2 ^32=c:=Nat.mod_eq_of_lt (by omega);rw[this];by_cases h1:n.toNat%2=1<;>by_cases h2:c%2=1<;>simp[h1,h2]<;>omega
 unfold step;rw[BitVec.ushiftRight_xor_distrib,e1];by_cases h:(n.toNat+c)%2=1
 ·rw[if_pos (e2.2 h),hx,if_pos h,BitVec.xor_assoc,BitVec.xor_comm poly,←BitVec.xor_assoc]
 ·rw[if_neg (fun g=>h (e2.1 g)),hx,if_neg h]
def word:List Nat→BitVec 32
 | []=>0#32
 | c::u=>BitVec.ofNat 32 c ^^^word u<<<8
def RRel (xs:List Nat) (nv iv:Value):Prop:=∃k:Nat,k≤xs.length∧nv= .int .u32 ((feed (~~~ 0#32) (xs.take k)).toNat:Int)∧iv= .int .i64 (k:Int)
def SRel (m:BitVec 32) (c0:Nat) (nv cv kv:Value):Prop:=∃(k:Nat) (x:BitVec 32),k≤8∧nv= .int .u32 (x.toNat:Int)∧cv= .int .u32 ((c0/2 ^k:Nat):Int)∧kv= .int .i64 (k:Int)∧x ^^^BitVec.ofNat 32 (c0/2 ^k)=stepN k m
theorem half_nat (n k:Nat):n/2 ^(k+1)=n/2 ^k/2:=by rw[Nat.pow_succ,Nat.div_div_eq_div_mul]
theorem shr1_bv (n:BitVec 32):(n.toNat:Int)/(2:Int)=((n>>>1).toNat:Int):=by
 rw[BitVec.toNat_ushiftRight,Nat.shiftRight_eq_div_pow];omega
theorem rsum_some (b o n c:Nat) (xs:List Nat) (w:World) (hl:xs.length=n) (hb:∀j,xs.getD j 0<256) (hc:∀j,j<n→w.cell? ⟨b,o+j,none⟩=some (.int .u8 (xs.getD j 0:Nat))) (hn:n≤4000000000):
  Calls Tryz.prog 112 #[.slice (some ⟨b,o,none⟩) n c] w fun e w'=>e= .returned (.int .u32 ((moreW 0#32 xs).toNat:Int))∧w=w':=by
 have HC:=zh hc;clear hc;have HB:=zh hb;clear hb;have hfin:moreW 0#32 xs= ~~~ feed (~~~ 0#32) xs:=rfl;generalize moreW 0#32 xs=fin at*;have HF:=zh hfin;clear hfin;go_enter Tryz.func112,Tryz.ntmps112
 go_wp2
 have hle:n≤xs.length:=by omega
 have hle2:xs.length≤n:=by omega
 clear hl
 go_loop [3,4] (fun nv iv=>RRel xs nv iv) (fun _ iv=>n-(intOf iv).toNat)
 case atStart=>exact⟨0,by omega,by simp[feed],rfl⟩
 case round=>
  obtain⟨k,hk,rfl,rfl⟩:=hrel;by_cases hlt:k<n
  ·have hk0:(0:Int)≤(k:Int):=by omega
   have hk1:(k:Int)<(n:Int):=by omega
   have c0:=HC.out k hlt;have c1:=HB.out k;have HFS:=zh (feed_snoc (~~~ 0#32) xs k (by omega));generalize hnn:feed (~~~ 0#32) (xs.take k)=nn at*;have HNN:=zh hnn;clear hnn;generalize xs.getD k 0=cb at*;have n1:=nn.isLt
   go_wp2
   go_loop [3,5,6] (fun nv cv kv=>SRel (nn ^^^BitVec.ofNat 32 cb) cb nv cv kv) (fun _ _ kv=>8-(intOf kv).toNat)
   case atStart=>exact⟨0,nn,by omega,rfl,by simp,rfl,by simp[stepN]⟩
   case round=>
    obtain⟨j,x,hj,rfl,rfl,rfl,hx⟩:=hrel;by_cases hj8:j<8
    ·have hq:cb/2 ^j<256:=zw11 (Nat.div_le_self _ _) c1
     have hh:=half_nat cb j;generalize cb/2 ^j=q at*;have HH:=zh hh;clear hh;have HX:=zh hx;clear hx;have x1:=x.isLt;by_cases hbit:(x.toNat+q)%2=1
     ·have hb:(((x.toNat:Int)+(q:Int))%2==1)=true:=beq_iff_eq.2 (by omega)
      have HS:=zh (bit_step x q hq (x>>>1 ^^^poly) (by rw[if_pos hbit]));clear hbit
      go_wp2
      go_round
      case rel=>exact⟨j+1,x>>>1 ^^^poly,by omega,by rw[shr1_bv];exact congrArg _ (xor_bv (x>>>1) poly),by rw[HH.out];go_num,by go_num,by rw[HH.out,HS.out,HX.out];rfl⟩
      case measure=>simp[intOf];omega
     ·have hb:(((x.toNat:Int)+(q:Int))%2==1)=false:=zw12.2 (by omega)
      have HS:=zh (bit_step x q hq (x>>>1) (by rw[if_neg hbit]));clear hbit
      go_wp2
      go_round
      case rel=>exact⟨j+1,x>>>1,by omega,by rw[shr1_bv],by rw[HH.out];go_num,by go_num,by rw[HH.out,HS.out,HX.out];rfl⟩
      case measure=>simp[intOf];omega
    ·obtain rfl:j=8:=by omega
     have hz:cb/2 ^8=0:=Nat.div_eq_of_lt c1;rw[hz]at hx;have hx2:x=byteW nn cb:=by rw[byte_eq,←hx];simp
     have HX:=zh hx2;clear hx hx2;rw[hz];clear hz
     go_wp2
     go_round
     case rel=>exact⟨k+1,by omega,by rw[HFS.out,HX.out],by go_num⟩
     case measure=>simp[intOf];omega
  ·have hk2:k=xs.length:=by omega
   have HX:=zh (show feed (~~~ 0#32) (xs.take k)=feed (~~~ 0#32) xs by rw[hk2,List.take_length]);clear hk2;rw[HX.out];generalize feed (~~~ 0#32) xs=y at*;have y1:=y.isLt;have HN:Hid (((~~~ y).toNat:Int)=4294967295-(y.toNat:Int)):=zh (by rw[BitVec.toNat_not];omega)
   go_wp2
   go_ret;exact⟨by rw[HF.out,HN.out];rfl,rfl⟩
theorem rsum_nil (A:Option Addr) (c:Nat) (w:World):
  Calls Tryz.prog 112 #[.slice A 0 c] w fun e w'=>e= .returned (.int .u32 0)∧w=w':=by
 go_enter Tryz.func112,Tryz.ntmps112
 go_wp2
 go_loop [3,4] (fun nv iv=>nv= .int .u32 4294967295∧iv= .int .i64 0) (fun _ _=>0)
 case atStart=>exact⟨rfl,rfl⟩
 case round=>
  obtain⟨rfl,rfl⟩:=hrel
  go_wp2
  go_ret;exact⟨rfl,rfl⟩
theorem rsum (A:Option Addr) (n c:Nat) (xs:List Nat) (w:World) (h:Rd w A n xs) (hn:n≤4000000000):
  Calls Tryz.prog 112 #[.slice A n c] w fun e w'=>e= .returned (.int .u32 ((moreW 0#32 xs).toNat:Int))∧w=w':=by
 rcases Nat.eq_zero_or_pos n with rfl | hp
 ·have:xs=[]:=zw19 h.1
  subst this;have e:((moreW 0#32 []).toNat:Int)=0:=by decide
  rw[e];exact rsum_nil A c w
 ·obtain⟨b,o,rfl,_,hc⟩:=h.2.2 hp
  exact rsum_some b o n c xs w h.1 h.2.1 hc hn
end Go.Proofs.YtbopblbhjcemaaaGreatDoor.Crc
