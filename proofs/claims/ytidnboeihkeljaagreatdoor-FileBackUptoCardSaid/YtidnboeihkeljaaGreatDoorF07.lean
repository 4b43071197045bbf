
import Derived.Test.YtidnboeihkeljaaGreatDoorF00
import Derived.LaidLaws
import Derived.Lib.SlBytesConst
set_option maxHeartbeats 16000000
set_option maxRecDepth 100000
set_option linter.all false
open Go.ChangeShapes Go.WideShapes Go.ChangeAt Go.RowKit
namespace Go.Proofs.YtidnboeihkeljaaGreatDoor.Crc
def hv:List Nat:=[0x00000000,0x1db71064,0x3b6e20c8,0x26d930ac,0x76dc4190,0x6b6b51f4,0x4db26158,0x5005713c,0xedb88320,0xf00f9344,0xd6d6a3e8,0xcb61b38c,0x9b64c2b0,0x86d3d2d4,0xa00ae278,0xbdbdf21c]
def hw (i:Nat):BitVec 32:=BitVec.ofNat 32 (hv.getD i 0)
def Tab (w:World):Prop:=∀i:Nat,i<16→w.cell? ⟨0,i,none⟩=some (.int .u32 ((hw i).toNat:Int))
theorem Tab.lt {w:World} (h:Tab w):0<w.heap.size:=World.block_lt_of_cell? w _ (h 0 (by omega))
theorem Tab.ext {w w':World} (h:Tab w) (hb:Ext w w'):Tab w':=fun i hi=>(hb.cell (p:=⟨_,i,none⟩) h.lt).trans (h i hi)
def Rd (w:World) (A:Option Addr) (n:Nat) (xs:List Nat):Prop:=
 xs.length=n∧(∀j,xs.getD j 0<256)∧(0<n→∃b o,A=some ⟨b,o,none⟩∧b<w.heap.size∧∀j,j<n→w.cell? ⟨b,o+j,none⟩=some (.int .u8 (xs.getD j 0:Nat)))
def half (m:BitVec 32):BitVec 32:=m>>>4 ^^^hw (m &&& 15#32).toNat
def byteW (n:BitVec 32) (c:Nat):BitVec 32:=half (half (n ^^^BitVec.ofNat 32 c))
def feed (n:BitVec 32) (xs:List Nat):BitVec 32:=xs.foldl byteW n
def moreW (s:BitVec 32) (xs:List Nat):BitVec 32:= ~~~ feed (~~~ s) xs
theorem xor_bv (n s:BitVec 32):bits .xor .u32 (n.toNat:Int) (s.toNat:Int)=((n ^^^s).toNat:Int):=by
 show IntKind.u32.wrap ((BitVec.ofInt 32 (n.toNat:Int) ^^^BitVec.ofInt 32 (s.toNat:Int)).toNat:Int)=_;rw[BitVec.ofInt_natCast,BitVec.ofInt_natCast,BitVec.ofNat_toNat,BitVec.ofNat_toNat,BitVec.setWidth_eq,BitVec.setWidth_eq];have:=(n ^^^s).isLt;rw[IntKind.wrap_u32];omega
theorem and_bv (n s:BitVec 32):bits .and .u32 (n.toNat:Int) (s.toNat:Int)=((n &&& s).toNat:Int):=by
 show IntKind.u32.wrap ((BitVec.ofInt 32 (n.toNat:Int) &&& BitVec.ofInt 32 (s.toNat:Int)).toNat:Int)=_;rw[BitVec.ofInt_natCast,BitVec.ofInt_natCast,BitVec.ofNat_toNat,BitVec.ofNat_toNat,BitVec.setWidth_eq,BitVec.setWidth_eq];have:=(n &&& s).isLt;rw[IntKind.wrap_u32];omega
theorem not_bv (s:BitVec 32):bits .xor .u32 IntKind.u32.max (s.toNat:Int)=((~~~ s).toNat:Int):=by
 have h:=xor_bv (BitVec.allOnes 32) s;rw[BitVec.allOnes_xor]at h;exact h
theorem shr4_bv (n:BitVec 32):(n.toNat:Int)/(16:Int)=((n>>>4).toNat:Int):=by
 rw[BitVec.toNat_ushiftRight,Nat.shiftRight_eq_div_pow];omega
theorem and15_lt (m:BitVec 32):(m &&& 15#32).toNat<16:=by
 rw[BitVec.toNat_and];exact zw11 Nat.and_le_right (by decide)
def ORel (t:BitVec 32) (xs:List Nat) (nv iv:Value):Prop:=∃k:Nat,k≤xs.length∧nv= .int .u32 ((feed t (xs.take k)).toNat:Int)∧iv= .int .i64 (k:Int)
def IRel (m:BitVec 32) (nv jv:Value):Prop:=(nv= .int .u32 (m.toNat:Int)∧jv= .int .i64 0)∨(nv= .int .u32 ((half m).toNat:Int)∧jv= .int .i64 1)∨(nv= .int .u32 ((half (half m)).toNat:Int)∧jv= .int .i64 2)
theorem feed_snoc (n:BitVec 32) (xs:List Nat) (k:Nat) (h:k<xs.length):feed n (xs.take (k+1))=byteW (feed n (xs.take k)) (xs.getD k 0):=by
 unfold feed;rw[List.take_succ_eq_append_getElem h,List.foldl_append];simp[zw5,zw6 h]
theorem byte_nat {c:Nat} (h:c<256):(BitVec.ofNat 32 c).toNat=c:=by rw[BitVec.toNat_ofNat];omega
theorem more_nil (s:BitVec 32) (A:Option Addr) (c:Nat) (w:World):
  Calls Tryz.prog 109 #[.int .u32 (s.toNat:Int),.slice A 0 c] w fun e w'=>e= .returned (.int .u32 (s.toNat:Int))∧w=w':=by
 have h0:=s.isLt;go_enter Tryz.func109,Tryz.ntmps109
 go_wp2
 rw[not_bv];have ht: ~~~ (~~~ s)=s:=BitVec.not_not;generalize ~~~ s=t at*;have HT:=zh ht;clear ht
 go_loop [5,12] (fun nv iv=>nv= .int .u32 (t.toNat:Int)∧iv= .int .i64 0) (fun _ _=>0)
 case atStart=>exact⟨rfl,rfl⟩
 case round=>
  obtain⟨rfl,rfl⟩:=hrel
  go_wp2
  rw[not_bv,HT.out];go_ret;exact⟨rfl,rfl⟩
theorem half_rules (m:BitVec 32) (w:World) (hT:Tab w):∃(a:Nat) (sh t:BitVec 32),a<16∧bits BinOp.and IntKind.u32 (m.toNat:Int) 15=(a:Int)∧(m.toNat:Int)/16=(sh.toNat:Int)∧w.cell? ⟨0,a,none⟩=some (.int .u32 (t.toNat:Int))∧bits .xor .u32 (sh.toNat:Int) (t.toNat:Int)=((half m).toNat:Int):=
 ⟨(m &&& 15#32).toNat,m>>>4,hw (m &&& 15#32).toNat,and15_lt m,and_bv m 15#32,shr4_bv m,hT _ (and15_lt m),xor_bv _ _⟩
theorem more_some (s:BitVec 32) (b o n c:Nat) (xs:List Nat) (w:World) (hT:Tab w) (hl:xs.length=n) (hb:∀j,xs.getD j 0<256) (hc:∀j,j<n→w.cell? ⟨b,o+j,none⟩=some (.int .u8 (xs.getD j 0:Nat))) (hn:n≤4000000000):
  Calls Tryz.prog 109 #[.int .u32 (s.toNat:Int),.slice (some ⟨b,o,none⟩) n c] w fun e w'=>e= .returned (.int .u32 ((moreW s xs).toNat:Int))∧w=w':=by
 have h0:=s.isLt;have HT:=zh hT;clear hT;have HC:=zh hc;clear hc;have HB:=zh hb;clear hb;have HL:=zh hl;have hfin:moreW s xs= ~~~ feed (~~~ s) xs:=rfl;generalize moreW s xs=fin at*;have HF:=zh hfin;clear hfin;go_enter Tryz.func109,Tryz.ntmps109
 go_wp2
 rw[not_bv];generalize ~~~ s=t at*;have hle:n≤xs.length:=by omega
 have hle2:xs.length≤n:=by omega
 clear hl
 go_loop [5,12] (fun nv iv=>ORel t xs nv iv) (fun _ iv=>n-(intOf iv).toNat)
 case atStart=>exact⟨0,by omega,rfl,rfl⟩
 case round=>
  obtain⟨k,hk,rfl,rfl⟩:=hrel;by_cases hlt:k<n
  ·have hk0:(0:Int)≤(k:Int):=by omega
   have hk1:(k:Int)<(n:Int):=by omega
   have c0:=HC.out k hlt;have c1:=HB.out k;have HFS:=zh (feed_snoc t xs k (by omega));rw[←byte_nat c1]at c0;generalize hcb:BitVec.ofNat 32 (xs.getD k 0)=cb at*;generalize hnn:feed t (xs.take k)=nn at*;have HCB:=zh hcb;have HNN:=zh hnn;clear hcb hnn;have n1:=nn.isLt
   go_wp2
   rw[xor_bv];generalize hm:nn ^^^cb=m at*;have HM:=zh hm;clear hm
   go_loop [5,20] (fun nv jv=>IRel m nv jv) (fun _ jv=>2-(intOf jv).toNat)
   case atStart=>exact .inl ⟨rfl,rfl⟩
   case round=>
    rcases hrel with ⟨rfl,rfl⟩ | ⟨rfl,rfl⟩ | ⟨rfl,rfl⟩
    ·obtain⟨a,sh,t0,ha,r1,r2,r3,r4⟩:=half_rules m w HT.out
     have ha0:(a:Int)<16:=by omega
     have n2:=m.isLt;have R4:=zh r4;clear r4
     go_wp2
     go_round
     case rel=>exact .inr (.inl ⟨by rw[R4.out],rfl⟩)
     case measure=>simp[intOf]
    ·generalize hm2:half m=m2 at*
     have HM2:=zh hm2;clear hm2;obtain⟨a,sh,t0,ha,r1,r2,r3,r4⟩:=half_rules m2 w HT.out;have ha0:(a:Int)<16:=by omega
     have n2:=m2.isLt;have R4:=zh r4;clear r4
     go_wp2
     go_round
     case rel=>exact .inr (.inr ⟨by rw[HM2.out,R4.out],rfl⟩)
     case measure=>simp[intOf]
    ·have HG:Hid (byteW nn (xs.getD k 0)=half (half m)):=zh (by unfold byteW;rw[HCB.out,HM.out])
     generalize half (half m)=m3 at*
     go_wp2
     go_round
     case rel=>exact⟨k+1,by omega,by rw[HFS.out,HG.out],by go_num⟩
     case measure=>simp[intOf];omega
  ·have hk2:k=xs.length:=by omega
   have HX:=zh (show feed t (xs.take k)=feed t xs by rw[hk2,List.take_length]);have HY:=zh (not_bv (feed t xs));clear hk2;rw[HX.out];generalize feed t xs=y at*
   go_wp2
   rw[HY.out];go_ret;exact⟨by rw[HF.out];rfl,rfl⟩
theorem more (s:BitVec 32) (A:Option Addr) (n c:Nat) (xs:List Nat) (w:World) (hT:Tab w) (h:Rd w A n xs) (hn:n≤4000000000):
  Calls Tryz.prog 109 #[.int .u32 (s.toNat:Int),.slice A n c] w fun e w'=>e= .returned (.int .u32 ((moreW s xs).toNat:Int))∧w=w':=by
 rcases Nat.eq_zero_or_pos n with rfl | hp
 ·have:xs=[]:=zw19 h.1
  subst this;have e:moreW s []=s:=by simp[moreW,feed]
  rw[e];exact more_nil s A c w
 ·obtain⟨b,o,rfl,_,hc⟩:=h.2.2 hp
  exact more_some s b o n c xs w hT h.1 h.2.1 hc hn
theorem sum (A:Option Addr) (n c:Nat) (xs:List Nat) (w:World) (hT:Tab w) (h:Rd w A n xs) (hn:n≤4000000000):
  Calls Tryz.prog 66 #[.slice A n c] w fun e w'=>e= .returned (.int .u32 ((moreW 0#32 xs).toNat:Int))∧w=w':=by
 have H:=zh (fun W hW hR=>more 0#32 A n c xs W hW hR hn);have HT:=zh hT;have HR:=zh h;clear hT h;generalize moreW 0#32 xs=y at*;go_enter Tryz.func66,Tryz.ntmps66;go_wp2_with fail;refine(H.out _ HT.out HR.out).mono ?_;rintro e w1 ⟨rfl,rfl⟩;go_wp2_with fail;go_ret;exact⟨rfl,rfl⟩
def poly:BitVec 32:=0xedb88320#32
def step (x:BitVec 32):BitVec 32:=if x.getLsbD 0=true then x>>>1 ^^^poly else x>>>1
theorem xx (a b p:BitVec 32):a ^^^p ^^^(b ^^^p)=a ^^^b:=by
 apply BitVec.eq_of_getLsbD_eq;intro i _;simp only[BitVec.getLsbD_xor];cases a.getLsbD i<;>cases b.getLsbD i<;>cases p.getLsbD i<;>rfl
theorem step_xor (a b:BitVec 32):step (a ^^^b)=step a ^^^step b:=by
 unfold step;rw[BitVec.getLsbD_xor,BitVec.ushiftRight_xor_distrib];cases ha:a.getLsbD 0<;>cases hb:b.getLsbD 0<;>simp
 ·rw[BitVec.xor_assoc]
 ·rw[BitVec.xor_assoc,BitVec.xor_comm (b>>>1),←BitVec.xor_assoc]
 ·exact(xx _ _ _).symm
def stepN:Nat→BitVec 32→BitVec 32
 | 0,x=>x
 | k+1,x=>step (stepN k x)
theorem stepN_xor (k:Nat) (a b:BitVec 32):stepN k (a ^^^b)=stepN k a ^^^stepN k b:=by
 induction k with
 | zero=>rfl
 | succ k ih=>simp only[stepN,ih,step_xor]
theorem stepN_add (j k:Nat) (x:BitVec 32):stepN (j+k) x=stepN j (stepN k x):=by
 induction j with
 | zero=>simp[stepN]
 | succ j ih=>rw[Nat.succ_add];simp only[stepN,ih]
theorem stepN_low (k:Nat) (x:BitVec 32) (h:∀i,i<k→x.getLsbD i=false):stepN k x=x>>>k:=by
 induction k with
 | zero=>simp[stepN]
 | succ k ih=>
  have e:=ih (fun i hi=>h i (by omega));have hb:(x>>>k).getLsbD 0=false:=by rw[BitVec.getLsbD_ushiftRight];exact h k (by omega)
  simp only[stepN,e,step,hb];simp[BitVec.shiftRight_add]
theorem low_case:∀a:Nat,a<16→stepN 4 (BitVec.ofNat 32 a)=hw a:=by decide
theorem half_eq (m:BitVec 32):half m=stepN 4 m:=by
 have e:m=(m &&& ~~~ 15#32) ^^^(m &&& 15#32):=by
  apply BitVec.eq_of_getLsbD_eq;intro i hi;simp only[BitVec.getLsbD_xor,BitVec.getLsbD_and,BitVec.getLsbD_not];cases m.getLsbD i<;>cases (15#32).getLsbD i<;>simp[hi]
 have h1:stepN 4 (m &&& ~~~ 15#32)=m>>>4:=by
  rw[stepN_low 4 _ (fun i hi=>by
   have:(15#32).getLsbD i=true:=by
    have:i=0∨i=1∨i=2∨i=3:=by omega
    rcases this with rfl | rfl | rfl | rfl<;>decide
   rw[BitVec.getLsbD_and,BitVec.getLsbD_not,this];simp)]
  apply BitVec.eq_of_getLsbD_eq;intro i hi;simp only[BitVec.getLsbD_ushiftRight,BitVec.getLsbD_and,BitVec.getLsbD_not];by_cases h:4+i<32
  ·have:(15#32).getLsbD (4+i)=false:=by
    rw[BitVec.getLsbD,BitVec.toNat_ofNat];rw[Nat.testBit_eq_decide_div_mod_eq];have:(16:Nat)≤2 ^(4+i):=by
     calc (16:Nat)=2 ^4:=rfl
      _≤2 ^(4+i):=Nat.pow_le_pow_right (by omega) (by omega)
    rw[Nat.div_eq_of_lt (by omega)];rfl
   rw[this];simp[h]
  ·rw[BitVec.getLsbD_of_ge m (4+i) (by omega)];simp
 have h2:stepN 4 (m &&& 15#32)=hw (m &&& 15#32).toNat:=by
  have:=low_case _ (and15_lt m)
  rwa [BitVec.ofNat_toNat,BitVec.setWidth_eq]at this
 conv=>rhs;rw[e]
 rw[stepN_xor,h1,h2];rfl
theorem byte_eq (n:BitVec 32) (c:Nat):byteW n c=stepN 8 (n ^^^BitVec.ofNat 32 c):=by
 unfold byteW;rw[half_eq,half_eq,←stepN_add]
theorem feed_append (n:BitVec 32) (xs ys:List Nat):feed n (xs++ys)=feed (feed n xs) ys:=List.foldl_append
theorem step_top (x:BitVec 32):(step x).getLsbD 31=x.getLsbD 0:=by
 unfold step
 cases h:x.getLsbD 0 with
 | true=>
  rw[if_pos rfl,BitVec.getLsbD_xor,BitVec.getLsbD_ushiftRight,BitVec.getLsbD_of_ge x (1+31) (by omega)];decide
 | false=>
  rw[if_neg (by simp),BitVec.getLsbD_ushiftRight,BitVec.getLsbD_of_ge x (1+31) (by omega)]
theorem xor_cancel {a b p:BitVec 32} (h:a ^^^p=b ^^^p):a=b:=by
 have:=congrArg (· ^^^p) h
 simpa [BitVec.xor_assoc]using this
theorem step_inj {x y:BitVec 32} (h:step x=step y):x=y:=by
 have h0:x.getLsbD 0=y.getLsbD 0:=by rw[←step_top,←step_top,h]
 have h1:x>>>1=y>>>1:=by
  unfold step at h;rw[h0]at h;by_cases hb:y.getLsbD 0=true
  ·rw[if_pos hb,if_pos hb]at h;exact xor_cancel h
  ·rw[if_neg hb,if_neg hb]at h;exact h
 apply BitVec.eq_of_getLsbD_eq;intro i hi
 cases i with
 | zero=>exact h0
 | succ i=>
  have:=congrArg (·.getLsbD i) h1;simp only[BitVec.getLsbD_ushiftRight]at this
  rwa [Nat.add_comm 1 i]at this
theorem stepN_inj (k:Nat) {x y:BitVec 32} (h:stepN k x=stepN k y):x=y:=by
 induction k with
 | zero=>exact h
 | succ k ih=>exact ih (step_inj h)
theorem byte_inj {n m:BitVec 32} {c:Nat} (h:byteW n c=byteW m c):n=m:=by
 rw[byte_eq,byte_eq]at h;exact xor_cancel (stepN_inj 8 h)
theorem feed_inj (ys:List Nat):∀{n m:BitVec 32},feed n ys=feed m ys→n=m:=by
 induction ys with
 | nil=>intro n m h;exact h
 | cons c ys ih=>intro n m h;exact byte_inj (ih h)
def word:List Nat→BitVec 32
 | []=>0#32
 | c::u=>BitVec.ofNat 32 c ^^^word u<<<8
theorem word_high (u:List Nat) (hb:∀c∈u,c<256):∀i,8*u.length≤i→(word u).getLsbD i=false:=by
 induction u with
 | nil=>intro i _;simp[word]
 | cons c u ih=>
  intro i hi;simp only[zw3]at hi;rw[word,BitVec.getLsbD_xor,BitVec.getLsbD_shiftLeft,ih (fun c hc=>hb c (by simp[hc])) (i-8) (by omega)];have:(BitVec.ofNat 32 c).getLsbD i=false:=by
   rw[BitVec.getLsbD,BitVec.toNat_ofNat];apply Nat.testBit_lt_two_pow;have h1:=hb c (by simp);have h2:(256:Nat)≤2 ^i:=by
    calc (256:Nat)=2 ^8:=rfl
     _≤2 ^i:=Nat.pow_le_pow_right (by omega) (by omega)
   exact zw11 (Nat.mod_le _ _) (by omega)
  rw[this];simp
theorem word_shift (u:List Nat) (hb:∀c∈u,c<256) (hl:u.length≤3):stepN 8 (word u<<<8)=word u:=by
 rw[stepN_low 8 _ (fun i hi=>by rw[BitVec.getLsbD_shiftLeft];simp[hi])];apply BitVec.eq_of_getLsbD_eq;intro i hi;rw[BitVec.getLsbD_ushiftRight,BitVec.getLsbD_shiftLeft];by_cases h:8+i<32
 ·simp[h]
 ·rw[word_high u hb i (by omega)]
  simp[h]
theorem feed_word (u:List Nat):∀(n:BitVec 32),(∀c∈u,c<256)→u.length≤4→feed n u=stepN (8*u.length) (n ^^^word u):=by
 induction u with
 | nil=>intro n _ _;simp[feed,word,stepN]
 | cons c u ih=>
  intro n hb hl;simp only[zw3]at hl;have hb':∀c∈u,c<256:=fun d hd=>hb d (by simp[hd]);show feed (byteW n c) u=_;rw[ih _ hb' (by omega),byte_eq,zw3,Nat.mul_succ,stepN_add,word,←BitVec.xor_assoc,stepN_xor 8 (n ^^^BitVec.ofNat 32 c),word_shift u hb' (by omega)]
theorem word_inj (u:List Nat):∀(v:List Nat),u.length=v.length→(∀c∈u,c<256)→(∀c∈v,c<256)→u.length≤4→word u=word v→u=v:=by
 induction u with
 | nil=>intro v hl _ _ _ _;exact(zw19 hl.symm).symm
 | cons c u ih=>
  intro v hl hu hv h4 h
  cases v with
  | nil=>simp at hl
  | cons d v=>
   simp only[zw3]at hl h4;have hc:=hu c (by simp);have hd:=hv d (by simp);rw[word,word]at h;have low:c=d:=by
    have key:∀i,i<8→c.testBit i=d.testBit i:=fun i hi=>by
     have:=congrArg (·.getLsbD i) h;simp only[BitVec.getLsbD_xor,BitVec.getLsbD_shiftLeft]at this;have e:∀c:Nat,c<256→(BitVec.ofNat 32 c).getLsbD i=c.testBit i:=fun c hc=>by
      rw[BitVec.getLsbD,BitVec.toNat_ofNat,Nat.mod_eq_of_lt (by omega)]
     rw[e c hc,e d hd]at this
     simpa [hi]using this
    apply Nat.eq_of_testBit_eq;intro i;by_cases hi:i<8
    ·exact key i hi
    ·have h2:(256:Nat)≤2 ^i:=by
      calc (256:Nat)=2 ^8:=rfl
       _≤2 ^i:=Nat.pow_le_pow_right (by omega) (by omega)
     rw[Nat.testBit_lt_two_pow (by omega),Nat.testBit_lt_two_pow (by omega)]
   subst low;have hw:word u<<<8=word v<<<8:=by
    have:=congrArg (BitVec.ofNat 32 c ^^^ ·) h
    simpa [←BitVec.xor_assoc]using this
   have hw2:word u=word v:=by
    have:=congrArg (stepN 8) hw
    rwa [word_shift u (fun d hd=>hu d (by simp[hd])) (by omega),word_shift v (fun e he=>hv e (by simp[he])) (by omega)]at this
   rw[ih v (by omega) (fun d hd=>hu d (by simp[hd])) (fun e he=>hv e (by simp[he])) (by omega) hw2]
theorem burst (n:BitVec 32) (a u v z:List Nat) (hl:u.length=v.length) (hu:∀c∈u,c<256) (hv:∀c∈v,c<256) (h4:u.length≤4) (h:moreW n (a++u++z)=moreW n (a++v++z)):u=v:=by
 have h1:feed (~~~ n) (a++u++z)=feed (~~~ n) (a++v++z):=by
  have:=congrArg (~~~ ·) h
  simpa [moreW,BitVec.not_not]using this
 rw[feed_append,feed_append,feed_append,feed_append]at h1;have h2:=feed_inj z h1;rw[feed_word u _ hu h4,feed_word v _ hv (by omega),hl]at h2;have h3:=stepN_inj _ h2;have h5:word u=word v:=by
  have:=congrArg (feed (~~~ n) a ^^^ ·) h3
  simpa [←BitVec.xor_assoc]using this
 exact word_inj u v hl hu hv h4 h5
def RRel (xs:List Nat) (nv iv:Value):Prop:=∃k:Nat,k≤xs.length∧nv= .int .u32 ((feed (~~~ 0#32) (xs.take k)).toNat:Int)∧iv= .int .i64 (k:Int)
def SRel (m:BitVec 32) (c0:Nat) (nv cv kv:Value):Prop:=∃(k:Nat) (x:BitVec 32),k≤8∧nv= .int .u32 (x.toNat:Int)∧cv= .int .u32 ((c0/2 ^k:Nat):Int)∧kv= .int .i64 (k:Int)∧x ^^^BitVec.ofNat 32 (c0/2 ^k)=stepN k m
end Go.Proofs.YtidnboeihkeljaaGreatDoor.Crc
