
import Derived.Test.YtidnboeihkeljaaGreatDoorF14
import Derived.StillTailTactics
import Derived.Laws.Rows
import Derived.Laws.Tables
import Derived.Deep.Cut
import Derived.Deep.RegionHeld3
set_option maxHeartbeats 16000000
set_option maxRecDepth 100000
set_option linter.all false
open Go.ChangeShapes Go.WideShapes Go.ChangeAt Go.RowKit
namespace Go.Proofs.YtidnboeihkeljaaGreatDoor.Log
open Wire
def RSt (w:World) (g:Nat) (A:Option Addr) (n c:Nat) (xs:List Nat) (st:Option (List Nat)):Prop:=
 ∃(at_:Nat) (e:Int),at_≤n∧Rdr w g (.slice A n c) at_ e∧RB w g A n c xs∧n≤4000000000∧(match st with | some L=>e=0∧L=xs.drop at_ | none=>e≠0)
def nx {α:Type} (f:List Nat→Option (α × List Nat)) (st:Option (List Nat)):Option (List Nat):=(st.bind f).map (·.2)
def va {α:Type} (f:List Nat→Option (α × List Nat)) (d:α) (st:Option (List Nat)):α:=((st.bind f).map (·.1)).getD d
theorem va_none {α:Type} {f:List Nat→Option (α × List Nat)} {d:α} {st:Option (List Nat)} (h:st.bind f=none):va f d st=d∧nx f st=none:=by simp[va,nx,h]
theorem va_some {α:Type} {f:List Nat→Option (α × List Nat)} {d:α} {st:Option (List Nat)} {x:α} {R:List Nat} (h:st.bind f=some (x,R)):va f d st=x∧nx f st=some R:=by simp[va,nx,h]
theorem RSt.lt {w:World} {g:Nat} {A:Option Addr} {n c:Nat} {xs:List Nat} {st:Option (List Nat)} (h:RSt w g A n c xs st):g<w.heap.size:=by
 obtain⟨a,e,_,hr,_⟩:=h;exact Blk.lt hr
theorem RSt.small {w:World} {g:Nat} {A:Option Addr} {n c:Nat} {xs L:List Nat} (h:RSt w g A n c xs (some L)):∀x∈L,x<256:=by
 obtain⟨a,e,_,_,hB,_,hm⟩:=h;obtain⟨_,rfl⟩:=hm;exact fun x hx=>mem_small hB.1.2.1 x (List.mem_of_mem_drop hx)
theorem RSt.far {w w':World} {g:Nat} {A:Option Addr} {n c:Nat} {xs:List Nat} {st:Option (List Nat)} (h:RSt w g A n c xs st) (he:w'.heap[g]? =w.heap[g]?) (hb:∀a,A=some a→0<n→∀i,w'.cell? ⟨a.block,i,none⟩=w.cell? ⟨a.block,i,none⟩) (hs:w.heap.size≤w'.heap.size):RSt w' g A n c xs st:=by
 obtain⟨a,e,h1,hr,hB,h4,hm⟩:=h;refine⟨a,e,h1,he.trans hr,⟨⟨hB.1.1,hB.1.2.1,fun hp=>?_⟩,hB.2⟩,h4,hm⟩;obtain⟨b,o,e1,hl,hc⟩:=hB.1.2.2 hp;exact⟨b,o,e1,zw9 hl hs,fun j hj=>(hb _ e1 hp _).trans (hc j hj)⟩
theorem RSt.ext {w w':World} {g:Nat} {A:Option Addr} {n c:Nat} {xs:List Nat} {st:Option (List Nat)} (h:RSt w g A n c xs st) (hE:Ext w w'):RSt w' g A n c xs st:=by
 obtain⟨a,e,h1,hr,hB,h4,hm⟩:=h;refine⟨a,e,h1,hr.ext hE,⟨hB.1.ext hE,hB.2⟩,h4,hm⟩
theorem num_st (g n c:Nat) (A:Option Addr) (xs:List Nat) (st:Option (List Nat)) (w:World) (h:RSt w g A n c xs st):
  Calls Tryz.prog 120 #[.pointer (some ⟨g,0,none⟩)] w fun e w'=>e= .returned (.int .u64 ((va pN 0 st:Nat):Int))∧va pN 0 st<18446744073709551616∧RSt w' g A n c xs (nx pN st)∧w.grownBy w' (some g):=by
 have hsm:=fun L (e:st=some L)=>RSt.small (e▸h);obtain⟨at_,e,h1,hr,hB,h4,hm⟩:=h
 cases st with
 | none=>
  refine(num_err g at_ _ e w hr (zw12.2 hm)).mono ?_;rintro e' w' ⟨rfl,hE⟩;exact⟨rfl,by simp[va],⟨at_,e,h1,hr.ext hE,⟨hB.1.ext hE,hB.2⟩,h4,hm⟩,gb_ext hE _⟩
 | some L=>
  obtain⟨rfl,rfl⟩:=hm;refine(num g n c at_ A xs w hr hB.1 h1 h4).mono ?_;rintro e' w' ⟨z,j,err,rfl,hz,hE,hm⟩;cases hv:vr 0 0 (xs.drop at_)with
  | short=>
   have q:=va_none (d:=0) (show(some (xs.drop at_)).bind pN=none by simp[pN,hv]);rw[hv]at hm;obtain⟨rfl,rfl,rfl⟩:=hm;rw[q.1,q.2];exact⟨rfl,by omega,⟨at_,3,h1,hE.1,hB.eff hE.2,h4,by simp⟩,hE.2⟩
  | form=>
   have q:=va_none (d:=0) (show(some (xs.drop at_)).bind pN=none by simp[pN,hv]);rw[hv]at hm;obtain⟨rfl,rfl,rfl⟩:=hm;rw[q.1,q.2];exact⟨rfl,by omega,⟨at_,4,h1,hE.1,hB.eff hE.2,h4,by simp⟩,hE.2⟩
  | ok v k=>
   have q:=va_some (d:=0) (show(some (xs.drop at_)).bind pN=some (v,(xs.drop at_).drop k)by simp[pN,hv]);rw[hv]at hm;obtain⟨rfl,rfl,rfl⟩:=hm;have hk:=(vr_ok (hsm _ rfl) hv).2.2.2;rw[zw1,hB.1.1]at hk;rw[q.1,q.2];exact⟨rfl,hz,⟨at_+j,0,by omega,hE.1,hB.eff hE.2,h4,rfl,by rw[zw31]⟩,hE.2⟩
theorem int_st (g n c:Nat) (A:Option Addr) (xs:List Nat) (st:Option (List Nat)) (w:World) (h:RSt w g A n c xs st):
  Calls Tryz.prog 80 #[.pointer (some ⟨g,0,none⟩)] w fun e w'=>e= .returned (.int .i64 ((va pI 0 st:Nat):Int))∧va pI 0 st≤2147483647∧RSt w' g A n c xs (nx pI st)∧w.grownBy w' (some g):=by
 have hsm:=fun L (e:st=some L)=>RSt.small (e▸h);obtain⟨at_,e,h1,hr,hB,h4,hm⟩:=h
 cases st with
 | none=>
  refine(int_err g at_ _ e w hr (zw12.2 hm)).mono ?_;rintro e' w' ⟨rfl,hE⟩;exact⟨rfl,by simp[va],⟨at_,e,h1,hr.ext hE,⟨hB.1.ext hE,hB.2⟩,h4,hm⟩,gb_ext hE _⟩
 | some L=>
  obtain⟨rfl,rfl⟩:=hm;refine(Wire.int g n c at_ A xs w hr hB.1 h1 h4).mono ?_;rintro e' w' ⟨z,j,err,rfl,hz,hE,hm⟩;cases hv:lim (vr 0 0 (xs.drop at_))with
  | short=>
   have q:=va_none (d:=0) (show(some (xs.drop at_)).bind pI=none by simp[pI,hv]);rw[hv]at hm;obtain⟨rfl,rfl,rfl⟩:=hm;rw[q.1,q.2];exact⟨rfl,by omega,⟨at_,3,h1,hE.1,hB.eff hE.2,h4,by simp⟩,hE.2⟩
  | form=>
   have q:=va_none (d:=0) (show(some (xs.drop at_)).bind pI=none by simp[pI,hv]);rw[hv]at hm;obtain⟨rfl,rfl,rfl⟩:=hm;rw[q.1,q.2];exact⟨rfl,by omega,⟨at_,4,h1,hE.1,hB.eff hE.2,h4,by simp⟩,hE.2⟩
  | ok v k=>
   have q:=va_some (d:=0) (show(some (xs.drop at_)).bind pI=some (v,(xs.drop at_).drop k)by simp[pI,hv]);have hk:at_+k≤n:=by
    cases hr:vr 0 0 (xs.drop at_)with
    | short=>rw[hr]at hv;cases hv
    | form=>rw[hr]at hv;cases hv
    | ok x y=>
     have hk:=(vr_ok (hsm _ rfl) hr).2.2.2;rw[hr]at hv;simp only[lim]at hv
     split at hv<;>cases hv
     rw[zw1,hB.1.1]at hk;omega
   rw[hv]at hm;obtain⟨rfl,rfl,rfl⟩:=hm;rw[q.1,q.2];exact⟨rfl,hz,⟨at_+j,0,hk,hE.1,hB.eff hE.2,h4,rfl,by rw[zw31]⟩,hE.2⟩
theorem be_lt {ys:List Nat} (h:∀c∈ys,c<256) (hl:ys.length=4):be ys<4294967296:=(fx_be4 h hl).2
theorem fixed_st (g n c:Nat) (A:Option Addr) (xs:List Nat) (st:Option (List Nat)) (w:World) (h:RSt w g A n c xs st):
  Calls Tryz.prog 119 #[.pointer (some ⟨g,0,none⟩)] w fun e w'=>e= .returned (.int .u32 ((va pF 0 st:Nat):Int))∧va pF 0 st<4294967296∧RSt w' g A n c xs (nx pF st)∧w.grownBy w' (some g):=by
 have hsm:=fun L (e:st=some L)=>RSt.small (e▸h);obtain⟨at_,e,h1,hr,hB,h4,hm⟩:=h
 cases st with
 | none=>
  refine(fixed_err g at_ _ e w hr (zw12.2 hm)).mono ?_;rintro e' w' ⟨rfl,hE⟩;exact⟨rfl,by simp[va],⟨at_,e,h1,hr.ext hE,⟨hB.1.ext hE,hB.2⟩,h4,hm⟩,gb_ext hE _⟩
 | some L=>
  obtain⟨rfl,rfl⟩:=hm;refine(fixed g n c at_ A xs w hr hB h1 h4).mono ?_;rintro e' w' (⟨hl,rfl,hE⟩ | ⟨hl,rfl,hE⟩)
  ·have q:=va_some (d:=0) (show(some (xs.drop at_)).bind pF=some (be ((xs.drop at_).take 4),(xs.drop at_).drop 4)by simp only[Option.bind_some,pF,if_pos hl])
   rw[q.1,q.2];have hk:=hl;rw[zw1,hB.1.1]at hk;exact⟨rfl,be_lt (fun x hx=>hsm _ rfl x (List.mem_of_mem_take hx)) (by rw[zw2];omega),⟨at_+4,0,by omega,hE.1,hB.eff hE.2,h4,rfl,by rw[zw31]⟩,hE.2⟩
  ·have q:=va_none (d:=0) (show(some (xs.drop at_)).bind pF=none by simp only[Option.bind_some,pF,if_neg (show ¬4≤(xs.drop at_).length by omega)])
   rw[q.1,q.2];exact⟨rfl,by omega,⟨at_,3,h1,hE.1,hB.eff hE.2,h4,by simp⟩,hE.2⟩
theorem tr_eq (L:List Nat) (most:Nat) (hL:∀c∈L,c<256):(match tr L most with | .bad _=>pT most L=none | .ok ys k=>pT most L=some (ys,L.drop k)∧k≤L.length):=by
 unfold tr pT pN
 cases hv:vr 0 0 L with
 | short=>rfl
 | form=>rfl
 | ok z k=>
  have hk:=(vr_ok hL hv).2.2.2;simp only;by_cases h1:z≤most
  ·rw[if_neg (by omega),if_pos h1]
   unfold pB;rw[zw1];by_cases h2:L.length-k<z
   ·rw[if_pos h2,if_neg (by omega)]
   ·rw[if_neg h2,if_pos (by omega),zw31]
    exact⟨rfl,by omega⟩
  ·rw[if_pos (by omega),if_neg h1]
theorem text_err (g at_:Nat) (s:Value) (e0 most:Int) (w:World) (h:Rdr w g s at_ e0) (he:(e0==0)=false):
  Calls Tryz.prog 118 #[.pointer (some ⟨g,0,none⟩),.int .i64 most] w fun e w'=>e= .returned (.string ⟨#[]⟩)∧Ext w w':=by
 have ha:=zxa (zxr w) (.cells #[.pointer (some ⟨g,0,none⟩)] 145);have hb:=zxa (zxr (w.alloc (.cells #[.pointer (some ⟨g,0,none⟩)] 145))) (.cells #[.int .i64 most] 3);have HC:=zh (fun F=>reading_err_70 g at_ s F e0 _ ((h.ext ha).ext hb) he);clear h he;have HA:=zh ha;have HB:=zh hb;clear ha hb;go_enter Tryz.func118,Tryz.ntmps118;go_wp2_with fail;refine(HC.out _).mono ?_;rintro e w3 ⟨rfl,hE3⟩;have HE3:=zh hE3;clear hE3;go_wp2_with fail;go_ret;exact⟨rfl,zxt (zxt HA.out HB.out) HE3.out⟩
theorem text_st (g n c most:Nat) (hmo:most≤1000000) (A:Option Addr) (xs:List Nat) (st:Option (List Nat)) (w:World) (h:RSt w g A n c xs st):
  Calls Tryz.prog 118 #[.pointer (some ⟨g,0,none⟩),.int .i64 (most:Int)] w fun e w'=>e= .returned (.string (strOf (va (pT most) [] st)))∧RSt w' g A n c xs (nx (pT most) st)∧w.grownBy w' (some g):=by
 have hsm:=fun L (e:st=some L)=>RSt.small (e▸h);obtain⟨at_,e,h1,hr,hB,h4,hm⟩:=h
 cases st with
 | none=>
  refine(text_err g at_ _ e (most:Int) w hr (zw12.2 hm)).mono ?_;rintro e' w' ⟨rfl,hE⟩;exact⟨rfl,⟨at_,e,h1,hr.ext hE,⟨hB.1.ext hE,hB.2⟩,h4,hm⟩,gb_ext hE _⟩
 | some L=>
  obtain⟨rfl,rfl⟩:=hm;refine(text g n c at_ (most:Int) (by omega) (by omega) A xs w hr hB h1 h4).mono ?_;intro e' w' hp;have ht:=tr_eq (xs.drop at_) most (hsm _ rfl);unfold TPost at hp;cases hv:tr (xs.drop at_) (most:Int)with
  | bad f=>
   rw[hv]at hp ht;obtain⟨rfl,hE⟩:=hp;have q:=va_none (d:=[]) (show(some (xs.drop at_)).bind (pT most)=none from ht);rw[q.1,q.2];exact⟨rfl,⟨at_,f,h1,hE.1,hB.eff hE.2,h4,tr_bad hv⟩,hE.2⟩
  | ok ys k=>
   rw[hv]at hp ht;obtain⟨rfl,hE⟩:=hp;have q:=va_some (d:=[]) (show(some (xs.drop at_)).bind (pT most)=some (ys,(xs.drop at_).drop k)from ht.1);rw[q.1,q.2];have hk:=ht.2;rw[zw1,hB.1.1]at hk;exact⟨rfl,⟨at_+k,0,by omega,hE.1,hB.eff hE.2,h4,rfl,by rw[zw31]⟩,hE.2⟩
theorem bytes_st (g n c m:Nat) (hm0:m≤1000000) (A:Option Addr) (xs:List Nat) (st:Option (List Nat)) (w:World) (h:RSt w g A n c xs st):
  Calls Tryz.prog 132 #[.pointer (some ⟨g,0,none⟩),.int .i64 (m:Int)] w fun e w'=>(∃v,e= .returned v∧((st.bind (pB m)=none∧v= .slice none 0 0)∨∃ys R,st.bind (pB m)=some (ys,R)∧GotF w.heap.size w' ys v))∧RSt w' g A n c xs (nx (pB m) st)∧w.grownBy w' (some g):=by
 have hsm:=fun L (e:st=some L)=>RSt.small (e▸h);obtain⟨at_,e,h1,hr,hB,h4,hm⟩:=h
 cases st with
 | none=>
  refine(bytes_err g at_ _ (m:Int) e w hr (zw12.2 hm)).mono ?_;rintro e' w' ⟨rfl,hE⟩;exact⟨⟨_,rfl,.inl ⟨rfl,rfl⟩⟩,⟨at_,e,h1,hr.ext hE,⟨hB.1.ext hE,hB.2⟩,h4,hm⟩,gb_ext hE _⟩
 | some L=>
  obtain⟨rfl,rfl⟩:=hm;refine(bytesF g n c at_ (m:Int) (by omega) (by omega) A xs w hr hB h1 h4).mono ?_;rintro e' w' (⟨h0,_,_⟩ | ⟨_,hl,rfl,hE⟩ | ⟨_,hl,⟨v,rfl,hG⟩,hE⟩)
  ·omega
  ·have q0:(some (xs.drop at_)).bind (pB m)=none:=by simp only[Option.bind_some,pB,if_neg (show ¬m≤(xs.drop at_).length by omega)]
   have q:=va_none (d:=[]) q0;rw[q.2];exact⟨⟨_,rfl,.inl ⟨q0,rfl⟩⟩,⟨at_,3,h1,hE.1,hB.eff hE.2,h4,by simp⟩,hE.2⟩
  ·have q0:(some (xs.drop at_)).bind (pB m)=some ((xs.drop at_).take m,(xs.drop at_).drop m):=by simp only[Option.bind_some,pB,if_pos (show m≤(xs.drop at_).length by omega)]
   have q:=va_some (d:=[]) q0;rw[q.2];have hk:=hl;rw[zw1,hB.1.1]at hk;rw[zw35]at hG hE;exact⟨⟨_,rfl,.inr ⟨_,_,q0,hG⟩⟩,⟨at_+m,0,by omega,hE.1,hB.eff hE.2,h4,rfl,by rw[zw31]⟩,hE.2⟩
theorem err_st (g n c:Nat) (A:Option Addr) (xs:List Nat) (st:Option (List Nat)) (w:World) (h:RSt w g A n c xs st):
  Calls Tryz.prog 81 #[.pointer (some ⟨g,0,none⟩)] w fun e w'=>∃x:Int,e= .returned (.int .i64 x)∧(x≠0↔st=none)∧w=w':=by
 obtain⟨at_,e,h1,hr,hB,h4,hm⟩:=h;refine(err_any g _ at_ e w hr).mono ?_;rintro e' w' ⟨rfl,rfl⟩;refine⟨e,rfl,?_,rfl⟩
 cases st with
 | none=>simpa using hm
 | some L=>simp[hm.1]
theorem end_st (g n c:Nat) (A:Option Addr) (xs:List Nat) (st:Option (List Nat)) (w:World) (h:RSt w g A n c xs st):
  Calls Tryz.prog 91 #[.pointer (some ⟨g,0,none⟩)] w fun e w'=>∃x:Int,e= .returned (.int .i64 x)∧(x=0↔st=some [])∧Ext w w':=by
 obtain⟨at_,e,h1,hr,hB,h4,hm⟩:=h
 cases st with
 | none=>
  refine(end_bad g _ at_ e w hr (zw12.2 hm)).mono ?_;rintro e' w' ⟨rfl,hE⟩;exact⟨e,rfl,by simpa using hm,hE⟩
 | some L=>
  obtain⟨rfl,rfl⟩:=hm;refine(end_ok g n c A at_ w hr h1 h4).mono ?_;rintro e' w' ⟨rfl,hE⟩;refine⟨_,rfl,?_,hE⟩;have hl:(xs.drop at_).length=n-at_:=by rw[zw1,hB.1.1]
  by_cases he:at_=n
  ·rw[if_pos he]
   simp only[true_iff,Option.some.injEq];exact zw19 (by omega)
  ·rw[if_neg he]
   refine⟨fun h=>absurd h (by decide),fun h=>?_⟩;rw[zw13 h,zw26]at hl;omega
theorem of_st (A:Option Addr) (n c:Nat) (xs:List Nat) (w:World) (hB:Bs w A n xs) (hnil:A=none→n=0∧c=0) (hn:n≤4000000000):
  Calls Tryz.prog 79 #[.slice A n c] w fun e w'=>∃g A' c',e= .returned (.pointer (some ⟨g,0,none⟩))∧w.heap.size≤g∧RSt w' g A' n c' xs (some xs)∧Ext w w'∧(0<n→∀a,A'=some a→w.heap.size≤a.block∧a.block≠g):=by
 refine(ofF A n c xs w hB hnil hn).mono ?_;rintro e w' ⟨g,A',c',rfl,hg,hr,hRB,hE,hf⟩;exact⟨g,A',c',rfl,hg,⟨0,0,Nat.zero_le _,hr,hRB,hn,rfl,rfl⟩,hE,fun hp a ha=>⟨hf hp a ha,hRB.2.2.2.2 hp a ha⟩⟩
def pE (L:List Nat):Option (En × List Nat):=
 match pI L with
 | none=>none
 | some (s,L1)=>match pB 3 L1 with
  | none=>none
  | some (ys,L2)=>match pN L2 with
   | none=>none
   | some (u,L3)=>match pN L3 with
    | none=>none
    | some (t,L4)=>match pN L4 with
     | none=>none
     | some (g,L5)=>some (⟨s,ys.getD 0 0,ys.getD 1 0,ys.getD 2 0,u,t,g⟩,L5)
def En.words (e:En):Prop:=e.unit≤65535∧e.tile≤65535∧e.target≤65535
instance (e:En):Decidable e.words:=by unfold En.words;infer_instance
def pL (n:Nat):Nat→Nat→Nat→List Nat→Option (List En × List Nat)
 | 0,_,_,L=>some ([],L)
 | left+1,last,each,L=>match pE L with
  | none=>none
  | some (x,R)=>if x.words∧last+x.tick<n∧each' last each (last+x.tick)≤32 then
    match pL n left (last+x.tick) (each' last each (last+x.tick)) R with
    | none=>none
    | some (es,R')=>some (({x with tick:=last+x.tick}:En)::es,R')
   else none
theorem three_of {α:Type}:∀{l:List α},l.length=3→∃a b c,l=[a,b,c]
 | [a,b,c],_=>⟨a,b,c,rfl⟩
theorem pE_put {last:Nat} {e:En} (hf:e.fits) (hs:e.tick-last≤2147483647) (ys:List Nat):pE (enc1 last e++ys)=some ({e with tick:=e.tick-last},ys):=by
 obtain⟨h1,h2,h3,h4,h5,h6⟩:=hf;unfold enc1;simp only[zw7];unfold pE;rw[pI_put hs];simp only;rw[show([e.player,e.doing,e.kind]++(vb e.unit++(vb e.tile++(vb e.target++ys))))=[e.player,e.doing,e.kind]++(vb e.unit++(vb e.tile++(vb e.target++ys)))from rfl,show(3:Nat)=[e.player,e.doing,e.kind].length from rfl,pB_put];simp only;rw[pN_put (by omega)];simp only;rw[pN_put (by omega)];simp only;rw[pN_put (by omega)];rfl
theorem pL_put (n:Nat) (hn:n≤2147483647):∀(es:List En) (last each:Nat) (ys:List Nat),(∀e∈es,e.fits)→paced n last each es→pL n es.length last each (encs last es++ys)=some (es,ys):=by
 intro es
 induction es with
 | nil=>intro last each ys _ _;rfl
 | cons e es ih=>
  intro last each ys hf hp;obtain⟨p1,p2,p3,p4⟩:=hp;have hfe:=hf e (by simp);obtain⟨h1,h2,h3,h4,h5,h6⟩:=hfe;rw[zw3,encs,zw7,pL,pE_put (hf e (by simp)) (by omega)];simp only;rw[show last+(e.tick-last)=e.tick from by omega,if_pos ⟨⟨h4,h5,h6⟩,p2,p3⟩,ih e.tick _ ys (fun x hx=>hf x (by simp[hx])) p4]
theorem pE_ok {L R:List Nat} (hL:∀c∈L,c<256) {x:En} (h:pE L=some (x,R)) (last:Nat):L=enc1 last {x with tick:=last+x.tick}++R∧x.tick≤2147483647∧x.player<256∧x.doing<256∧x.kind<256∧x.unit<18446744073709551616∧x.tile<18446744073709551616∧x.target<18446744073709551616:=by
 unfold pE at h
 split at h
 ·cases h
 rename_i s L1 h1
 split at h
 ·cases h
 rename_i ys L2 h2
 split at h
 ·cases h
 rename_i u L3 h3
 split at h
 ·cases h
 rename_i t L4 h4
 split at h
 ·cases h
 rename_i g L5 h5;cases h
 obtain⟨e1,f1⟩:=pI_ok hL h1;have hL1:∀c∈L1,c<256:=fun c hc=>hL c (by rw[e1];exact List.mem_append_right _ hc);obtain⟨e2,f2⟩:=pB_ok h2;have hL2:∀c∈L2,c<256:=fun c hc=>hL1 c (by rw[e2];exact List.mem_append_right _ hc);obtain⟨e3,f3⟩:=pN_ok hL2 h3;have hL3:∀c∈L3,c<256:=fun c hc=>hL2 c (by rw[e3];exact List.mem_append_right _ hc);obtain⟨e4,f4⟩:=pN_ok hL3 h4;have hL4:∀c∈L4,c<256:=fun c hc=>hL3 c (by rw[e4];exact List.mem_append_right _ hc);obtain⟨e5,f5⟩:=pN_ok hL4 h5;obtain⟨a,b,c,rfl⟩:=three_of f2;have hy:∀x∈[a,b,c],x<256:=fun x hx=>hL1 x (by rw[e2];exact List.mem_append_left _ hx);refine⟨?_,f1,hy a (by simp),hy b (by simp),hy c (by simp),f3,f4,f5⟩;unfold enc1;simp only[zw44,zw7];rw[←e5,←e4,←e3];exact e1.trans (congrArg _ e2)
theorem chain5 {L:List Nat}:(nx pN (nx pN (nx pN (nx (pB 3) (nx pI (some L)))))=none∧pE L=none)∨
  ∃s L1 ys L2 u L3 t L4 g L5,pI L=some (s,L1)∧pB 3 L1=some (ys,L2)∧pN L2=some (u,L3)∧pN L3=some (t,L4)∧pN L4=some (g,L5)∧pE L=some (⟨s,ys.getD 0 0,ys.getD 1 0,ys.getD 2 0,u,t,g⟩,L5)∧
   nx pI (some L)=some L1∧nx (pB 3) (some L1)=some L2∧nx pN (some L2)=some L3∧nx pN (some L3)=some L4∧nx pN (some L4)=some L5∧va pI 0 (some L)=s∧va pN 0 (some L2)=u∧va pN 0 (some L3)=t∧va pN 0 (some L4)=g:=by
 cases h1:pI L with
 | none=>left;simp[nx,h1,pE]
 | some p1=>
  obtain⟨s,L1⟩:=p1
  cases h2:pB 3 L1 with
  | none=>left;simp[nx,h1,h2,pE]
  | some p2=>
   obtain⟨ys,L2⟩:=p2
   cases h3:pN L2 with
   | none=>left;simp[nx,h1,h2,h3,pE]
   | some p3=>
    obtain⟨u,L3⟩:=p3
    cases h4:pN L3 with
    | none=>left;simp[nx,h1,h2,h3,h4,pE]
    | some p4=>
     obtain⟨t,L4⟩:=p4
     cases h5:pN L4 with
     | none=>left;simp[nx,h1,h2,h3,h4,h5,pE]
     | some p5=>
      obtain⟨g,L5⟩:=p5
      right
      exact⟨s,L1,ys,L2,u,L3,t,L4,g,L5,rfl,h2,h3,h4,h5,by simp[pE,h1,h2,h3,h4,h5],by simp[nx,h1],by simp[nx,h2],by simp[nx,h3],by simp[nx,h4],by simp[nx,h5],by simp[va,h1],by simp[va,h3],by simp[va,h4],by simp[va,h5]⟩
theorem results_cell2 {P:Program} {fn:Func} {p q:Tmp} {ty:TypeId} (h:fn.results= #[.cell p ty,.tmp q]) (tmps:Array Value) (w:World) (g:Nat) (t:TypeId) (cs:Array Value) (fr:Nat × Nat) (d:TypeDesc)
  (hp:tmps.getD p undef= .pointer (some ⟨g,0,none⟩)) (hg:w.heap[g]? =some (.cells cs t fr)) (b:Value) (hq:tmps.getD q undef=b)
  (hu:P.underlying ty=some d) (hd:(match d with | .struct _ | .array _ _=>true | _=>false)=true) (hi:(P.info? ty).map (·.size)=some cs.size):
  (results fn tmps).run P w= .ok (.tuple #[.agg cs,b]) w:=by
 have hp':tmps[p]?.getD undef= .pointer (some ⟨g,0,none⟩):=by simpa using hp
 have hq':tmps[q]?.getD undef=b:=by simpa using hq
 simp[results,h,hp',hq',asAddr,run_loadVar_row w g t ty cs fr d hg hu hd hi]
theorem gb_far {a w:World} {r:Option Nat} (h:a.grownBy w r) {p:Addr} (hp:a.heap.size≤p.block) (u:Value):a.grownBy (w.setCell p u) r:=
 ⟨h.os,h.tape,h.output,by have:=h.size;simpa [World.setCell]using this,fun k hk hr=>(zw46 w p u k (by omega)).trans (h.block k hk hr)⟩
theorem gb_alloc {a w:World} {r:Option Nat} (h:a.grownBy w r) (o:Obj):a.grownBy (w.alloc o) r:=
 ⟨h.os,h.tape,h.output,zw10 h.size (by rw[zw22];omega),fun k hk hr=>(zw47 w o k (zw9 hk h.size)).trans (h.block k hk hr)⟩
theorem gb_drew {a w:World} {r:Option Nat} (h:a.grownBy w r):a.grownBy w.drew r:=⟨h.os,h.tape,h.output,h.size,h.block⟩
def RIn (B g:Nat) (A:Option Addr) (n:Nat):Prop:=g<B∧∀a,A=some a→0<n→a.block<B
theorem RSt.rin {w:World} {g:Nat} {A:Option Addr} {n c:Nat} {xs:List Nat} {st:Option (List Nat)} (h:RSt w g A n c xs st):RIn w.heap.size g A n:=by
 refine⟨h.lt,fun a ha hp=>?_⟩;obtain⟨a',e,h1,hr,hB,h4,hm⟩:=h;obtain⟨b,o,e1,hl,hc⟩:=hB.1.2.2 hp;obtain rfl:=zw13 (ha.symm.trans e1);exact hl
theorem RSt.keep {w w':World} {B g:Nat} {A:Option Addr} {n c:Nat} {xs:List Nat} {st:Option (List Nat)} (hi:RIn B g A n) (h:RSt w g A n c xs st) (hk:∀k,k<B→w'.heap[k]? =w.heap[k]?) (hs:w.heap.size≤w'.heap.size):RSt w' g A n c xs st:=
 h.far (hk g hi.1) (fun a ha hp i=>World.cell?_of_block (hk _ (hi.2 a ha hp))) hs
theorem RSt.set {w:World} {B g:Nat} {A:Option Addr} {n c:Nat} {xs:List Nat} {st:Option (List Nat)} (hi:RIn B g A n) (h:RSt w g A n c xs st) {p:Addr} (hp:B≤p.block) (u:Value):RSt (w.setCell p u) g A n c xs st:=
 h.keep hi (fun k hk=>zw46 w p u k (by omega)) (by simp[World.setCell])
def EV (t p d u l g k:Int):Value:= .agg #[.int .i64 t,.int .u8 p,.int .u8 d,.int .u16 u,.int .u16 l,.int .u16 g,.int .u8 k]
def EPost (w:World) (g:Nat) (A:Option Addr) (n c:Nat) (xs L:List Nat) (last:Int) (e:Ending) (w':World):Prop:=
 w.grownBy w' (some g)∧match pE L with
 | none=>e= .returned (.tuple #[EV 0 0 0 0 0 0 0,.bool false])∧RSt w' g A n c xs none
 | some (x,R)=>e= .returned (.tuple #[EV (last+x.tick) x.player x.doing (IntKind.u16.wrap x.unit) (IntKind.u16.wrap x.tile) (IntKind.u16.wrap x.target) x.kind,.bool (decide x.words)])∧RSt w' g A n c xs (some R)
theorem blk_kept {w w':World} {g r:Nat} {t:TypeId} {cs:Array Value} (h:Blk w g t cs) (k:w.grownBy w' (some r)) (hne:g≠r):Blk w' g t cs:=(k.block g h.lt (by simpa using hne)).trans h
theorem bs_kept {w w':World} {A:Option Addr} {n r:Nat} {xs:List Nat} (h:Bs w A n xs) (k:w.grownBy w' (some r)) (hne:0<n→∀a,A=some a→a.block≠r):Bs w' A n xs:=by
  rcases Nat.eq_zero_or_pos n with rfl | hp
  · exact⟨h.1,h.2.1,fun h0=>absurd h0 (by omega)⟩
  · exact h.kept k (fun a ha=>by simpa using hne hp a ha)
def zeroEn:Array Value:= #[.int .i64 0,.int .u8 0,.int .u8 0,.int .u16 0,.int .u16 0,.int .u16 0,.int .u8 0]
theorem entry_st (g n c : Nat) (A : Option Addr) (xs L : List Nat) (last : Int) (h1 : 0 ≤ last) (h2 : last ≤ 1000000) (w : World) (h : RSt w g A n c xs (some L)) :
    Calls Tryz.prog 121 #[.pointer (some ⟨g,0,none⟩),.int .i64 last] w (EPost w g A n c xs L last):=by
  have hg:=h.lt;have hE0:=zxa (zxr w) (.cells #[.int .i64 0,.int .u8 0,.int .u8 0,.int .u16 0,.int .u16 0,.int .u16 0,.int .u8 0] 104);have hB0:=Blk.new w 104 #[.int .i64 0,.int .u8 0,.int .u8 0,.int .u16 0,.int .u16 0,.int .u16 0,.int .u8 0];have HA:=zh (int_st g n c A xs (some L) _ (h.ext hE0));have HE0:=zh hE0;have HB0:=zh hB0;have HG:=zh hg;have HR0:=zh h.rin;have HC:=zh (chain5 (L:=L));clear h hE0 hg hB0;go_enter Tryz.func121,Tryz.ntmps121;go_wp2_with fail;refine(HA.out).mono ?_;rintro e w1 ⟨rfl,hz1,hS1,hG1⟩;generalize hva:va pI 0 (some L)=z at*;have HV0:=zh hva;clear hva;have HS1:=zh hS1;have HG1:=zh hG1;clear hS1 hG1;have HA1:=zh (bytes_st g n c 3 (by omega) A xs _ w1 HS1.out);go_wp2_with fail;refine(HA1.out).mono ?_;rintro e w2 ⟨⟨v,rfl,hv⟩,hS2,hG2⟩;have HV:=zh hv;have HS2:=zh hS2;have HG2:=zh hG2;clear hv hS2 hG2;have HA2:=zh (num_st g n c A xs _ w2 HS2.out);go_wp2_with fail;refine(HA2.out).mono ?_;rintro e w3 ⟨rfl,hz3,hS3,hG3⟩;generalize hva:va pN 0 (nx (pB 3) (nx pI (some L)))=u at*;have HVu:=zh hva;clear hva;have HS3:=zh hS3;have HG3:=zh hG3;clear hS3 hG3;have HA3:=zh (num_st g n c A xs _ w3 HS3.out);go_wp2_with fail;refine(HA3.out).mono ?_;rintro e w4 ⟨rfl,hz4,hS4,hG4⟩;generalize hva:va pN 0 (nx pN (nx (pB 3) (nx pI (some L))))=t at*;have HVt:=zh hva;clear hva;have HS4:=zh hS4;have HG4:=zh hG4;clear hS4 hG4;have HA4:=zh (num_st g n c A xs _ w4 HS4.out);go_wp2_with fail;refine(HA4.out).mono ?_;rintro e w5 ⟨rfl,hz5,hS5,hG5⟩;generalize hva:va pN 0 (nx pN (nx pN (nx (pB 3) (nx pI (some L)))))=gg at*
  have HVg:=zh hva;clear hva;have HS5:=zh hS5;have HG5:=zh hG5;clear hS5 hG5;have HA5:=zh (err_st g n c A xs _ w5 HS5.out);have HGG:Hid (w.grownBy w5 (some g)):=zh (gb_trans (gb_trans (gb_trans (gb_trans (gb_trans (gb_ext HE0.out _) HG1.out) HG2.out) HG3.out) HG4.out) HG5.out);have hne:w.heap.size≠g:=by have:=HG.out;omega
  have hBR:=blk_kept (blk_kept (blk_kept (blk_kept (blk_kept HB0.out HG1.out hne) HG2.out hne) HG3.out hne) HG4.out hne) HG5.out hne;have HBR:=zh hBR;have a0:=fun i=>hBR.cell i;have a1:=fun i=>hBR.frozen i;clear hBR;go_wp2_with fail;refine(HA5.out).mono ?_;rintro e w6 ⟨x,rfl,hx,rfl⟩;rcases HC.out with ⟨c1,c2⟩ | ⟨s,L1,ys,L2,u',L3,t',L4,g',L5,c1,c2,c3,c4,c5,c6,d1,d2,d3,d4,d5,f1,f2,f3,f4⟩
  · have hx':¬x=0:=hx.2 c1
    have HX:=zh (And.intro c1 c2);clear c1 c2 hx;go_wp2_with fail;have hb1:=((((((HBR.out.set_ 0 (.int .i64 0)).set_ 1 (.int .u8 0)).set_ 2 (.int .u8 0)).set_ 3 (.int .u16 0)).set_ 4 (.int .u16 0)).set_ 5 (.int .u16 0)).set_ 6 (.int .u8 0);refine bodyPost_ret (v:= .tuple #[EV 0 0 0 0 0 0 0,.bool false]) (results_cell2 Tryz.results121 _ _ w.heap.size 104 _ (0,0) _ rfl hb1 _ rfl Tryz.underlying104 rfl (by kernel_rfl)) rfl ?_;refine⟨gb_far (gb_far (gb_far (gb_far (gb_far (gb_far (gb_far HGG.out (zw8 _) _) (zw8 _) _) (zw8 _) _) (zw8 _) _) (zw8 _) _) (zw8 _) _) (zw8 _) _,?_⟩;rw[HX.out.2];refine⟨rfl,?_⟩;have hr:=HS5.out;rw[HX.out.1]at hr;exact((((((hr.set HR0.out (zw8 _) _).set HR0.out (zw8 _) _).set HR0.out (zw8 _) _).set HR0.out (zw8 _) _).set HR0.out (zw8 _) _).set HR0.out (zw8 _) _).set HR0.out (zw8 _) _
  · have q2:nx (pB 3) (nx pI (some L))=some L2:=by rw[d1,d2]
    have q3:nx pN (nx (pB 3) (nx pI (some L)))=some L3:=by rw[q2,d3]
    have q4:nx pN (nx pN (nx (pB 3) (nx pI (some L))))=some L4:=by rw[q3,d4]
    have q5:nx pN (nx pN (nx pN (nx (pB 3) (nx pI (some L)))))=some L5:=by rw[q4,d5]
    have hx':x=0:=by
      by_cases h0:x=0
      · exact h0
      · exact absurd (hx.1 h0) (by rw[q5];simp)
    obtain rfl:z=s:=f1;obtain rfl:u=u':=by rw[←HVu.out,q2,f2]
    obtain rfl:t=t':=by rw[←HVt.out,q3,f3]
    obtain rfl:gg=g':=by rw[←HVg.out,q4,f4]
    obtain rfl:=hx';have HPE:=zh c6;obtain⟨y0,y1,y2,rfl⟩:=three_of (pB_ok c2).2;have hGot:GotF w1.heap.size w2 [y0,y1,y2] v:=by
      rcases HV.out with ⟨h0,_⟩ | ⟨ys',R',h0,hG⟩
      · rw[d1,Option.bind_some,c2]at h0;cases h0
      · rw[d1,Option.bind_some,c2]at h0;cases h0;exact hG
    obtain⟨A',c',rfl,hc3,hc4,hc5,hBs,hfar⟩:=hGot;have hgw:g<w1.heap.size:=(HS1.out).lt;have hne3:0<([y0,y1,y2]:List Nat).length→∀a,A'=some a→a.block≠g:=fun hp a ha=>by have:=hfar hp a ha;omega
    have hBs5:=bs_kept (bs_kept (bs_kept hBs HG3.out hne3) HG4.out hne3) HG5.out hne3;obtain⟨b,o,rfl,hlt,hcs⟩:=hBs5.2.2 (by simp);have e0:=hcs 0 (by simp);have e1:=hcs 1 (by simp);have e2:=hcs 2 (by simp);have l0:=hBs5.2.1 0;have l1:=hBs5.2.1 1;have l2:=hBs5.2.1 2;simp only[Nat.add_zero,List.getD_cons_zero,List.getD_cons_succ]at e0 e1 e2 l0 l1 l2;have HQ5:=zh q5;clear a0 a1;clear hx c1 c2 c3 c4 c5 c6 d1 d2 d3 d4 d5 f2 f3 f4 q2 q3 q4 q5 hc5 hBs hfar hne3 hBs5 hcs;simp only[zw3,zw26,Nat.zero_add,Nat.reduceAdd]at*;go_wp2_with fail;have MKS:=zh (fun(w':World) (e:Ext w5 w')=>(⟨kc e e0,kc e e1,kc e e2,zh e⟩:w'.cell? ⟨b,o,none⟩=some (.int .u8 (y0:Int))∧w'.cell? ⟨b,o+1,none⟩=some (.int .u8 (y1:Int))∧w'.cell? ⟨b,o+2,none⟩=some (.int .u8 (y2:Int))∧Hid (Ext w5 w')))
    go_region_held3 (fun w'=>w'.cell? ⟨b,o,none⟩=some (.int .u8 (y0:Int))∧w'.cell? ⟨b,o+1,none⟩=some (.int .u8 (y1:Int))∧w'.cell? ⟨b,o+2,none⟩=some (.int .u8 (y2:Int))∧Hid (Ext w5 w'))
      ((refine MKS.out _ ?_;repeat (first | exact zxr _ | refine zxa ?_ _ | refine zxd ?_ | refine ext_set ?_ (by first | omega | (simp;done) | (simp;omega)) _)))
      (fail)
    clear MKS;obtain⟨W6,hW6⟩:∃W,W=(w5.alloc (.cells #[.int .u8 (y0:Int),.int .u8 (y1:Int),.int .u16 (IntKind.u16.wrap (u:Int)),.int .u16 (IntKind.u16.wrap (t:Int)),.int .u16 (IntKind.u16.wrap (gg:Int)),.int .u8 (y2:Int)] 102)).drew:=⟨_,rfl⟩;have hb6:=(HBR.out.alloc (.cells #[.int .u8 (y0:Int),.int .u8 (y1:Int),.int .u16 (IntKind.u16.wrap (u:Int)),.int .u16 (IntKind.u16.wrap (t:Int)),.int .u16 (IntKind.u16.wrap (gg:Int)),.int .u8 (y2:Int)] 102)).drew;have hc6:=(Blk.new w5 102 #[.int .u8 (y0:Int),.int .u8 (y1:Int),.int .u16 (IntKind.u16.wrap (u:Int)),.int .u16 (IntKind.u16.wrap (t:Int)),.int .u16 (IntKind.u16.wrap (gg:Int)),.int .u8 (y2:Int)]).drew;have HGW:Hid (w.grownBy W6 (some g)):=zh (by rw[hW6];exact gb_drew (gb_alloc HGG.out _));have HSW:Hid (RSt W6 g A n c xs (some L5)):=zh (by rw[hW6,←HQ5.out];exact HS5.out.ext (zxd (zxa (zxr _) _)));have hwz:w.heap.size<w5.heap.size:=HBR.out.lt;rw[←hW6]at hb6 hc6 ⊢;clear hW6;have HB6:=zh hb6;have z0:=fun i=>hb6.cell i;have z1:=fun i=>hb6.frozen i;have z2:=fun i=>hc6.cell i;clear hb6 hc6;go_wp2_with fail
    all_goals
      have hb1:=((((((HB6.out.set_ 0 (.int .i64 (last+(z:Int)))).set_ 1 (.int .u8 (y0:Int))).set_ 2 (.int .u8 (y1:Int))).set_ 3 (.int .u16 (IntKind.u16.wrap (u:Int)))).set_ 4 (.int .u16 (IntKind.u16.wrap (t:Int)))).set_ 5 (.int .u16 (IntKind.u16.wrap (gg:Int)))).set_ 6 (.int .u8 (y2:Int));refine bodyPost_ret (v:= .tuple #[EV (last+(z:Int)) y0 y1 (IntKind.u16.wrap (u:Int)) (IntKind.u16.wrap (t:Int)) (IntKind.u16.wrap (gg:Int)) y2,.bool (decide (En.words ⟨z,y0,y1,y2,u,t,gg⟩))]) (results_cell2 Tryz.results121 _ _ w.heap.size 104 _ (0,0) _ rfl hb1 _ ?_ Tryz.underlying104 rfl (by kernel_rfl)) rfl ?_
    all_goals first
      | (refine⟨gb_far (gb_far (gb_far (gb_far (gb_far (gb_far (gb_far HGW.out (zw8 _) _) (zw8 _) _) (zw8 _) _) (zw8 _) _) (zw8 _) _) (zw8 _) _) (zw8 _) _,?_⟩
         rw[HPE.out];exact⟨rfl,((((((HSW.out.set HR0.out (zw8 _) _).set HR0.out (zw8 _) _).set HR0.out (zw8 _) _).set HR0.out (zw8 _) _).set HR0.out (zw8 _) _).set HR0.out (zw8 _) _).set HR0.out (zw8 _) _⟩)
      | (refine congrArg Value.bool (decide_eq_decide.2 ?_)
         clear z0 z1 z2;show _↔(u≤65535∧t≤65535∧gg≤65535);rcases Nat.lt_or_ge u t with hut | hut
         · simp only[if_pos hut]at*
           omega
         · simp only[if_neg (Nat.not_lt.2 hut)]at*
           omega)
open Rec
structure Ev where
 tick:Int
 player:Nat
 doing:Nat
 unit:Nat
 tile:Nat
 target:Nat
 kind:Nat
def cV (x:Ev):List Value:=[.int .i64 x.tick,.int .u8 (x.player:Int),.int .u8 (x.doing:Int),.int .u16 (x.unit:Int),.int .u16 (x.tile:Int),.int .u16 (x.target:Int),.int .u8 (x.kind:Int)]
theorem cV_len (x:Ev):(cV x).length=7:=rfl
def En.ev (e:En):Ev:=⟨e.tick,e.player,e.doing,e.unit,e.tile,e.target,e.kind⟩
theorem infoE:(Tryz.prog.info? 104).map (fun i=>(i.zero,i.size,i.bytes))=some (some (.agg #[.int .i64 0,.int .u8 0,.int .u8 0,.int .u16 0,.int .u16 0,.int .u16 0,.int .u8 0]),7,24):=by kernel_rfl
def takeL (n:Int) (L:List Nat):Option (List En):=
 if 0≤n∧n≤4096 then match pN L with
  | none=>none
  | some (left,L1)=>match pL n.toNat left 0 0 L1 with
   | some (es,[])=>some es
   | _=>none
 else none
def TkPost (w:World) (n:Int) (L:List Nat) (e:Ending) (w':World):Prop:=
 Ext w w'∧match takeL n L with
 | none=>∃x:Int,x≠0∧e= .returned (.tuple #[.slice none 0 0,.int .i64 x])
 | some es=>∃v,e= .returned (.tuple #[v,.int .i64 0])∧OwnR w.heap.size w' 104 7 cV v (es.map En.ev)
def restL (n:Nat) (done:List En) (left last each:Nat) (L:List Nat):Option (List En):=
 match pL n left last each L with
 | some (es,[])=>some (done++es)
 | _=>none
theorem restL_zero (n:Nat) (done:List En) (last each:Nat) (L:List Nat):restL n done 0 last each L=if L=[]then some done else none:=by
 unfold restL pL
 cases L with
 | nil=>simp
 | cons a b=>simp
theorem restL_bad {n:Nat} {done:List En} {left last each:Nat} {L:List Nat} (h:pE L=none):restL n done (left+1) last each L=none:=by
 unfold restL pL;rw[h]
theorem restL_no {n:Nat} {done:List En} {left last each:Nat} {L R:List Nat} {x:En} (h:pE L=some (x,R)) (hn:¬(x.words∧last+x.tick<n∧each' last each (last+x.tick)≤32)):restL n done (left+1) last each L=none:=by
 unfold restL pL;rw[h];simp only;rw[if_neg hn]
theorem restL_yes {n:Nat} {done:List En} {left last each:Nat} {L R:List Nat} {x:En} (h:pE L=some (x,R)) (hn:x.words∧last+x.tick<n∧each' last each (last+x.tick)≤32):restL n done (left+1) last each L=restL n (done++[{x with tick:=last+x.tick}]) left (last+x.tick) (each' last each (last+x.tick)) R:=by
 unfold restL;rw[pL,h];simp only;rw[if_pos hn]
 cases pL n left (last+x.tick) (each' last each (last+x.tick)) R with
 | none=>rfl
 | some p=>
  obtain⟨es,R'⟩:=p
  cases R' with
  | nil=>simp
  | cons a b=>rfl
theorem takeL_rest {n:Int} (hn:0≤n∧n≤4096) (L:List Nat):takeL n L=match pN L with | none=>none | some (left,L1)=>restL n.toNat [] left 0 0 L1:=by
 unfold takeL restL;rw[if_pos hn]
 cases pN L with
 | none=>rfl
 | some p=>obtain⟨left,L1⟩:=p;rfl
theorem each_eq (last each tick:Nat):eachI (last:Int) each (tick:Int)=each' last each tick:=by
 unfold eachI each';by_cases h:tick=last
 ·subst h;simp
 ·rw[if_neg (by omega),if_neg h]
theorem OwnR_mono {α:Type} {b b':Nat} {w:World} {e:TypeId} {k:Nat} {f:α→List Value} {v:Value} {xs:List α} (h:OwnR b w e k f v xs) (hb:b'≤b):OwnR b' w e k f v xs:=by
 rcases h with ⟨h1,h2 | ⟨g,cap,cur,r1,r2,r3⟩⟩
 ·exact⟨h1,.inl h2⟩
 ·exact⟨h1,.inr ⟨g,cap,cur,r1,zw10 hb r2,r3⟩⟩
theorem tk_ok {w w':World} {n:Int} {L:List Nat} {es:List En} {v:Value} {b:Nat} (hE:Ext w w') (h:takeL n L=some es) (hO:OwnR b w' 104 7 cV v (es.map En.ev)) (hb:w.heap.size≤b):TkPost w n L (.returned (.tuple #[v,.int .i64 0])) w':=by
 refine⟨hE,?_⟩;rw[h];exact⟨v,rfl,OwnR_mono hO hb⟩
theorem tk_bad {w w':World} {n:Int} {L:List Nat} {x:Int} (hE:Ext w w') (h:takeL n L=none) (hx:x≠0):TkPost w n L (.returned (.tuple #[.slice none 0 0,.int .i64 x])) w':=by
 refine⟨hE,?_⟩;rw[h];exact⟨x,hx,rfl⟩
def GRel (w:World) (B1 B2:Nat) (g:Nat) (A:Option Addr) (m c:Nat) (xs:List Nat) (lb eb nb n:Nat) (T:Option (List En)) (gh:Nat) (ov lv kv:Value) (wr:World):Prop:=
 ∃(done:List En) (last each:Nat) (st:Option (List Nat)),OwnR B2 wr 104 7 cV ov (done.map En.ev)∧lv= .int .i64 (last:Int)∧kv= .int .u64 (gh:Int)∧gh<18446744073709551616∧RSt wr g A m c xs st∧
  Boxes wr lb eb nb last each n∧last≤4096∧each≤32∧(∀L,st=some L→done.length+L.length≤m)∧(st=none→gh=0)∧B2≤wr.heap.size∧Ext w wr∧T=st.bind (restL n done gh last each)
def St.sv (u:St):Sv:=⟨u.owner,u.kind,u.tile⟩
def Hd.hv (x:Hd):Hv:=⟨x.w,x.h,x.players,x.seed,strOf x.tiles,x.starts.map St.sv⟩
def goodS (us:List St):Prop:=(∀u∈us,u.owner≤255∧u.kind≤255)∧us.length≤128
instance (us:List St):Decidable (goodS us):=by unfold goodS;infer_instance
theorem goodS_left {us vs:List St} (h:goodS (us++vs)):goodS us:=
 ⟨fun u hu=>h.1 u (List.mem_append_left _ hu),by have:=h.2;rw[zw0]at this;omega⟩
theorem goodS_snoc {us:List St} {u:St}:goodS (us++[u])↔goodS us∧u.owner≤255∧u.kind≤255∧us.length<128:=by
 constructor
 ·intro h
  have:=h.2;rw[zw0,zw27]at this;have h2:=h.1 u (by simp);exact⟨goodS_left h,h2.1,h2.2,by omega⟩
 ·rintro ⟨h1,h2,h3,h4⟩
  refine⟨fun v hv=>?_,by rw[zw0,zw27];omega⟩;rcases zw16.1 hv with hv | hv
  ·exact h1.1 v hv
  ·rw[zw52]at hv;subst hv;exact⟨h2,h3⟩
def thO (x:Hd):Option Hv:=if goodS x.starts∧mayH x.hv then some x.hv else none
def thL (L:List Nat):Option Hv:=
 match pH L with
 | some (x,[])=>thO x
 | _=>none
def restS (done:List St) (gh:Nat) (L:List Nat):Option (List St):=
 match pS gh L with
 | some (us,[])=>some (done++us)
 | _=>none
theorem restS_zero (done:List St) (L:List Nat):restS done 0 L=if L=[]then some done else none:=by
 unfold restS pS
 cases L with
 | nil=>simp
 | cons a b=>simp
theorem chain3 {L:List Nat} (done:List St) (gh:Nat):(nx pI (nx pN (nx pN (some L)))=none∧restS done (gh+1) L=none)∨
  ∃o L1 k L2 t L3,nx pN (some L)=some L1∧nx pN (some L1)=some L2∧nx pI (some L2)=some L3∧va pN 0 (some L)=o∧va pN 0 (some L1)=k∧va pI 0 (some L2)=t∧restS done (gh+1) L=restS (done++[⟨o,k,t⟩]) gh L3:=by
 cases h1:pN L with
 | none=>left;simp[nx,h1,restS,pS]
 | some p1=>
  obtain⟨o,L1⟩:=p1
  cases h2:pN L1 with
  | none=>left;simp[nx,h1,h2,restS,pS]
  | some p2=>
   obtain⟨k,L2⟩:=p2
   cases h3:pI L2 with
   | none=>left;simp[nx,h1,h2,h3,restS,pS]
   | some p3=>
    obtain⟨t,L3⟩:=p3
    right
    refine⟨o,L1,k,L2,t,L3,by simp[nx,h1],by simp[nx,h2],by simp[nx,h3],by simp[va,h1],by simp[va,h2],by simp[va,h3],?_⟩;unfold restS;rw[pS,h1];simp only[h2,h3]
    cases pS gh L3 with
    | none=>rfl
    | some q=>
     obtain⟨us,R⟩:=q
     cases R with
     | nil=>simp
     | cons a b=>rfl
def s1 (xs:List Nat):=nx pI (some xs)
def s2 (xs:List Nat):=nx pI (s1 xs)
def s3 (xs:List Nat):=nx pI (s2 xs)
def s4 (xs:List Nat):=nx pF (s3 xs)
def s5 (xs:List Nat):=nx (pT 4096) (s4 xs)
def s6 (xs:List Nat):=nx pN (s5 xs)
theorem thL_eq (xs:List Nat):thL xs=((s6 xs).bind (restS [] (va pN 0 (s5 xs)))).bind (fun us=>thO ⟨va pI 0 (some xs),va pI 0 (s1 xs),va pI 0 (s2 xs),va pF 0 (s3 xs),va (pT 4096) [] (s4 xs),us⟩):=by
 unfold thL pH s6 s5 s4 s3 s2 s1
 cases h1:pI xs with
 | none=>simp[nx,h1]
 | some q1=>
  obtain⟨w,L1⟩:=q1
  cases h2:pI L1 with
  | none=>simp[nx,h1,h2]
  | some q2=>
   obtain⟨h,L2⟩:=q2
   cases h3:pI L2 with
   | none=>simp[nx,h1,h2,h3]
   | some q3=>
    obtain⟨p,L3⟩:=q3
    cases h4:pF L3 with
    | none=>simp[nx,h1,h2,h3,h4]
    | some q4=>
     obtain⟨sd,L4⟩:=q4
     cases h5:pT 4096 L4 with
     | none=>simp[nx,h1,h2,h3,h4,h5]
     | some q5=>
      obtain⟨ti,L5⟩:=q5
      cases h6:pN L5 with
      | none=>simp[nx,h1,h2,h3,h4,h5,h6]
      | some q6=>
       obtain⟨left,L6⟩:=q6;simp only[nx,va,Option.bind_some,h1,h2,h3,h4,h5,h6,Option.map_some,Option.getD_some,restS]
       cases pS left L6 with
       | none=>rfl
       | some q7=>
        obtain⟨us,R⟩:=q7
        cases R with
        | nil=>simp
        | cons a b=>rfl
theorem s6_none (xs:List Nat) (h:s6 xs=none):va pN 0 (s5 xs)=0:=by
 unfold s6 nx at h;unfold va
 cases hq:(s5 xs).bind pN with
 | none=>rfl
 | some q=>rw[hq]at h;cases h
theorem tiles_len (xs:List Nat) (hx:∀st L,st=some L→st=s4 xs→∀c∈L,c<256):(va (pT 4096) [] (s4 xs)).length≤4096:=by
 unfold va;cases h:(s4 xs)with
 | none=>simp
 | some L=>
  cases hq:pT 4096 L with
  | none=>simp[hq]
  | some q=>
   obtain⟨ys,R⟩:=q;have:=(pT_ok (hx _ L rfl h.symm) hq).2
   simpa [hq]using this
theorem nx_small {α:Type} {f:List Nat→Option (α × List Nat)} (hf:∀L x R,(∀c∈L,c<256)→f L=some (x,R)→∀c∈R,c<256) {st:Option (List Nat)} (h:∀L,st=some L→∀c∈L,c<256):∀L,nx f st=some L→∀c∈L,c<256:=by
 intro L hL
 cases st with
 | none=>simp[nx]at hL
 | some M=>
  cases hq:f M with
  | none=>simp[nx,hq]at hL
  | some q=>
   obtain⟨x,R⟩:=q;simp[nx,hq]at hL;subst hL;exact hf M x R (h M rfl) hq
theorem s4_small (xs:List Nat) (h:∀c∈xs,c<256):∀L,s4 xs=some L→∀c∈L,c<256:=by
 have hI:∀L x R,(∀c∈L,c<256)→pI L=some (x,R)→∀c∈R,c<256:=fun L x R hL e c hc=>hL c (by rw[(pI_ok hL e).1];exact List.mem_append_right _ hc);have hF:∀L x R,(∀c∈L,c<256)→pF L=some (x,R)→∀c∈R,c<256:=fun L x R hL e c hc=>hL c (by rw[(pF_ok hL e).1];exact List.mem_append_right _ hc);exact nx_small hF (nx_small hI (nx_small hI (nx_small hI (fun L e=>by cases e;exact h))))
def zeroH:Array Value:= #[.int .i64 0,.int .i64 0,.int .i64 0,.int .u32 0,.string ⟨#[]⟩,.slice none 0 0]
def ThPost (w:World) (L:List Nat) (e:Ending) (w':World):Prop:=
 Ext w w'∧match thL L with
 | none=>∃x:Int,x≠0∧e= .returned (.tuple #[.agg zeroH,.int .i64 x])
 | some hv=>∃v,e= .returned (.tuple #[.agg (cH hv v),.int .i64 0])∧OwnR w.heap.size w' 99 3 cS v hv.starts
theorem OwnR_mono' {α:Type} {b b':Nat} {w:World} {e:TypeId} {k:Nat} {f:α→List Value} {v:Value} {xs:List α} (h:OwnR b w e k f v xs) (hb:b'≤b):OwnR b' w e k f v xs:=by
 rcases h with ⟨h1,h2 | ⟨g,cap,cur,r1,r2,r3⟩⟩
 ·exact⟨h1,.inl h2⟩
 ·exact⟨h1,.inr ⟨g,cap,cur,r1,zw10 hb r2,r3⟩⟩
theorem OwnR_keep {α:Type} {b:Nat} {w w':World} {e:TypeId} {k:Nat} {f:α→List Value} {v:Value} {xs:List α} (h:OwnR b w e k f v xs) (hk:∀g,b≤g→g<w.heap.size→w'.heap[g]? =w.heap[g]?):OwnR b w' e k f v xs:=by
 rcases h with ⟨h1,h2 | ⟨g,cap,cur,r1,r2,r3,r4⟩⟩
 ·exact⟨h1,.inl h2⟩
 ·exact⟨h1,.inr ⟨g,cap,cur,r1,r2,(hk g r2 (Array.getElem?_eq_some_iff.1 r3).1).trans r3,r4⟩⟩
theorem th_ok {w w':World} {L:List Nat} {hv:Hv} {v:Value} {b:Nat} (hE:Ext w w') (h:thL L=some hv) (hO:OwnR b w' 99 3 cS v hv.starts) (hb:w.heap.size≤b):ThPost w L (.returned (.tuple #[.agg (cH hv v),.int .i64 0])) w':=by
 refine⟨hE,?_⟩;rw[h];exact⟨v,rfl,OwnR_mono' hO hb⟩
theorem th_bad {w w':World} {L:List Nat} {x:Int} (hE:Ext w w') (h:thL L=none) (hx:x≠0):ThPost w L (.returned (.tuple #[.agg zeroH,.int .i64 x])) w':=by
 refine⟨hE,?_⟩;rw[h];exact⟨x,hx,rfl⟩
def HRel (w:World) (g:Nat) (A:Option Addr) (m c:Nat) (xs:List Nat) (rb hb B2:Nat) (W H P S:Int) (T:ByteArray) (O:Option (List St)) (gh:Nat) (fv kv:Value) (wr:World):Prop:=
 ∃(done:List St) (sts:List Sv) (v:Value) (fits:Bool) (st:Option (List Nat)),fv= .bool fits∧kv= .int .u64 (gh:Int)∧gh<18446744073709551616∧RSt wr g A m c xs st∧Blk wr rb 25 zeroH∧
  Blk wr hb 25 #[.int .i64 W,.int .i64 H,.int .i64 P,.int .u32 S,.string T,v]∧OwnR B2 wr 99 3 cS v sts∧sts.length≤128∧(fits=true→sts=done.map St.sv∧goodS done)∧(fits=false→¬goodS done)∧
  (∀u∈sts,u.fits)∧(st=none→gh=0)∧B2≤wr.heap.size∧Ext w wr∧O=st.bind (restS done gh)
end Go.Proofs.YtidnboeihkeljaaGreatDoor.Log
