
import Derived.Test.YtbopblbhjcemaaaGreatDoorF02
set_option maxHeartbeats 16000000
set_option maxRecDepth 100000
set_option linter.all false
open Go.ChangeShapes Go.WideShapes Go.ChangeAt Go.RowKit
namespace Go.Proofs.YtbopblbhjcemaaaGreatDoor.Lz
open Wire
def rep (out:List Nat) (back:Nat):Nat→List Nat
 | 0=>out
 | n+1=>rep out back n++[(rep out back n).getD ((rep out back n).length-back) 0]
theorem rep_len (out:List Nat) (back n:Nat):(rep out back n).length=out.length+n:=by
 induction n with
 | zero=>rfl
 | succ n ih=>rw[rep,zw0,ih];simp;omega
theorem rep_small {out:List Nat} (h:∀c∈out,c<256) (back n:Nat):∀c∈rep out back n,c<256:=by
 induction n with
 | zero=>exact h
 | succ n ih=>
  intro c hc;rw[rep,zw16]at hc;rcases hc with hc | hc
  ·exact ih c hc
  ·simp only[zw30,List.not_mem_nil,or_false]at hc
   subst hc;exact small_mem ih _
inductive UR where
 | bad (err:Int)
 | ok (zs:List Nat)
def unp (most:Nat) (out rest:List Nat):UR:=
 match rest with
 | []=> .ok out
 | k::cs=>
  if 128≤k then .bad 4
  else if k%2=0 then
   if most<out.length+(k/2+1)then .bad 6
   else if cs.length<k/2+1 then .bad 3
   else unp most (out++cs.take (k/2+1)) (cs.drop (k/2+1))
  else match vr 0 0 cs with
   | .short=> .bad 3
   | .form=> .bad 4
   | .ok v j=>
    if 4096≤v∨out.length≤v then .bad 4
    else if most<out.length+(k/2+3)then .bad 6
    else unp most (rep out (v+1) (k/2+3)) (cs.drop j)
termination_by rest.length
decreasing_by all_goals simp only[zw1,zw3];omega
theorem own_eff {W w w1:World} {v:Value} {out:List Nat} {g j:Nat} {s:Value} {e:Int} (h:Wire.Own W w v out) (hE:Eff w w1 g s j e) (hg:g<W.heap.size):Wire.Own W w1 v out:=
 zw24 h hE.2 (.inr (fun e=>by have:=own_ge h g e;omega))
def RunPost (W w:World) (g:Nat) (s:Value) (i:Nat) (out rest:List Nat) (n:Nat) (room:Int) (e:Ending) (w':World):Prop:=
 (room<n∧e= .returned (.tuple #[.slice none 0 0,.int .i64 6])∧w=w')∨
 ((n:Int)≤room∧rest.length<n∧(∃v,e= .returned (.tuple #[v,.int .i64 3]))∧Eff W w' g s i 3)∨
 ((n:Int)≤room∧n≤rest.length∧(∃v,e= .returned (.tuple #[v,.int .i64 0])∧Wire.Own W w' v (out++rest.take n))∧Eff W w' g s (i+n) 0)
theorem run (W w:World) (g N c i n:Nat) (room:Int) (A:Option Addr) (xs out:List Nat) (v:Value) (hE:Eff W w g (.slice A N c) i 0) (hRB:RB w g A N c xs) (hi:i≤N) (hN:N≤1000000) (hg:g<W.heap.size) (hO:Wire.Own W w v out) (hol:out.length≤5000000000)
  (hn:n≤1000) (hr1: -5000000000≤room) (hr2:room≤5000000000):
  Calls Tryz.prog 147 #[v,.pointer (some ⟨g,0,none⟩),.int .i64 (n:Int),.int .i64 room] w (RunPost W w g (.slice A N c) i out (xs.drop i) n room):=by
 have HB:=zh (Wire.bytes g N c i n (by omega) (by omega) A xs w hE.1 hRB hi (by omega));have hrl:(xs.drop i).length=N-i:=by rw[zw1,hRB.1.1]
 have HRL:=zh hrl;have HE:=zh hE;have HO:=zh hO;have HSM:=zh hRB.1.2.1;obtain⟨i0,hi0,hz0,hz1,hz2⟩:=info_parts info8;have HI:=zh (And.intro hi0 (And.intro hz0 (And.intro hz1 hz2)));clear hi0 hz0 hz1 hz2;clear hE hRB hO hrl;generalize hrest:xs.drop i=rest at*;have HREST:=zh hrest;clear hrest;by_cases hgt:room<n
 ·go_enter Tryz.func147,Tryz.ntmps147
  go_wp2_with fail
  go_ret2
  exact .inl ⟨hgt,rfl,rfl⟩
 ·go_enter Tryz.func147,Tryz.ntmps147
  go_wp2_with fail;refine HB.out.mono ?_;rintro e w1 (⟨h0,_,_⟩ | ⟨h1,h2,rfl,hE1⟩ | ⟨h1,h2,⟨v1,rfl,A1,c1,rfl,q1,q2,q3,hB1⟩,hE1⟩)
  ·omega
  ·have HE1:=zh (HE.out.trans hE1)
   have HO1:=zh (own_eff HO.out hE1 hg);have HSR:Hid (Src Tryz.prog 1 22 (.slice none 0 0) 0 (c8 []) w1):=zh (Src.ofNil w1 Tryz.underlying22 0);clear hE1;go_wp2_with (at_builtin;refine wpList_app_own rfl (.tmp 13) (.tmp 16) 22 22 rfl 5 i0 (.int .u8 0) 1 1 Tryz.underlying22 HI.out.1 HI.out.2.1 HI.out.2.2.1 HI.out.2.2.2 rfl W.heap.size v _ out.length (c8 out) rfl rfl HO1.out 0 (c8 []) HSR.out (by unfold maxLen;omega) (by omega) (by have:=HE1.out.2.size;omega) ?_;intro v5 w5 hown5 hgr5;have HOW5:=zh hown5;have HE5:=zh (Com.eff_app HE1.out HO1.out hg hgr5);clear hown5 hgr5)
   refine(err_any g _ i 3 w5 HE5.out.1).mono ?_;rintro e w6 ⟨rfl,rfl⟩;go_wp2_with fail
   go_ret2
   exact .inr (.inl ⟨by omega,by omega,⟨_,rfl⟩,HE5.out⟩)
  ·rw[zw35]at q1 hB1 hE1 ⊢
   have hl:(rest.take n).length=n:=by rw[zw2];omega
   have HL:=zh hl;have HE1:=zh (HE.out.trans hE1);have HO1:=zh (own_eff HO.out hE1 hg);have HSR:=zh (Bs.src hB1 Tryz.underlying22 c1);have hlb:(rest.take n).length≤1000:=by omega
   clear hE1 hB1 q1 q2 q3 hl;generalize hys:rest.take n=ys at*;have HYS:=zh hys;clear hys;go_wp2_with (at_builtin;refine wpList_app_own rfl (.tmp 13) (.tmp 16) 22 22 rfl 5 i0 (.int .u8 0) 1 1 Tryz.underlying22 HI.out.1 HI.out.2.1 HI.out.2.2.1 HI.out.2.2.2 rfl W.heap.size v _ out.length (c8 out) rfl rfl HO1.out ys.length (c8 ys) HSR.out (by unfold maxLen;omega) (by omega) (by have:=HE1.out.2.size;omega) ?_;intro v5 w5 hown5 hgr5;have HOW5:=zh hown5;have HE5:=zh (Com.eff_app HE1.out HO1.out hg hgr5);clear hown5 hgr5)
   refine(err_any g _ (i+n) 0 w5 HE5.out.1).mono ?_;rintro e w6 ⟨rfl,rfl⟩;go_wp2_with fail
   go_ret2
   exact .inr (.inr ⟨by omega,by omega,⟨_,rfl,by rw[HYS.out];unfold Wire.Own;rw[zw0,c8_app];exact HOW5.out⟩,HE5.out⟩)
def key (xs:List Nat) (p:Nat):Nat:=(xs.getD p 0*256+xs.getD (p+1) 0)*256+xs.getD (p+2) 0
theorem key_inj {xs:List Nat} (h:∀j,xs.getD j 0<256) {p q:Nat}:key xs p=key xs q↔xs.getD p 0=xs.getD q 0∧xs.getD (p+1) 0=xs.getD (q+1) 0∧xs.getD (p+2) 0=xs.getD (q+2) 0:=by
 have h1:=h p;have h2:=h (p+1);have h3:=h (p+2);have h4:=h q;have h5:=h (q+1);have h6:=h (q+2);unfold key;omega
theorem three_no (A:Option Addr) (N c:Nat) (at_:Int) (w:World) (hN:N≤1000000) (h1: -10000≤at_) (h2:at_≤1000000) (h:at_<0∨(N:Int)<at_+3):
  Calls Tryz.prog 138 #[.slice A N c,.int .i64 at_] w fun e w'=>e= .returned (.tuple #[.int .u32 0,.bool false])∧w=w':=by
 go_enter Tryz.func138,Tryz.ntmps138;by_cases h0:at_<0
 ·go_wp2_with fail
  go_ret2
  exact⟨rfl,rfl⟩
 ·have h3:(N:Int)<at_+3:=by omega
  go_wp2_with fail
  go_ret2
  exact⟨rfl,rfl⟩
theorem three_yes (A:Option Addr) (N c p:Nat) (xs:List Nat) (w:World) (hB:Bs w A N xs) (hN:N≤1000000) (hp:p+3≤N):
  Calls Tryz.prog 138 #[.slice A N c,.int .i64 (p:Int)] w fun e w'=>e= .returned (.tuple #[.int .u32 (key xs p:Nat),.bool true])∧Ext w w':=by
 obtain⟨b,o,rfl,_,hcell⟩:=hB.2.2 (by omega);have q0:=hcell p (by omega);have q1:=hcell (p+1) (by omega);have q2:=hcell (p+2) (by omega);have s0:=hB.2.1 p;have s1:=hB.2.1 (p+1);have s2:=hB.2.1 (p+2);have h0:¬(p:Int)<0:=by omega
 have h1:¬(N:Int)<(p:Int)+3:=by omega
 have hk:key xs p=(xs.getD p 0*256+xs.getD (p+1) 0)*256+xs.getD (p+2) 0:=rfl;clear hcell hB;generalize key xs p=K at*;generalize xs.getD p 0=a0 at*;generalize xs.getD (p+1) 0=a1 at*;generalize xs.getD (p+2) 0=a2 at*;have k0:(0:Int)≤(p:Int):=by omega
 have k1:(p:Int)<(N:Int):=by omega
 have k2:(p:Int)+1<(N:Int):=by omega
 have k3:(p:Int)+2<(N:Int):=by omega
 go_enter Tryz.func138,Tryz.ntmps138;go_wp2_with fail;have e1:IntKind.i64.wrap ((p:Int)+1)=(p:Int)+1:=by rw[IntKind.wrap_i64];omega
 have e2:IntKind.i64.wrap ((p:Int)+2)=(p:Int)+2:=by rw[IntKind.wrap_i64];omega
 have e3:IntKind.u32.wrap (a0:Int)=(a0:Int):=by rw[IntKind.wrap_u32];omega
 have e4:IntKind.u32.wrap (a1:Int)=(a1:Int):=by rw[IntKind.wrap_u32];omega
 have e5:IntKind.u32.wrap (a2:Int)=(a2:Int):=by rw[IntKind.wrap_u32];omega
 have k4:(0:Int)≤(p:Int)+1:=by omega
 have k5:(0:Int)≤(p:Int)+2:=by omega
 have k6:((p:Int)+1).toNat=p+1:=by omega
 have k7:((p:Int)+2).toNat=p+2:=by omega
 have e6:IntKind.u32.wrap ((a0:Int)*65536)=(a0:Int)*256*256:=by rw[IntKind.wrap_u32];omega
 have e7:IntKind.u32.wrap ((a1:Int)*256)=(a1:Int)*256:=by rw[IntKind.wrap_u32];omega
 have e8:bits BinOp.or IntKind.u32 ((a0:Int)*256*256) ((a1:Int)*256)=((a0:Int)*256+(a1:Int))*256:=by
  rw[show((a0:Int)*256*256)=((a0*65536:Nat):Int)from by omega,show((a1:Int)*256)=((a1*256:Nat):Int)from by omega,or32,BitVec.toNat_or,BitVec.toNat_ofNat,BitVec.toNat_ofNat,Nat.mod_eq_of_lt (show a0*65536<2 ^32 by omega),Nat.mod_eq_of_lt (show a1*256<2 ^32 by omega)];have:=Nat.shiftLeft_add_eq_or_of_lt (i:=16) (b:=a1*256) (by omega) a0;rw[Nat.shiftLeft_eq]at this;rw[show a0*65536=a0*2 ^16 from rfl,←this];omega
 have e9:=be_val (a0*256+a1) a2 (by omega) s2;rw[show(((a0*256+a1:Nat):Int))=(a0:Int)*256+(a1:Int)from by omega]at e9;refine wp_still (by kernel_rfl) (by kernel_rfl) ?_
 repeat still_step
 refine wpStill_nil ?_;clear e1 e2 e3 e4 e5 e6 e7 e8 e9 k4 k5 k6 k7;go_wp2_with fail
 go_ret2
 exact⟨by rw[show((a0:Int)*256+(a1:Int))*256+(a2:Int)=(K:Int)from by omega];rfl,zxd (zxr _)⟩
def last16 (l:List Nat):List Nat:=l.drop (l.length-16)
def pls (xs:List Nat) (lo hi k:Nat):List Nat:=(List.range hi).filter fun p=>decide (lo≤p) && decide (p+3≤xs.length) && (key xs p==k)
theorem pls_mem {xs:List Nat} {lo hi k p:Nat}:p∈pls xs lo hi k↔p<hi∧lo≤p∧p+3≤xs.length∧key xs p=k:=by
 simp[pls,List.mem_filter,and_assoc]
theorem pls_snoc {xs:List Nat} {lo hi k:Nat} (h:lo≤hi):pls xs lo (hi+1) k=if hi+3≤xs.length∧key xs hi=k then pls xs lo hi k++[hi]else pls xs lo hi k:=by
 unfold pls;rw[List.range_succ,List.filter_append];by_cases hc:hi+3≤xs.length∧key xs hi=k
 ·rw[if_pos hc];simp[h,hc.1,hc.2]
 ·rw[if_neg hc]
  have:¬(decide (lo≤hi) && decide (hi+3≤xs.length) && (key xs hi==k))=true:=by
   simp only[zw48,decide_eq_true_eq,beq_iff_eq];exact fun h'=>hc ⟨h'.1.2,h'.2⟩
  have e:List.filter (fun p=>decide (lo≤p) && decide (p+3≤xs.length) && (key xs p==k)) [hi]=[]:=List.filter_eq_nil_iff.2 (fun a ha=>by rw[zw52.1 ha];exact this);rw[e,zw18]
theorem filter_lo {xs:List Nat} {lo k:Nat}:∀hi,lo<hi→pls xs lo hi k=if lo+3≤xs.length∧key xs lo=k then lo::pls xs (lo+1) hi k else pls xs (lo+1) hi k:=by
 intro hi
 induction hi with
 | zero=>intro h;omega
 | succ hi ih=>
  intro h;by_cases he:lo=hi
  ·subst he
   have e0:∀m,pls xs m m k=[]:=by
    intro m;apply List.eq_nil_iff_forall_not_mem.2;intro p hp;rw[pls_mem]at hp;omega
   rw[pls_snoc (zw8 _),e0,show pls xs (lo+1) (lo+1) k=[]from e0 _];simp
  ·rw[pls_snoc (by omega),pls_snoc (by omega),ih (by omega)]
   by_cases h1:lo+3≤xs.length∧key xs lo=k<;>by_cases h2:hi+3≤xs.length∧key xs hi=k<;>simp[h1,h2]
theorem last16_len (l:List Nat):(last16 l).length=min l.length 16:=by unfold last16;rw[zw1];omega
theorem last16_mem {l:List Nat} {p:Nat} (h:p∈last16 l):p∈l:=List.mem_of_mem_drop h
theorem last16_cons {z:Nat} {l:List Nat}:last16 (z::l)=if l.length<16 then z::l else last16 l:=by
 unfold last16;by_cases h:l.length<16
 ·rw[if_pos h,zw3,show l.length+1-16=0 from by omega,zw28]
 ·rw[if_neg h,zw3,show l.length+1-16=(l.length-16)+1 from by omega,List.drop_succ_cons]
theorem last16_few {l:List Nat} (h:l.length≤16):last16 l=l:=by unfold last16;rw[show l.length-16=0 from by omega,zw28]
theorem last16_snoc {z:Nat} {l:List Nat}:last16 (l++[z])=(if (last16 l).length=16 then(last16 l).tail else last16 l)++[z]:=by
 rw[last16_len];by_cases h:16≤l.length
 ·rw[if_pos (by omega)]
  unfold last16;rw[zw0,show l.length+[z].length-16=(l.length-16)+1 from by simp;omega,List.drop_append_of_le_length (by omega),List.tail_drop]
 ·rw[if_neg (by omega),last16_few (by rw[zw0];simp;omega),last16_few (by omega)]
def seen (xs:List Nat) (at_ k:Nat):List Nat:=last16 (pls xs (at_-4096) at_ k)
theorem seen_lo {xs:List Nat} {at_ k:Nat} (h:4096≤at_) (hl:at_≤xs.length) (hk:key xs (at_-4096)≠k):last16 (pls xs (at_+1-4096) at_ k)=seen xs at_ k:=by
 unfold seen;rw[filter_lo (lo:=at_-4096) at_ (by omega),if_neg (fun e=>hk e.2),show at_-4096+1=at_+1-4096 from by omega]
theorem seen_lo_few {xs:List Nat} {at_ k:Nat} (h:at_<4096):last16 (pls xs (at_+1-4096) at_ k)=seen xs at_ k:=by
 unfold seen;rw[show at_+1-4096=at_-4096 from by omega]
theorem seen_lo_here {xs:List Nat} {at_ k:Nat} (h:4096≤at_) (hl:at_≤xs.length) (hk:key xs (at_-4096)=k):
  (∃r,seen xs at_ k=(at_-4096)::r∧last16 (pls xs (at_+1-4096) at_ k)=r)∨(seen xs at_ k=last16 (pls xs (at_+1-4096) at_ k)∧∀z r,seen xs at_ k=z::r→z≠at_-4096):=by
 unfold seen;rw[filter_lo (lo:=at_-4096) at_ (by omega),if_pos ⟨by omega,hk⟩,show at_-4096+1=at_+1-4096 from by omega,last16_cons];by_cases hf:(pls xs (at_+1-4096) at_ k).length<16
 ·rw[if_pos hf];exact .inl ⟨_,rfl,last16_few (by omega)⟩
 ·rw[if_neg hf]
  refine .inr ⟨rfl,fun z r e=>?_⟩;have:z∈pls xs (at_+1-4096) at_ k:=last16_mem (by rw[e];exact List.mem_cons_self);rw[pls_mem]at this;omega
theorem seen_hi {xs:List Nat} {at_ k:Nat}:seen xs (at_+1) k=if at_+3≤xs.length∧key xs at_=k then(if (last16 (pls xs (at_+1-4096) at_ k)).length=16 then(last16 (pls xs (at_+1-4096) at_ k)).tail else last16 (pls xs (at_+1-4096) at_ k))++[at_]else last16 (pls xs (at_+1-4096) at_ k):=by
 unfold seen;rw[pls_snoc (by omega)];by_cases hc:at_+3≤xs.length∧key xs at_=k
 ·rw[if_pos hc,if_pos hc,last16_snoc]
 ·rw[if_neg hc,if_neg hc]
theorem seen_len (xs:List Nat) (at_ k:Nat):(seen xs at_ k).length≤16:=by unfold seen;rw[last16_len];omega
theorem seen_mem {xs:List Nat} {at_ k p:Nat} (h:p∈seen xs at_ k):p<at_∧at_≤p+4096∧p+3≤xs.length∧key xs p=k:=by
 have:=pls_mem.1 (last16_mem h);omega
def MatchPost (W:World) (g:Nat) (s:Value) (i:Nat) (out:List Nat) (R:VR) (n:Nat) (room:Int) (e:Ending) (w':World):Prop:=
 match R with
 | .short=>e= .returned (.tuple #[.slice none 0 0,.int .i64 3])∧Eff W w' g s i 3
 | .form=>e= .returned (.tuple #[.slice none 0 0,.int .i64 4])∧Eff W w' g s i 4
 | .ok v j=>
  if 4096≤v∨out.length≤v then e= .returned (.tuple #[.slice none 0 0,.int .i64 4])∧Eff W w' g s (i+j) 0
  else if room<n then e= .returned (.tuple #[.slice none 0 0,.int .i64 6])∧Eff W w' g s (i+j) 0
  else(∃u,e= .returned (.tuple #[u,.int .i64 0])∧Wire.Own W w' u (rep out (v+1) n))∧Eff W w' g s (i+j) 0
def CpRel (W:World) (g:Nat) (s:Value) (i:Nat) (out:List Nat) (back n:Nat) (ov iv:Value) (wr:World):Prop:=
 ∃q:Nat,q≤n∧iv= .int .i64 (q:Int)∧Wire.Own W wr ov (rep out back q)∧Eff W wr g s i 0
theorem match_ (W w:World) (g N c i n:Nat) (room:Int) (A:Option Addr) (xs out:List Nat) (v:Value) (hE:Eff W w g (.slice A N c) i 0) (hRB:RB w g A N c xs) (hi:i≤N) (hN:N≤1000000) (hg:g<W.heap.size) (hO:Wire.Own W w v out) (hol:out.length≤5000000000)
  (hos:∀c∈out,c<256) (hn:n≤1000) (hr1: -5000000000≤room) (hr2:room≤5000000000):
  Calls Tryz.prog 148 #[v,.pointer (some ⟨g,0,none⟩),.int .i64 (n:Int),.int .i64 room] w (MatchPost W g (.slice A N c) i out (vr 0 0 (xs.drop i)) n room):=by
 have HN:=zh (num g N c i A xs w hE.1 hRB.1 hi (by omega));have HE:=zh hE;have HO:=zh hO;obtain⟨OA,oc,rfl,hoc1,hoc2,hOA⟩:=own_shape hO;have HOA:=zh hOA;have HOS:=zh hos;obtain⟨i0,hi0,hz0,hz1,hz2⟩:=info_parts info8;have HI:=zh (And.intro hi0 (And.intro hz0 (And.intro hz1 hz2)));clear hi0 hz0 hz1 hz2;clear hE hRB hO hOA hos;generalize vr 0 0 (xs.drop i)=R at*;go_enter Tryz.func148,Tryz.ntmps148;go_wp2_with fail;refine HN.out.mono ?_;rintro e w1 ⟨z,j,err,rfl,hz,hE1,hm⟩;have HO1:=zh (own_eff HO.out hE1 hg);have HE1:=zh (HE.out.trans hE1);clear hE1
 cases R with
 | short=>
  obtain⟨rfl,rfl,rfl⟩:=hm;go_wp2_with fail;refine(err_any g _ (i+0) 3 w1 HE1.out.1).mono ?_;rintro e w2 ⟨rfl,rfl⟩;go_wp2_with fail;refine(err_any g _ (i+0) 3 w1 HE1.out.1).mono ?_;rintro e w2 ⟨rfl,rfl⟩;go_wp2_with fail
  go_ret2
  exact⟨rfl,HE1.out⟩
 | form=>
  obtain⟨rfl,rfl,rfl⟩:=hm;go_wp2_with fail;refine(err_any g _ (i+0) 4 w1 HE1.out.1).mono ?_;rintro e w2 ⟨rfl,rfl⟩;go_wp2_with fail;refine(err_any g _ (i+0) 4 w1 HE1.out.1).mono ?_;rintro e w2 ⟨rfl,rfl⟩;go_wp2_with fail
  go_ret2
  exact⟨rfl,HE1.out⟩
 | ok v' j'=>
  obtain⟨rfl,rfl,rfl⟩:=hm;have hw1:IntKind.u64.wrap (out.length:Int)=(out.length:Int):=by rw[IntKind.wrap_u64];omega
  go_wp2_with fail;refine(err_any g _ (i+j) 0 w1 HE1.out.1).mono ?_;rintro e w2 ⟨rfl,rfl⟩;by_cases h1:4096≤z
  ·have k1:(4096:Int)≤(z:Int):=by omega
   have HP:Hid (4096≤z∨out.length≤z):=zh (.inl h1);go_wp2_with fail
   go_ret2
   simp only[MatchPost];rw[if_pos HP.out];exact⟨rfl,HE1.out⟩
  ·have k1:¬(4096:Int)≤(z:Int):=by omega
   by_cases h2:out.length≤z
   ·have k2:(out.length:Int)≤(z:Int):=by omega
    have HP:Hid (4096≤z∨out.length≤z):=zh (.inr h2);go_wp2_with fail
    go_ret2
    simp only[MatchPost];rw[if_pos HP.out];exact⟨rfl,HE1.out⟩
   ·have k2:¬(out.length:Int)≤(z:Int):=by omega
    have HP:Hid (¬(4096≤z∨out.length≤z)):=zh (by omega);by_cases h3:room<(n:Int)
    ·have HR:=zh h3
     go_wp2_with fail
     go_ret2
     simp only[MatchPost];rw[if_neg HP.out,if_pos HR.out];exact⟨rfl,HE1.out⟩
    ·have HR:=zh h3
     go_wp2_with fail
     go_loopw [0,35] (fun ov iv wr=>CpRel W g (.slice A N c) (i+j) out (z+1) n ov iv wr) (fun _ iv _=>n-(intOf iv).toNat)
     case atStart=>exact⟨0,Nat.zero_le _,rfl,HO1.out,HE1.out⟩
     case round=>
      clear HE1 HO1;obtain⟨q,hq,rfl,hOr,hEr⟩:=hrel;have hcl:=rep_len out (z+1) q;have hcs:=rep_small HOS.out (z+1) q;obtain⟨A5,c5,rfl,hc51,hc52,hA5⟩:=own_shape hOr;have HOr:=zh hOr;have HEr:=zh hEr;clear hOr hEr;by_cases hlt:q<n
      ·have k3:(q:Int)<(n:Int):=by omega
       have HST:Hid (rep out (z+1) (q+1)=rep out (z+1) q++[(rep out (z+1) q).getD ((rep out (z+1) q).length-(z+1)) 0]):=zh rfl;generalize rep out (z+1) q=cur at*;obtain⟨go,rfl,hgo⟩:=hA5 (by omega);obtain⟨p,hp⟩:∃p:Nat,p=cur.length-(z+1):=⟨_,rfl⟩;rw[←hp]at HST;have hix:(cur.length:Int)-((z:Int)+1)=(p:Int):=by omega
       have hp1:p<cur.length:=by omega
       have p0:(0:Int)≤(p:Int):=by omega
       have p1:(p:Int)<(cur.length:Int):=by omega
       have cc:=(HOr.out.cellAt p (by omega)).trans (c8_at hp1);have hxb:=small_mem hcs p;have HP:=zh hp;have HCL:=zh hcl;have hcb:cur.length≤5000001000:=by omega
       clear hp hcl hcs hc51 hc52 hA5;generalize cur.getD p 0=x at*;have HEA:=zh (HEr.out.ext (zxa (zxr wr) (.cells #[.int .u8 (x:Int)] 5)));have HOA2:=zh (own_ext HOr.out (zxa (zxr wr) (.cells #[.int .u8 (x:Int)] 5)));have HSR:=zh (src_one wr x);go_wp2_with (at_builtin;refine wpList_app_own rfl (.tmp 37) (.tmp 45) 22 22 rfl 5 i0 (.int .u8 0) 1 1 Tryz.underlying22 HI.out.1 HI.out.2.1 HI.out.2.2.1 HI.out.2.2.2 rfl W.heap.size _ _ cur.length (c8 cur) rfl rfl HOA2.out 1 (c8 [x]) HSR.out (by unfold maxLen;omega) (by omega) (by have:=HEA.out.2.size;omega) ?_;intro v5 w5 hown5 hgr5;have HOW5:=zh hown5;have HE5:=zh (Com.eff_app HEA.out HOA2.out hg hgr5);clear hown5 hgr5)
       go_roundw
       case rel=>exact⟨q+1,by omega,by go_num,by rw[HST.out];unfold Wire.Own;rw[zw0,c8_app];exact HOW5.out,HE5.out⟩
       case measure=>simp[intOf];omega
      ·obtain rfl:q=n:=by omega
       generalize hcur:rep out (z+1) q=cur at*;have HCUR:=zh hcur;clear hcur hcl hcs hA5;go_wp2_with fail
       go_ret2
       simp only[MatchPost];rw[if_neg HP.out,if_neg (show ¬room<(q:Int)by omega)];exact⟨⟨_,rfl,by rw[HCUR.out];exact HOr.out⟩,HEr.out⟩
theorem unp_nil (M:Nat) (out:List Nat):unp M out []= .ok out:=by rw[unp]
theorem unp_high {M:Nat} {out cs:List Nat} {k:Nat} (h:128≤k):unp M out (k::cs)= .bad 4:=by rw[unp,if_pos h]
theorem unp_run6 {M:Nat} {out cs:List Nat} {k:Nat} (h:k<128) (h2:k%2=0) (h3:M<out.length+(k/2+1)):unp M out (k::cs)= .bad 6:=by rw[unp,if_neg (by omega),if_pos h2,if_pos h3]
theorem unp_run3 {M:Nat} {out cs:List Nat} {k:Nat} (h:k<128) (h2:k%2=0) (h3:¬M<out.length+(k/2+1)) (h4:cs.length<k/2+1):unp M out (k::cs)= .bad 3:=by rw[unp,if_neg (by omega),if_pos h2,if_neg h3,if_pos h4]
theorem unp_run {M:Nat} {out cs:List Nat} {k:Nat} (h:k<128) (h2:k%2=0) (h3:¬M<out.length+(k/2+1)) (h4:¬cs.length<k/2+1):unp M out (k::cs)=unp M (out++cs.take (k/2+1)) (cs.drop (k/2+1)):=by rw[unp,if_neg (by omega),if_pos h2,if_neg h3,if_neg h4]
theorem unp_short {M:Nat} {out cs:List Nat} {k:Nat} (h:k<128) (h2:¬k%2=0) (hv:vr 0 0 cs= .short):unp M out (k::cs)= .bad 3:=by rw[unp,if_neg (by omega),if_neg h2,hv]
theorem unp_form {M:Nat} {out cs:List Nat} {k:Nat} (h:k<128) (h2:¬k%2=0) (hv:vr 0 0 cs= .form):unp M out (k::cs)= .bad 4:=by rw[unp,if_neg (by omega),if_neg h2,hv]
theorem unp_far {M:Nat} {out cs:List Nat} {k v j:Nat} (h:k<128) (h2:¬k%2=0) (hv:vr 0 0 cs= .ok v j) (h3:4096≤v∨out.length≤v):unp M out (k::cs)= .bad 4:=by rw[unp,if_neg (by omega),if_neg h2,hv];simp only[if_pos h3]
theorem unp_match6 {M:Nat} {out cs:List Nat} {k v j:Nat} (h:k<128) (h2:¬k%2=0) (hv:vr 0 0 cs= .ok v j) (h3:¬(4096≤v∨out.length≤v)) (h4:M<out.length+(k/2+3)):unp M out (k::cs)= .bad 6:=by rw[unp,if_neg (by omega),if_neg h2,hv];simp only[if_neg h3,if_pos h4]
theorem unp_match {M:Nat} {out cs:List Nat} {k v j:Nat} (h:k<128) (h2:¬k%2=0) (hv:vr 0 0 cs= .ok v j) (h3:¬(4096≤v∨out.length≤v)) (h4:¬M<out.length+(k/2+3)):unp M out (k::cs)=unp M (rep out (v+1) (k/2+3)) (cs.drop j):=by
 conv=>lhs;rw[unp]
 rw[if_neg (by omega),if_neg h2,hv];simp only[if_neg h3,if_neg h4]
theorem eff_old' {a W w':World} {g i:Nat} {s:Value} {e:Int} (h:Ext a W) (k:Eff W w' g s i e) (hg:a.heap.size≤g):Ext a w':=ext_grown h k.2 (fun j hj=>by obtain rfl:=zw13 hj;exact hg)
def UPost (w:World) (R:UR) (e:Ending) (w':World):Prop:=
 Ext w w'∧match R with
 | .bad f=>e= .returned (.tuple #[.slice none 0 0,.int .i64 f])∧f≠0
 | .ok zs=>(∃v,e= .returned (.tuple #[v,.int .i64 0])∧Wire.Own w w' v zs)∧∀c∈zs,c<256
def URel (W:World) (g N c M:Nat) (A:Option Addr) (xs:List Nat) (R:UR) (ov:Value) (wr:World):Prop:=
 ∃(i:Nat) (out:List Nat),i≤N∧Wire.Own W wr ov out∧Eff W wr g (.slice A N c) i 0∧unp M out (xs.drop i)=R∧out.length≤M∧∀c∈out,c<256
theorem unpack (B:Option Addr) (N cd:Nat) (xs:List Nat) (most:Int) (w:World) (hB:Bs w B N xs) (hnil:B=none→N=0∧cd=0) (hN:N≤1000000) (hm1: -9223372036854775808≤most) (hm2:most≤4000000000):
  Calls Tryz.prog 131 #[.slice B N cd,.int .i64 most] w (UPost w (unp most.toNat [] xs)):=by
 have HB:=zh hB;have HNIL:=zh hnil;have hxl:xs.length=N:=hB.1;have hxs:=mem_small hB.2.1;have HXL:=zh hxl;have HXS:=zh hxs;clear hB hnil hxl hxs;obtain⟨R,hR⟩:∃R,R=unp most.toNat [] xs:=⟨_,rfl⟩;rw[←hR];have HR:=zh hR;clear hR;obtain⟨M,hM⟩:∃M,M=most.toNat:=⟨_,rfl⟩;rw[←hM]at HR;have hM1:M≤4000000000:=by omega
 have hM2:max most 0=(M:Int):=by omega
 have HM:=zh hM;have HM2:=zh hM2;clear hM hM2;go_enter Tryz.func131,Tryz.ntmps131;go_wp2_with fail;refine(of B N cd xs w HB.out HNIL.out (by omega)).mono ?_;rintro e w1 ⟨g,A1,c1,rfl,hg,hr,hrb,hE1⟩;have hgl:g<w1.heap.size:=Blk.lt hr;have HRD:=zh hr;have HRB:=zh hrb;have HE1:=zh hE1;clear hr hrb hE1;go_wp2_with fail
 go_loopw [7] (fun ov wr=>URel w1 g N c1 M A1 xs R ov wr) (fun _ wr=>N-(intOf ((wr.cell? ⟨g,1,none⟩).getD undef)).toNat)
 case atStart=>exact⟨0,[],Nat.zero_le _,World.ownsRow_nil _ _ _ _,⟨HRD.out,gb_refl _ _⟩,by rw[zw28,HR.out],Nat.zero_le _,fun c hc=>by cases hc⟩
 case round=>
  obtain⟨i,out,hi,hO,hE,hU,hol,hos⟩:=hrel;have hm:N-(intOf ((wr.cell? ⟨g,1,none⟩).getD undef)).toNat=N-i:=by rw[hE.1.cells.2.1];simp[intOf]
  rw[hm];obtain⟨OA,oc,rfl,hoc1,hoc2,hOA⟩:=own_shape hO;have HO:=zh hO;have HE:=zh hE;have HU:=zh hU;have HOS:=zh hos;clear hO hE hU hos hm hOA hoc1 hoc2;go_wp2_with fail;refine(left_any g N c1 A1 i 0 wr HE.out.1 hi (by omega)).mono ?_;rintro e w2 ⟨rfl,b2⟩;have HE2:=zh (HE.out.ext b2);have HO2:=zh (own_ext HO.out b2);clear b2;obtain⟨L,hL⟩:∃L:Nat,L=N-i:=⟨_,rfl⟩;rw[←hL];have HL:=zh hL;clear hL;by_cases hiN:i=N
  ·obtain rfl:L=0:=by rw[HL.out];omega
   have HRR:Hid (R= .ok out):=zh (by rw[←HU.out,hiN,List.drop_of_length_le (by rw[HXL.out];exact zw8 _),unp_nil]);clear hiN;go_wp2_with fail
   go_ret2
   exact⟨eff_old' HE1.out HE2.out hg,by rw[HRR.out];exact⟨⟨_,rfl,Com.own_low HO2.out HE1.out.size⟩,HOS.out⟩⟩
  ·have hgt:0<L:=by rw[HL.out];omega
   have hil:i<N:=by omega
   clear hiN;have hxd:xs.drop i=xs.getD i 0::xs.drop (i+1):=by
    rw[zw20 (by rw[HXL.out];exact hil),zw5,zw6 (by rw[HXL.out];exact hil)];rfl
   have hkb:=small_mem HXS.out i;have HXD:=zh hxd;clear hxd;by_cases hneg:most<0
   ·have hnm:¬0≤most:=by omega
    go_wp2_with fail;refine(Wire.bytes g N c1 i 1 (by omega) (by omega) A1 xs w2 HE2.out.1 (HRB.out.eff HE2.out.2) hi (by omega)).mono ?_;rintro e w3 (⟨h0,_,_⟩ | ⟨h1,h2,rfl,hE3⟩ | ⟨h1,h2,⟨v1,rfl,A3,c3,rfl,q1,q2,q3,hB3⟩,hE3⟩)
    ·omega
    ·rw[zw1,HXL.out]at h2;omega
    ·generalize hrm:(-(out.length:Int))=room at*
     have hr1:(room:Int)=(M:Int)-(out.length:Int):=by have:=HM.out;omega
     have hr2: -5000000000≤room:=by have:=hol;omega
     have hr3:room≤5000000000:=by omega
     have hrmM:room<0∨0≤room:=by omega
     have HR1:=zh hr1;clear hr1 hrm hrmM;have e1:(xs.drop i).take (Int.toNat 1)=[xs.getD i 0]:=by rw[HXD.out];rfl
     rw[e1]at hB3 ⊢;obtain⟨b3,o3,rfl,_,hcell⟩:=hB3.2.2 (by simp);have cc:=hcell 0 (by simp);have HO3:=zh (own_eff HO2.out hE3 hgl);have HE3:Hid (Eff w1 w3 g (.slice A1 N c1) (i+1) 0):=zh (HE2.out.trans hE3);have hcl:(xs.drop (i+1)).length=N-(i+1):=by rw[zw1,HXL.out]
     have HCL:=zh hcl;have hU2:=HU.out;rw[HXD.out]at hU2;have HU2:=zh hU2;have HRB3:=zh (HRB.out.eff HE3.out.2);rw[List.getD_cons_zero,Nat.add_zero]at cc;clear hE3 hB3 q1 q2 q3 hcell h1 h2 e1 hcl hU2;generalize xs.getD i 0=k at*;obtain⟨cs,hcs⟩:∃cs,cs=xs.drop (i+1):=⟨_,rfl⟩;rw[←hcs]at HU2 HCL HXD;have HCS:=zh hcs;clear hcs;by_cases hk:128≤k
     ·have hk1:(128:Int)≤(k:Int):=by omega
      have HRR:Hid (R= .bad 4):=zh (by rw[←HU2.out,unp_high hk]);go_wp2_with fail
      go_ret2
      exact⟨eff_old' HE1.out HE3.out hg,by rw[HRR.out];exact⟨rfl,by decide⟩⟩
     ·have hk1:¬(128:Int)≤(k:Int):=by omega
      by_cases hev:k%2=0
      ·have hk2:(((k:Int)%2)==0)=true:=beq_iff_eq.2 (by omega)
       go_wp2_with fail;rw[show((k:Int)/2+1)=((k/2+1:Nat):Int)from by omega];refine(run w1 w3 g N c1 (i+1) (k/2+1) room A1 xs out _ HE3.out HRB3.out (by omega) hN hgl HO3.out (by omega) (by omega) hr2 hr3).mono ?_;rintro e w4 (⟨h1,rfl,rfl⟩ | ⟨h1,h2,⟨u,rfl⟩,hE4⟩ | ⟨h1,h2,⟨u,rfl,hO4⟩,hE4⟩)
       ·have hlt:M<out.length+(k/2+1):=by have:=HR1.out;omega
        have HRR:Hid (R= .bad 6):=zh (by rw[←HU2.out];exact unp_run6 (by omega) hev hlt);clear h1 hlt;go_wp2_with fail
        go_ret2
        exact⟨eff_old' HE1.out HE3.out hg,by rw[HRR.out];exact⟨rfl,by decide⟩⟩
       ·have hlt:¬M<out.length+(k/2+1):=by have:=HR1.out;omega
        rw[←HCS.out]at h2;have HRR:Hid (R= .bad 3):=zh (by rw[←HU2.out];exact unp_run3 (by omega) hev hlt h2);have HE4:=zh hE4;clear h1 hlt h2 hE4;go_wp2_with fail
        go_ret2
        exact⟨eff_old' HE1.out HE4.out hg,by rw[HRR.out];exact⟨rfl,by decide⟩⟩
       ·have hlt:¬M<out.length+(k/2+1):=by have:=HR1.out;omega
        have hin:i+1+(k/2+1)≤N:=by rw[←HCS.out,HCL.out]at h2;omega
        rw[←HCS.out]at h2 hO4;have hol2:(out++cs.take (k/2+1)).length≤M:=by rw[zw0,zw2];omega
        have HOS2:Hid (∀c∈out++cs.take (k/2+1),c<256):=zh (fun c hc=>by
         rcases zw16.1 hc with hc | hc
         ·exact HOS.out c hc
         ·exact HXS.out c (List.mem_of_mem_drop (i:=i+1) (by rw[←HCS.out];exact List.mem_of_mem_take hc)))
        have HRR:Hid (unp M (out++cs.take (k/2+1)) (xs.drop (i+1+(k/2+1)))=R):=zh (by rw[←HU2.out,unp_run (by omega) hev hlt (by omega),HCS.out,zw31]);have hmm:N-(intOf ((w4.cell? ⟨g,1,none⟩).getD undef)).toNat=N-(i+1+(k/2+1)):=by rw[hE4.1.cells.2.1];simp[intOf];omega
        have HE4:=zh hE4;have HO4:=zh hO4;have HMM:=zh hmm;clear hE4 hO4 hmm h1 h2 hlt;go_wp2_with fail
        go_roundw
        case rel=>exact⟨i+1+(k/2+1),out++cs.take (k/2+1),by omega,HO4.out,HE4.out,HRR.out,hol2,HOS2.out⟩
        case measure=>rw[HMM.out];omega
      ·have hk2:(((k:Int)%2)==0)=false:=zw12.2 (by omega)
       go_wp2_with fail;rw[show(((k:Int)-1)/2+3)=((k/2+3:Nat):Int)from by omega];refine(match_ w1 w3 g N c1 (i+1) (k/2+3) room A1 xs out _ HE3.out HRB3.out (by omega) hN hgl HO3.out (by omega) HOS.out (by omega) hr2 hr3).mono ?_;intro e w4 hm;rw[←HCS.out]at hm
       cases hv:vr 0 0 cs with
       | short=>
        rw[hv]at hm;obtain⟨rfl,hE4⟩:=hm;have HRR:Hid (R= .bad 3):=zh (by rw[←HU2.out];exact unp_short (by omega) hev hv);have HE4:=zh hE4;clear hv hE4;go_wp2_with fail
        go_ret2
        exact⟨eff_old' HE1.out HE4.out hg,by rw[HRR.out];exact⟨rfl,by decide⟩⟩
       | form=>
        rw[hv]at hm;obtain⟨rfl,hE4⟩:=hm;have HRR:Hid (R= .bad 4):=zh (by rw[←HU2.out];exact unp_form (by omega) hev hv);have HE4:=zh hE4;clear hv hE4;go_wp2_with fail
        go_ret2
        exact⟨eff_old' HE1.out HE4.out hg,by rw[HRR.out];exact⟨rfl,by decide⟩⟩
       | ok v j=>
        rw[hv]at hm;simp only[MatchPost]at hm;have hvk:=vr_ok (fun c hc=>HXS.out c (List.mem_of_mem_drop (i:=i+1) (by rw[←HCS.out];exact hc))) hv;have hj1:=hvk.2.2.2;rw[HCL.out]at hj1;by_cases hfar:4096≤v∨out.length≤v
        ·rw[if_pos hfar]at hm
         obtain⟨rfl,hE4⟩:=hm;have HRR:Hid (R= .bad 4):=zh (by rw[←HU2.out];exact unp_far (by omega) hev hv hfar);have HE4:=zh hE4;clear hv hvk hE4 hfar;go_wp2_with fail
         go_ret2
         exact⟨eff_old' HE1.out HE4.out hg,by rw[HRR.out];exact⟨rfl,by decide⟩⟩
        ·rw[if_neg hfar]at hm
         by_cases hroom:room<((k/2+3:Nat):Int)
         ·rw[if_pos hroom]at hm
          obtain⟨rfl,hE4⟩:=hm;have hlt:M<out.length+(k/2+3):=by have:=HR1.out;omega
          have HRR:Hid (R= .bad 6):=zh (by rw[←HU2.out];exact unp_match6 (by omega) hev hv hfar hlt);have HE4:=zh hE4;clear hv hvk hE4 hfar hlt hroom;go_wp2_with fail
          go_ret2
          exact⟨eff_old' HE1.out HE4.out hg,by rw[HRR.out];exact⟨rfl,by decide⟩⟩
         ·rw[if_neg hroom]at hm
          obtain⟨⟨u,rfl,hO4⟩,hE4⟩:=hm;have hlt:¬M<out.length+(k/2+3):=by have:=HR1.out;omega
          have hin:i+1+j≤N:=by omega
          have hol2:(rep out (v+1) (k/2+3)).length≤M:=by rw[rep_len];omega
          have HOS2:=zh (rep_small HOS.out (v+1) (k/2+3));have HRR:Hid (unp M (rep out (v+1) (k/2+3)) (xs.drop (i+1+j))=R):=zh (by rw[←HU2.out,unp_match (by omega) hev hv hfar hlt,HCS.out,zw31]);have hmm:N-(intOf ((w4.cell? ⟨g,1,none⟩).getD undef)).toNat=N-(i+1+j):=by rw[hE4.1.cells.2.1];simp[intOf];omega
          have HE4:=zh hE4;have HO4:=zh hO4;have HMM:=zh hmm;clear hE4 hO4 hmm hv hvk hfar hlt hroom;go_wp2_with fail
          go_roundw
          case rel=>exact⟨i+1+j,rep out (v+1) (k/2+3),by omega,HO4.out,HE4.out,HRR.out,hol2,HOS2.out⟩
          case measure=>rw[HMM.out];omega
   ·have hnm:0≤most:=by omega
    go_wp2_with fail;refine(Wire.bytes g N c1 i 1 (by omega) (by omega) A1 xs w2 HE2.out.1 (HRB.out.eff HE2.out.2) hi (by omega)).mono ?_;rintro e w3 (⟨h0,_,_⟩ | ⟨h1,h2,rfl,hE3⟩ | ⟨h1,h2,⟨v1,rfl,A3,c3,rfl,q1,q2,q3,hB3⟩,hE3⟩)
    ·omega
    ·rw[zw1,HXL.out]at h2;omega
    ·generalize hrm:(most-(out.length:Int))=room at*
     have hr1:(room:Int)=(M:Int)-(out.length:Int):=by have:=HM.out;omega
     have hr2: -5000000000≤room:=by have:=hol;omega
     have hr3:room≤5000000000:=by omega
     have hrmM:room<0∨0≤room:=by omega
     have HR1:=zh hr1;clear hr1 hrm hrmM;have e1:(xs.drop i).take (Int.toNat 1)=[xs.getD i 0]:=by rw[HXD.out];rfl
     rw[e1]at hB3 ⊢;obtain⟨b3,o3,rfl,_,hcell⟩:=hB3.2.2 (by simp);have cc:=hcell 0 (by simp);have HO3:=zh (own_eff HO2.out hE3 hgl);have HE3:Hid (Eff w1 w3 g (.slice A1 N c1) (i+1) 0):=zh (HE2.out.trans hE3);have hcl:(xs.drop (i+1)).length=N-(i+1):=by rw[zw1,HXL.out]
     have HCL:=zh hcl;have hU2:=HU.out;rw[HXD.out]at hU2;have HU2:=zh hU2;have HRB3:=zh (HRB.out.eff HE3.out.2);rw[List.getD_cons_zero,Nat.add_zero]at cc;clear hE3 hB3 q1 q2 q3 hcell h1 h2 e1 hcl hU2;generalize xs.getD i 0=k at*;obtain⟨cs,hcs⟩:∃cs,cs=xs.drop (i+1):=⟨_,rfl⟩;rw[←hcs]at HU2 HCL HXD;have HCS:=zh hcs;clear hcs;by_cases hk:128≤k
     ·have hk1:(128:Int)≤(k:Int):=by omega
      have HRR:Hid (R= .bad 4):=zh (by rw[←HU2.out,unp_high hk]);go_wp2_with fail
      go_ret2
      exact⟨eff_old' HE1.out HE3.out hg,by rw[HRR.out];exact⟨rfl,by decide⟩⟩
     ·have hk1:¬(128:Int)≤(k:Int):=by omega
      by_cases hev:k%2=0
      ·have hk2:(((k:Int)%2)==0)=true:=beq_iff_eq.2 (by omega)
       go_wp2_with fail;rw[show((k:Int)/2+1)=((k/2+1:Nat):Int)from by omega];refine(run w1 w3 g N c1 (i+1) (k/2+1) room A1 xs out _ HE3.out HRB3.out (by omega) hN hgl HO3.out (by omega) (by omega) hr2 hr3).mono ?_;rintro e w4 (⟨h1,rfl,rfl⟩ | ⟨h1,h2,⟨u,rfl⟩,hE4⟩ | ⟨h1,h2,⟨u,rfl,hO4⟩,hE4⟩)
       ·have hlt:M<out.length+(k/2+1):=by have:=HR1.out;omega
        have HRR:Hid (R= .bad 6):=zh (by rw[←HU2.out];exact unp_run6 (by omega) hev hlt);clear h1 hlt;go_wp2_with fail
        go_ret2
        exact⟨eff_old' HE1.out HE3.out hg,by rw[HRR.out];exact⟨rfl,by decide⟩⟩
       ·have hlt:¬M<out.length+(k/2+1):=by have:=HR1.out;omega
        rw[←HCS.out]at h2;have HRR:Hid (R= .bad 3):=zh (by rw[←HU2.out];exact unp_run3 (by omega) hev hlt h2);have HE4:=zh hE4;clear h1 hlt h2 hE4;go_wp2_with fail
        go_ret2
        exact⟨eff_old' HE1.out HE4.out hg,by rw[HRR.out];exact⟨rfl,by decide⟩⟩
       ·have hlt:¬M<out.length+(k/2+1):=by have:=HR1.out;omega
        have hin:i+1+(k/2+1)≤N:=by rw[←HCS.out,HCL.out]at h2;omega
        rw[←HCS.out]at h2 hO4;have hol2:(out++cs.take (k/2+1)).length≤M:=by rw[zw0,zw2];omega
        have HOS2:Hid (∀c∈out++cs.take (k/2+1),c<256):=zh (fun c hc=>by
         rcases zw16.1 hc with hc | hc
         ·exact HOS.out c hc
         ·exact HXS.out c (List.mem_of_mem_drop (i:=i+1) (by rw[←HCS.out];exact List.mem_of_mem_take hc)))
        have HRR:Hid (unp M (out++cs.take (k/2+1)) (xs.drop (i+1+(k/2+1)))=R):=zh (by rw[←HU2.out,unp_run (by omega) hev hlt (by omega),HCS.out,zw31]);have hmm:N-(intOf ((w4.cell? ⟨g,1,none⟩).getD undef)).toNat=N-(i+1+(k/2+1)):=by rw[hE4.1.cells.2.1];simp[intOf];omega
        have HE4:=zh hE4;have HO4:=zh hO4;have HMM:=zh hmm;clear hE4 hO4 hmm h1 h2 hlt;go_wp2_with fail
        go_roundw
        case rel=>exact⟨i+1+(k/2+1),out++cs.take (k/2+1),by omega,HO4.out,HE4.out,HRR.out,hol2,HOS2.out⟩
        case measure=>rw[HMM.out];omega
      ·have hk2:(((k:Int)%2)==0)=false:=zw12.2 (by omega)
       go_wp2_with fail;rw[show(((k:Int)-1)/2+3)=((k/2+3:Nat):Int)from by omega];refine(match_ w1 w3 g N c1 (i+1) (k/2+3) room A1 xs out _ HE3.out HRB3.out (by omega) hN hgl HO3.out (by omega) HOS.out (by omega) hr2 hr3).mono ?_;intro e w4 hm;rw[←HCS.out]at hm
       cases hv:vr 0 0 cs with
       | short=>
        rw[hv]at hm;obtain⟨rfl,hE4⟩:=hm;have HRR:Hid (R= .bad 3):=zh (by rw[←HU2.out];exact unp_short (by omega) hev hv);have HE4:=zh hE4;clear hv hE4;go_wp2_with fail
        go_ret2
        exact⟨eff_old' HE1.out HE4.out hg,by rw[HRR.out];exact⟨rfl,by decide⟩⟩
       | form=>
        rw[hv]at hm;obtain⟨rfl,hE4⟩:=hm;have HRR:Hid (R= .bad 4):=zh (by rw[←HU2.out];exact unp_form (by omega) hev hv);have HE4:=zh hE4;clear hv hE4;go_wp2_with fail
        go_ret2
        exact⟨eff_old' HE1.out HE4.out hg,by rw[HRR.out];exact⟨rfl,by decide⟩⟩
       | ok v j=>
        rw[hv]at hm;simp only[MatchPost]at hm;have hvk:=vr_ok (fun c hc=>HXS.out c (List.mem_of_mem_drop (i:=i+1) (by rw[←HCS.out];exact hc))) hv;have hj1:=hvk.2.2.2;rw[HCL.out]at hj1;by_cases hfar:4096≤v∨out.length≤v
        ·rw[if_pos hfar]at hm
         obtain⟨rfl,hE4⟩:=hm;have HRR:Hid (R= .bad 4):=zh (by rw[←HU2.out];exact unp_far (by omega) hev hv hfar);have HE4:=zh hE4;clear hv hvk hE4 hfar;go_wp2_with fail
         go_ret2
         exact⟨eff_old' HE1.out HE4.out hg,by rw[HRR.out];exact⟨rfl,by decide⟩⟩
        ·rw[if_neg hfar]at hm
         by_cases hroom:room<((k/2+3:Nat):Int)
         ·rw[if_pos hroom]at hm
          obtain⟨rfl,hE4⟩:=hm;have hlt:M<out.length+(k/2+3):=by have:=HR1.out;omega
          have HRR:Hid (R= .bad 6):=zh (by rw[←HU2.out];exact unp_match6 (by omega) hev hv hfar hlt);have HE4:=zh hE4;clear hv hvk hE4 hfar hlt hroom;go_wp2_with fail
          go_ret2
          exact⟨eff_old' HE1.out HE4.out hg,by rw[HRR.out];exact⟨rfl,by decide⟩⟩
         ·rw[if_neg hroom]at hm
          obtain⟨⟨u,rfl,hO4⟩,hE4⟩:=hm;have hlt:¬M<out.length+(k/2+3):=by have:=HR1.out;omega
          have hin:i+1+j≤N:=by omega
          have hol2:(rep out (v+1) (k/2+3)).length≤M:=by rw[rep_len];omega
          have HOS2:=zh (rep_small HOS.out (v+1) (k/2+3));have HRR:Hid (unp M (rep out (v+1) (k/2+3)) (xs.drop (i+1+j))=R):=zh (by rw[←HU2.out,unp_match (by omega) hev hv hfar hlt,HCS.out,zw31]);have hmm:N-(intOf ((w4.cell? ⟨g,1,none⟩).getD undef)).toNat=N-(i+1+j):=by rw[hE4.1.cells.2.1];simp[intOf];omega
          have HE4:=zh hE4;have HO4:=zh hO4;have HMM:=zh hmm;clear hE4 hO4 hmm hv hvk hfar hlt hroom;go_wp2_with fail
          go_roundw
          case rel=>exact⟨i+1+j,rep out (v+1) (k/2+3),by omega,HO4.out,HE4.out,HRR.out,hol2,HOS2.out⟩
          case measure=>rw[HMM.out];omega
end Go.Proofs.YtbopblbhjcemaaaGreatDoor.Lz
