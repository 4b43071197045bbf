
import Derived.Test.YtidnboeihkeljaaGreatDoorF02
import Derived.Lib.SlBytesConst
import Derived.Laws.Rows
import Derived.Laws.Tables
import Derived.Laws.IdiomStrings
import Derived.Deep.RegionWith
set_option maxHeartbeats 16000000
set_option maxRecDepth 100000
set_option linter.all false
open Go.ChangeShapes Go.WideShapes Go.ChangeAt Go.RowKit
namespace Go.Proofs.YtidnboeihkeljaaGreatDoor.Wire
theorem bs_new (w:World) (t:TypeId) (fr:Nat × Nat) (xs:List Nat) (hb:∀j,xs.getD j 0<256):Bs (w.alloc (.cells ((xs.map fun x=>Value.int .u8 (x:Nat)).toArray) t fr)) (some ⟨w.heap.size,0,none⟩) xs.length xs:=
 ⟨rfl,hb,fun _=>⟨w.heap.size,0,rfl,by simp,fun j hj=>by
  rw[Nat.zero_add,World.cell?_alloc_mark];simp[zw5,zw6 hj]⟩⟩
def GotF (base:Nat) (w':World) (ys:List Nat) (v:Value):Prop:=∃(A':Option Addr) (c':Nat),v= .slice A' ys.length c'∧ys.length≤c'∧c'≤9223372036854775807∧(A'=none→ys.length=0∧c'=0)∧Bs w' A' ys.length ys∧(0<ys.length→∀a,A'=some a→base≤a.block)
def BPhiF (base:Nat) (at_:Nat) (rest:List Nat) (m:Int) (v:Value) (a':Nat) (err:Int) (w':World):Prop:=
 (m<0∧err=4)∨(0≤m∧(rest.length:Int)<m∧err=3)∨(0≤m∧m≤(rest.length:Int)∧GotF base w' (rest.take m.toNat) v∧a'=at_+m.toNat∧err=0)
theorem bytesF1 (base:Nat) (pb mb rb g n c at_:Nat) (m:Int) (A:Option Addr) (xs:List Nat) (w:World) (hp:w.cell? ⟨pb,0,none⟩=some (.pointer (some ⟨g,0,none⟩))) (hbase:base≤w.heap.size) (hr:w.cell? ⟨rb,0,none⟩=some (.pointer (some ⟨g,0,none⟩))) (hmo:w.cell? ⟨mb,0,none⟩=some (.int .i64 m))
  (hm1: -9223372036854775808≤m) (hm2:m≤9223372036854775807)
  (h:Rdr w g (.slice A n c) at_ 0) (hB:RB w g A n c xs) (hat:at_≤n) (hn:n≤4000000000):
  Calls Tryz.prog 148 #[.func (.func 152) #[] #[.pointer (some ⟨pb,0,none⟩)],.pointer (some ⟨mb,0,none⟩),.pointer (some ⟨rb,0,none⟩)] w (CP w g (.slice A n c) (BPhiF base at_ (xs.drop at_) m)):=by
 have hxl:(xs.drop at_).length=n-at_:=by rw[zw1,hB.1.1]
 by_cases hneg:m<0
 ·have HP:=zh hp;have H:=zh h
  have HF:Hid (∀v a' w',BPhiF base at_ (xs.drop at_) m v a' 4 w'):=zh (fun _ _ _=> .inl ⟨hneg,rfl⟩);clear hp h hB hxl hm2;generalize BPhiF base at_ (xs.drop at_) m=Φ at*;go_enter Tryz.func148,Tryz.ntmps148;go_wp2_with fail;refine(fail0_71 _ pb g _ at_ 4 HP.out H.out).mono ?_;rintro e w3 ⟨rfl,hE3⟩;have HE3:=zh hE3;clear hE3;go_wp2_with fail;go_ret;exact⟨_,_,4,rfl,HE3.out,HF.out _ _ _⟩
 ·obtain⟨k,rfl⟩:∃k:Nat,m=(k:Int):=⟨m.toNat,by omega⟩
  have hk1:¬(k:Int)<0:=hneg;by_cases hsh:n-at_<k
  ·have HC:=zh (piece_short_71 pb g n c at_ k A xs w hp h hat hn hsh)
   have HF:Hid (∀v a' w',BPhiF base at_ (xs.drop at_) (k:Int) v a' 3 w'):=zh (fun _ _ _=> .inr (.inl ⟨by omega,by omega,rfl⟩));clear hp h hB hxl;generalize BPhiF base at_ (xs.drop at_) (k:Int)=Φ at*;go_enter Tryz.func148,Tryz.ntmps148;go_wp2_with fail;refine(HC.out).mono ?_;rintro e w3 ⟨rfl,hE3⟩;have HE3:=zh hE3;clear hE3;go_wp2_with fail;refine(clone none 0 0 [] w3 (Bs.none _ _) (fun _=>⟨rfl,rfl⟩) (by omega)).mono ?_;rintro e w4 ⟨A',c',rfl,_,_,_,_,_,hE⟩;have HE4:=zh hE;clear hE;go_wp2_with fail;go_ret;exact⟨_,_,3,rfl,HE3.out.ext HE4.out,HF.out _ _ _⟩
  ·have HC:=zh (piece_ok g n c at_ k A (.func (.func 152) #[] #[.pointer (some ⟨pb,0,none⟩)]) xs w h hB (by omega) hn)
   have HL:Hid (((xs.drop at_).take k).length=k):=zh (by rw[zw2];omega);have HF:Hid (∀v w',GotF base w' ((xs.drop at_).take k) v→BPhiF base at_ (xs.drop at_) (k:Int) v (at_+k) 0 w'):=zh (fun _ _ hg=> .inr (.inr ⟨by omega,by omega,by rw[zw35];exact hg,by rw[zw35],rfl⟩));clear hp h hB hxl;generalize BPhiF base at_ (xs.drop at_) (k:Int)=Φ at*;generalize (xs.drop at_).take k=ys at*;go_enter Tryz.func148,Tryz.ntmps148;go_wp2_with fail;refine(HC.out).mono ?_;rintro e w3 ⟨A',c',rfl,hc1,hc2,hc3,hB3,hE3⟩;have HB3:=zh hB3;have HC3:=zh hc3;have HE3:=zh hE3;clear hE3 hB3 hc3;go_wp2_with fail;refine(clone A' k c' ys w3 HB3.out HC3.out (by omega)).mono ?_;rintro e w4 ⟨A4,c4,rfl,h1,h2,h3,h4,hB4,hE⟩;have HE4:=zh hE;have HB4:=zh hB4;have H3:=zh h3;have H4:=zh h4;clear hE hB4 h3 h4;go_wp2_with fail;go_ret;have hg:GotF base w4 ys (.slice A4 k c4):=⟨A4,c4,by rw[HL.out],by rw[HL.out];exact h1,h2,by rw[HL.out];exact H3.out,by rw[HL.out];exact HB4.out,by rw[HL.out];exact fun hp a ha=>zw10 (zw10 hbase HE3.out.2.size) (H4.out hp a ha)⟩;exact⟨_,_,0,rfl,HE3.out.ext HE4.out,HF.out _ _ hg⟩
def BPostF (w:World) (g:Nat) (s:Value) (at_:Nat) (rest:List Nat) (m:Int) (e:Ending) (w':World):Prop:=
 (m<0∧e= .returned (.slice none 0 0)∧Eff w w' g s at_ 4)∨(0≤m∧(rest.length:Int)<m∧e= .returned (.slice none 0 0)∧Eff w w' g s at_ 3)∨
 (0≤m∧m≤(rest.length:Int)∧(∃v,e= .returned v∧GotF w.heap.size w' (rest.take m.toNat) v)∧Eff w w' g s (at_+m.toNat) 0)
theorem bpostF_of {w w':World} {g:Nat} {s:Value} {at_:Nat} {rest:List Nat} {m:Int} {e:Ending} (h:RP w g s (.slice none 0 0) at_ (BPhiF w.heap.size at_ rest m) e w'):BPostF w g s at_ rest m e w':=by
 rcases h with ⟨v,a',rfl,hE,⟨_,h2⟩ | ⟨_,_,h2⟩ | ⟨h1,h2,h3,rfl,_⟩⟩ | ⟨err,hne,rfl,hE,v0,a0,w0,⟨h1,h2⟩ | ⟨h1,h2,h3⟩ | ⟨_,_,_,_,h2⟩⟩
 ·exact absurd h2 (by decide)
 ·exact absurd h2 (by decide)
 ·exact .inr (.inr ⟨h1,h2,⟨v,rfl,h3⟩,hE⟩)
 ·subst h2;exact .inl ⟨h1,rfl,hE⟩
 ·subst h3;exact .inr (.inl ⟨h1,h2,rfl,hE⟩)
 ·exact absurd h2 hne
theorem bytesF (g n c at_:Nat) (m:Int) (hm1: -9223372036854775808≤m) (hm2:m≤9223372036854775807) (A:Option Addr) (xs:List Nat) (w:World) (h:Rdr w g (.slice A n c) at_ 0) (hB:RB w g A n c xs) (hat:at_≤n) (hn:n≤4000000000):
  Calls Tryz.prog 132 #[.pointer (some ⟨g,0,none⟩),.int .i64 m] w (BPostF w g (.slice A n c) at_ (xs.drop at_) m):=by
 have ha:=zxa (zxr w) (.cells #[.pointer (some ⟨g,0,none⟩)] 145);have hb:=zxa (zxr (w.alloc (.cells #[.pointer (some ⟨g,0,none⟩)] 145))) (.cells #[.int .i64 m] 3);have hc:=zxa (zxr ((w.alloc (.cells #[.pointer (some ⟨g,0,none⟩)] 145)).alloc (.cells #[.int .i64 m] 3))) (.cells #[.pointer (some ⟨g,0,none⟩)] 145);have HC:=zh (reading_71 g at_ (.slice A n c) (.pointer (some ⟨w.heap.size+1,0,none⟩)) (.pointer (some ⟨w.heap.size,0,none⟩)) (BPhiF w.heap.size at_ (xs.drop at_) m) ((w.alloc (.cells #[.pointer (some ⟨g,0,none⟩)] 145)).alloc (.cells #[.int .i64 m] 3)) ((h.ext ha).ext hb)
  (bytesF1 w.heap.size ((w.alloc (.cells #[.pointer (some ⟨g,0,none⟩)] 145)).alloc (.cells #[.int .i64 m] 3)).heap.size (w.heap.size+1) w.heap.size g n c at_ m A xs _ (by rw[World.cell?_alloc_new];rfl) (by simp only[zw22];omega) (kc hc (kc hb (by rw[World.cell?_alloc_new];rfl))) (kc hc (by
   have:=World.cell?_alloc_new (w.alloc (.cells #[.pointer (some ⟨g,0,none⟩)] 145)) #[.int .i64 m] 3 0;rw[zw22]at this;rw[this];rfl)) hm1 hm2 (((h.ext ha).ext hb).ext hc) (((hB.eff (gb_ext ha _)).eff (gb_ext hb _)).eff (gb_ext hc _)) hat hn))
 clear h hB ha hb hc hm1 hm2;generalize xs.drop at_=rest at*;go_enter Tryz.func132,Tryz.ntmps132;go_wp2_with fail;refine(HC.out).mono ?_;intro e w3 hq;have hp:=bpostF_of (rp_alloc _ (rp_alloc _ hq));clear hq;have HP:=zh hp;rcases hp with ⟨h1,rfl,hE⟩ | ⟨h1,h2,rfl,hE⟩ | ⟨h1,h2,⟨v,rfl,h3⟩,hE⟩
 ·clear h1 hE
  go_wp2_with fail;go_ret;exact HP.out
 ·clear h1 h2 hE
  go_wp2_with fail;go_ret;exact HP.out
 ·clear h1 h2 h3 hE
  go_wp2_with fail;go_ret;exact HP.out
def OPostF (w:World) (n:Nat) (xs:List Nat) (e:Ending) (w':World):Prop:=
 ∃(g:Nat) (A':Option Addr) (c':Nat),e= .returned (.pointer (some ⟨g,0,none⟩))∧w.heap.size≤g∧Rdr w' g (.slice A' n c') 0 0∧RB w' g A' n c' xs∧Ext w w'∧(0<n→∀a,A'=some a→w.heap.size≤a.block)
theorem ofF (A:Option Addr) (n c:Nat) (xs:List Nat) (w:World) (hB:Bs w A n xs) (hnil:A=none→n=0∧c=0) (hn:n≤4000000000):
  Calls Tryz.prog 79 #[.slice A n c] w (OPostF w n xs):=by
 have HC:=zh (clone A n c xs w hB hnil hn);clear hB hnil;go_enter Tryz.func79,Tryz.ntmps79;go_wp2_with fail;refine(HC.out).mono ?_;rintro e w1 ⟨A',c',rfl,h1,h2,h3,h4,hB,hE⟩;have HB:=zh hB;have HE:=zh hE;have H3:=zh h3;have H4:=zh h4;clear hB hE h3 h4;go_wp2_with fail;go_ret;refine⟨w1.heap.size,A',c',rfl,HE.out.size,Blk.new _ _ _,⟨HB.out.ext (zxa (zxr _) _),h1,h2,H3.out,fun hp a ha=>?_⟩,zxa HE.out _,H4.out⟩;obtain⟨b,o,e,hl,_⟩:=HB.out.2.2 hp;obtain rfl:=zw13 (ha.symm.trans e);exact Nat.ne_of_lt hl
theorem bytes_err (g at_:Nat) (s:Value) (m e0:Int) (w:World) (h:Rdr w g s at_ e0) (he:(e0==0)=false):
  Calls Tryz.prog 132 #[.pointer (some ⟨g,0,none⟩),.int .i64 m] w fun e w'=>e= .returned (.slice none 0 0)∧Ext w w':=by
 have ha:=zxa (zxr w) (.cells #[.pointer (some ⟨g,0,none⟩)] 145);have hb:=zxa (zxr (w.alloc (.cells #[.pointer (some ⟨g,0,none⟩)] 145))) (.cells #[.int .i64 m] 3);have HC:=zh (fun F=>reading_err_71 g at_ s F e0 _ ((h.ext ha).ext hb) he);have HA:=zh (zxt ha hb);clear ha hb h he;go_enter Tryz.func132,Tryz.ntmps132;go_wp2_with fail;refine(HC.out _).mono ?_;rintro e w3 ⟨rfl,hE3⟩;have HE3:=zh hE3;clear hE3;go_wp2_with fail;go_ret;exact⟨rfl,zxt HA.out HE3.out⟩
theorem fixed_err (g at_:Nat) (s:Value) (e0:Int) (w:World) (h:Rdr w g s at_ e0) (he:(e0==0)=false):
  Calls Tryz.prog 119 #[.pointer (some ⟨g,0,none⟩)] w fun e w'=>e= .returned (.int .u32 0)∧Ext w w':=by
 have ha:=zxa (zxr w) (.cells #[.pointer (some ⟨g,0,none⟩)] 145);have HC:=zh (fun F=>reading_err_69 g at_ s F e0 _ (h.ext ha) he);clear h he;have HA:=zh ha;clear ha;go_enter Tryz.func119,Tryz.ntmps119;go_wp2_with fail;refine(HC.out _).mono ?_;rintro e w3 ⟨rfl,hE3⟩;have HE3:=zh hE3;clear hE3;go_wp2_with fail;go_ret;exact⟨rfl,zxt HA.out HE3.out⟩
theorem bs_rdr {w:World} {g at_ n:Nat} {s:Value} {e:Int} {A:Option Addr} {xs:List Nat} (h:Rdr w g s at_ e) (hs:∀k x,s≠ .int k x) (hB:Bs w A n xs) (hp:0<n):∀a,A=some a→a.block≠g:=by
 intro a ha;obtain⟨b,o,e1,hl,hc⟩:=hB.2.2 hp;obtain rfl:=zw13 (ha.symm.trans e1);show b≠g;rintro rfl;have h1:=hc 0 hp;have h2:=Blk.cell h o;rw[Nat.add_zero,h2]at h1;rcases o with _ | _ | _ | o
 ·simp at h1;exact hs _ _ h1
 ·simp at h1
 ·simp at h1
 ·simp at h1
end Go.Proofs.YtidnboeihkeljaaGreatDoor.Wire
namespace Go.Proofs.YtidnboeihkeljaaGreatDoor.Rec
variable {α : Type}
def RowR (w:World) (A:Option Addr) (n k:Nat) (f:α→List Value) (xs:List α):Prop:=
 xs.length=n∧(0<n→∃b o,A=some ⟨b,o,none⟩∧b<w.heap.size∧∀j (hj:j<xs.length) i,i<k→w.cell? ⟨b,o+j*k+i,none⟩=(f xs[j])[i]?)
theorem RowR.nil (w:World) (A:Option Addr) (k:Nat) (f:α→List Value):RowR w A 0 k f []:=⟨rfl,fun h=>absurd h (by omega)⟩
theorem RowR.keep {w w':World} {A:Option Addr} {n k:Nat} {f:α→List Value} {xs:List α} (h:RowR w A n k f xs) (hs:w.heap.size≤w'.heap.size) (hk:∀a,A=some a→0<n→w'.heap[a.block]? =w.heap[a.block]?):RowR w' A n k f xs:=by
 refine⟨h.1,fun hp=>?_⟩;obtain⟨b,o,e,hb,hc⟩:=h.2 hp;exact⟨b,o,e,zw9 hb hs,fun j hj i hi=>(World.cell?_of_block (a:=⟨b,o+j*k+i,none⟩) (show w'.heap[b]? =w.heap[b]? from hk ⟨b,o,none⟩ e hp)).trans (hc j hj i hi)⟩
theorem RowR.ext {w w':World} {A:Option Addr} {n k:Nat} {f:α→List Value} {xs:List α} (h:RowR w A n k f xs) (e:Ext w w'):RowR w' A n k f xs:=by
 refine h.keep e.size (fun a ha hp=>?_);obtain⟨b,o,e1,hb,hc⟩:=h.2 hp;obtain rfl:=zw13 (ha.symm.trans e1);exact e.block b hb
theorem RowR.grown {w w':World} {A:Option Addr} {n k:Nat} {r:Option Nat} {f:α→List Value} {xs:List α} (h:RowR w A n k f xs) (e:w.grownBy w' r) (hr:∀a,A=some a→0<n→some a.block≠r):RowR w' A n k f xs:=by
 refine h.keep e.size (fun a ha hp=>?_);obtain⟨b,o,e1,hb,hc⟩:=h.2 hp;have:=hr a ha hp;obtain rfl:=zw13 (ha.symm.trans e1);exact e.block b hb this
theorem flat_len {k:Nat} {f:α→List Value} (hf:∀x,(f x).length=k):∀xs:List α,(xs.flatMap f).length=xs.length*k
 | []=>by simp
 | x::xs=>by rw[List.flatMap_cons,zw0,hf,flat_len hf xs,zw3,Nat.succ_mul,Nat.add_comm]
theorem flat_get {k:Nat} {f:α→List Value} (hf:∀x,(f x).length=k):∀(xs:List α) (j:Nat) (hj:j<xs.length) (i:Nat),i<k→(xs.flatMap f)[j*k+i]? =(f xs[j])[i]?
 | [],j,hj,_,_=>absurd hj (by simp)
 | x::xs,0,hj,i,hi=>by
  rw[List.flatMap_cons,zw32 (by rw[hf];omega)];simp
 | x::xs,j+1,hj,i,hi=>by
  rw[List.flatMap_cons,zw33 (by rw[hf,Nat.succ_mul];omega),hf,show(j+1)*k+i-k=j*k+i by rw[Nat.succ_mul];omega,flat_get hf xs j (by simpa using hj) i hi];rfl
def OwnR (base:Nat) (w:World) (e:TypeId) (k:Nat) (f:α→List Value) (v:Value) (xs:List α):Prop:=w.ownsRow base e k v xs.length (xs.flatMap f)
theorem OwnR.nil (base:Nat) (w:World) (e:TypeId) (k:Nat) (f:α→List Value):OwnR base w e k f (.slice none 0 0) ([]:List α):=World.ownsRow_nil w base e k
theorem OwnR.ext {base:Nat} {w w':World} {e:TypeId} {k:Nat} {f:α→List Value} {v:Value} {xs:List α} (h:OwnR base w e k f v xs) (hE:Ext w w'):OwnR base w' e k f v xs:=by
 refine zw24 h (row:=none) ⟨hE.os,hE.tape,hE.output,hE.size,fun k hk _=>hE.block k hk⟩ ?_;cases v.ownBlock<;>simp
theorem OwnR.grown {base:Nat} {w w':World} {e:TypeId} {k:Nat} {f:α→List Value} {v:Value} {xs:List α} {r:Nat} (h:OwnR base w e k f v xs) (hg:w.grownBy w' (some r)) (hr:r<base):OwnR base w' e k f v xs:=by
 refine zw24 h hg ?_
 cases hv:v.ownBlock with
 | none=>exact .inl rfl
 | some q=>exact .inr (fun e=>by have:=(zw23 h q hv).1;have:=zw13 e;omega)
theorem OwnR.shape {base:Nat} {w:World} {e:TypeId} {k:Nat} {f:α→List Value} {v:Value} {xs:List α} (h:OwnR base w e k f v xs):∃A c,v= .slice A xs.length c∧xs.length≤c∧c≤maxLen∧(A=none→xs.length=0∧c=0)∧(∀a,A=some a→base≤a.block):=by
 rcases h.2 with ⟨rfl,hn⟩ | ⟨g,cap,cur,rfl,hb,_,h1,h2,_⟩
 ·exact⟨none,0,by rw[hn],by omega,by unfold maxLen;omega,(fun _=>⟨hn,rfl⟩),(fun a ha=>by cases ha)⟩
 ·exact⟨_,cap,rfl,h1,h2,(fun ha=>by cases ha),(fun a ha=>by cases ha;exact hb)⟩
theorem OwnR.row {base:Nat} {w:World} {e:TypeId} {k:Nat} {f:α→List Value} {A:Option Addr} {n c:Nat} {xs:List α} (hf:∀x,(f x).length=k) (h:OwnR base w e k f (.slice A n c) xs):RowR w A n k f xs:=by
 rcases h.2 with ⟨h1,hn⟩ | ⟨g,cap,cur,h1,hb,hg,h2,h3,hs,ht⟩
 ·obtain⟨rfl,rfl,rfl⟩:=Value.slice.inj h1
  exact⟨hn,fun hp=>absurd hp (by omega)⟩
 ·obtain⟨rfl,rfl,rfl⟩:=Value.slice.inj h1
  refine⟨rfl,fun hp=>⟨g,0,rfl,(Array.getElem?_eq_some_iff.1 hg).1,fun j hj i hi=>?_⟩⟩;have hlt:j*k+i<(xs.flatMap f).length:=by
   rw[flat_len hf]
   calc j*k+i<j*k+k:=by omega
    _=(j+1)*k:=by rw[Nat.succ_mul]
    _≤xs.length*k:=zw34 k hj
  have hq:(xs.flatMap f)[j*k+i]? =some ((xs.flatMap f)[j*k+i]):=zw6 hlt;have:=World.ownsRow.cells h (g:=g) rfl (j*k+i) _ hq;have hadd:(⟨g,0,none⟩:Addr).add (j*k+i)=⟨g,j*k+i,none⟩:=by unfold Addr.add;split<;>simp_all
  rw[hadd]at this;rw[Nat.zero_add,this,←hq,flat_get hf xs j hj i hi]
theorem wpList_rec {P:Program} {w:World} {base:Nat} {ops:Array Oper} {rest:List Oper} {o:Oper} {a:Act} {Q:Exit→Act→World→Prop} (hgd:o.guard=none) (s x:Operand) (t e:TypeId) (k bytes:Nat) (z:Value) (f:α→List Value) (ho:o.op= .call {callee:= .builtin .append,args:= #[s,x],argTypes:= #[t,t]})
  (ht:P.underlying t=some (.slice e)) (hi:(P.info? e).map (fun i=>(i.zero,i.size,i.bytes))=some (some z,k,bytes)) (hzs:z.cells.size=k) (hby:bytes≤1000) (v vx:Value) (xs:List α) (y:α) (hs:a.eval s=v) (hx:a.eval x=vx) (hO:OwnR base w e k f v xs) (hbase:base≤w.heap.size)
  (hsrc:Src P k t vx 1 (f y) w) (hb:xs.length≤100000000) (h:∀v' w',OwnR base w' e k f v' (xs++[y])→w.grownBy w' v.ownBlock→wpList P ops Q rest (a.put o.dst v') w'):wpList P ops Q (o::rest) a w:=by
 obtain⟨i0,hi0,hq⟩:=Option.map_eq_some_iff.1 hi;simp only[Prod.mk.injEq]at hq;obtain⟨hz0,hz1,hz2⟩:=hq;have hm:(xs.length+1)*bytes≤140737488355328:=by
  calc (xs.length+1)*bytes≤(xs.length+1)*1000:=Nat.mul_le_mul_left _ hby
   _≤140737488355328:=by omega
 refine wpList_app_own hgd s x t t ho e i0 z k bytes ht hi0 hz0 hz1 hz2 hzs base v vx xs.length (xs.flatMap f) hs hx hO 1 (f y) hsrc (by unfold maxLen;omega) hm hbase ?_;intro v' w' h2 h3;refine h v' w' ?_ h3;unfold OwnR;rw[zw0,List.flatMap_append]
 simpa using h2
theorem run_rec {P:Program} {w:World} {base:Nat} (t e ty:TypeId) (k bytes:Nat) (z:Value) (f:α→List Value)
  (ht:P.underlying t=some (.slice e)) (hi:(P.info? e).map (fun i=>(i.zero,i.size,i.bytes))=some (some z,k,bytes)) (hzs:z.cells.size=k) (hby:bytes≤1000) (v vx:Value) (xs:List α) (y:α) (hO:OwnR base w e k f v xs) (hbase:base≤w.heap.size)
  (hsrc:Src P k t vx 1 (f y) w) (hb:xs.length≤100000000):∃v' w',(Builtin.append_ #[t,t] ty #[v,vx]).run P w= .ok v' w'∧OwnR base w' e k f v' (xs++[y])∧w.grownBy w' v.ownBlock:=by
 obtain⟨i0,hi0,hq⟩:=Option.map_eq_some_iff.1 hi;simp only[Prod.mk.injEq]at hq;obtain⟨hz0,hz1,hz2⟩:=hq;have hm:(xs.length+1)*bytes≤140737488355328:=by
  calc (xs.length+1)*bytes≤(xs.length+1)*1000:=Nat.mul_le_mul_left _ hby
   _≤140737488355328:=by omega
 obtain⟨v',w',r1,r2,r3⟩:=run_app_own (P:=P) t t ty e i0 z k bytes ht hi0 hz0 hz1 hz2 hzs base v xs.length (xs.flatMap f) hO vx 1 (f y) hsrc (by unfold maxLen;omega) hm hbase;refine⟨v',w',r1,?_,r3⟩;unfold OwnR;rw[zw0,List.flatMap_append]
 simpa using r2
theorem src_rec {P:Program} {tx e e':TypeId} {k:Nat} (hk:P.underlying tx=some (.slice e)) (w:World) (cs:List Value) (hl:cs.length=k) (h1:∀u∈cs,u.oneCell'=true) (c:Nat):Src P k tx (.slice (some ⟨w.heap.size,0,none⟩) 1 c) 1 cs (w.alloc (.cells cs.toArray e')):=by
 refine Src.ofSlice _ hk _ _ c _ (by rw[Nat.one_mul,hl]) (fun j u hj=>?_) h1;have hadd:(⟨w.heap.size,0,none⟩:Addr).add j=⟨w.heap.size,j,none⟩:=by unfold Addr.add;split<;>simp_all
 rw[hadd,(Blk.new w e' cs.toArray).cell j,←hj];simp
end Go.Proofs.YtidnboeihkeljaaGreatDoor.Rec
namespace Go.Proofs.YtidnboeihkeljaaGreatDoor.Wire
section
variable {P : Program} {w : World}
def Grew (w w':World) (v v':Value):Prop:=w.grownBy w' v.ownBlock∧(v'.ownBlock=v.ownBlock∨∀k,v'.ownBlock=some k→w.heap.size≤k)
def Off (v:Value) (b:Nat):Prop:=v.ownBlock≠some b
theorem Grew.off {w w':World} {v v':Value} {b:Nat} (h:Grew w w' v v') (ho:Off v b) (hb:b<w.heap.size):Off v' b:=by
 rcases h.2 with h1 | h1
 ·unfold Off;rw[h1];exact ho
 ·intro e;have:=h1 b e;omega
theorem Grew.blk {w w':World} {v v':Value} {b:Nat} {t:TypeId} {cs:Array Value} (h:Grew w w' v v') (ho:Off v b) (hb:Blk w b t cs):Blk w' b t cs:=(h.1.block b hb.lt (Ne.symm ho)).trans hb
theorem off_new {base:Nat} {e:TypeId} {size n:Nat} {v:Value} {xs:List Value} (h:w.ownsRow base e size v n xs) {b:Nat} (hb:w.heap.size≤b∨b<base):Off v b:=by
 intro e;have:=zw23 h b e;omega
theorem run_app_own2 (t tx ty e:TypeId) (i:TypeInfo) (z:Value) (size bytes:Nat) (ht:P.underlying t=some (.slice e)) (hi:P.info? e=some i) (hz:i.zero=some z) (hsize:i.size=size) (hby:i.bytes=bytes) (hzs:z.cells.size=size)
  (base:Nat) (v:Value) (n:Nat) (xs:List Value) (hown:w.ownsRow base e size v n xs)
  (x:Value) (m:Nat) (news:List Value) (hs:Src P size tx x m news w) (h63:n+m≤maxLen) (hb:(n+m)*bytes≤140737488355328) (hbase:base≤w.heap.size):
  ∃v' w',(Builtin.append_ #[t,tx] ty #[v,x]).run P w= .ok v' w'∧w'.ownsRow base e size v' (n+m) (xs++news)∧Grew w w' v v':=by
 rcases hown.2 with ⟨rfl,rfl⟩ | ⟨g,cap,cur,rfl,hbg,hgg,hnc,hcm,hcs,htake⟩
 ·by_cases hm:m=0
  ·subst hm
   have hn:news=[]:=zw19 (by simpa using hs.newsLen);have hx:xs=[]:=zw19 (by simpa using hown.1);subst hn hx;refine⟨.slice none 0 0,w,?_,World.ownsRow_nil w base e size,⟨rfl,rfl,rfl,zw8 _,fun _ _ _=>rfl⟩,.inl rfl⟩;subst hsize;rcases hs.kind with ⟨e',hk⟩ | hk<;>simp[Builtin.append_,run_underlying ht,run_underlying hk,sizeOf,typeInfo,hi,hs.len,hs.cells]
  ·obtain⟨v',w',h1,h2,h3,h4⟩:=run_app_grow t tx ty e i z size bytes ht hi hz hsize hby hzs none 0 0 xs hown.1 (run_firstCells_own hown) x m news hs (by omega) h63 hb base hbase
   exact⟨v',w',h1,h2,h4 _,.inr (own_ge h3)⟩
 ·by_cases hroom:n+m≤cap
  ·subst hsize
   have hfit:n*i.size+news.length≤cur.size:=by rw[hs.newsLen,hcs,←Nat.add_mul];exact zw34 _ hroom
   have hlen:(xs++news).length=(n+m)*i.size:=by rw[zw0,hown.1,hs.newsLen,Nat.add_mul]
   have hst:=run_storeCells_at P g (n*i.size) e news 0 cur w hgg (by simpa using hfit) hs.one;simp only[Nat.add_zero]at hst;have hr:(Builtin.append_ #[t,tx] ty #[.slice (some ⟨g,0,none⟩) n cap,x]).run P w=
     .ok (.slice (some ⟨g,0,none⟩) (n+m) cap) (w.setRow g (cur.toList.take (n*i.size)++news++cur.toList.drop (n*i.size+news.length)).toArray):=by
    rcases hs.kind with ⟨e',hk⟩ | hk<;>simp[Builtin.append_,run_underlying ht,run_underlying hk,sizeOf,typeInfo,hi,hs.len,hroom,hs.cells,Addr.add_lit,hst]
   refine⟨_,_,hr,⟨hlen,.inr ⟨g,cap,_,rfl,hbg,setRow_heap w g cur _ e _ hgg,hroom,hcm,?_,?_⟩⟩,⟨rfl,rfl,rfl,by simp,fun k _ hk=>setRow_other w g k _ (fun e=>hk (by simp[Value.ownBlock,e]))⟩,.inl rfl⟩
   ·simp only[List.size_toArray,zw0,zw2,zw1,Array.length_toList]
    omega
   ·rw[htake,←hlen]
    exact List.take_left
  ·obtain⟨v',w',h1,h2,h3,h4⟩:=run_app_grow t tx ty e i z size bytes ht hi hz hsize hby hzs _ n cap xs hown.1 (run_firstCells_own hown) x m news hs (by omega) h63 hb base hbase
   exact⟨v',w',h1,h2,h4 _,.inr (own_ge h3)⟩
end
def OwnB (base:Nat) (w:World) (v:Value) (zs:List Nat):Prop:=w.ownsRow base 5 1 v zs.length (c8 zs)
theorem OwnB.nil (base:Nat) (w:World):OwnB base w (.slice none 0 0) []:=World.ownsRow_nil w base 5 1
theorem OwnB.ext {base:Nat} {w w':World} {v:Value} {zs:List Nat} (h:OwnB base w v zs) (hE:Ext w w'):OwnB base w' v zs:=own_ext h hE
theorem OwnB.mono {b b':Nat} {w:World} {v:Value} {zs:List Nat} (h:OwnB b w v zs) (hb:b'≤b):OwnB b' w v zs:=by
 rcases h with ⟨h1,h2 | ⟨g,cap,cur,r1,r2,r3⟩⟩
 ·exact⟨h1,.inl h2⟩
 ·exact⟨h1,.inr ⟨g,cap,cur,r1,zw10 hb r2,r3⟩⟩
theorem OwnB.keep {base:Nat} {w w':World} {v:Value} {zs:List Nat} (h:OwnB base w v zs) (hk:∀k,base≤k→k<w.heap.size→w'.heap[k]? =w.heap[k]?):OwnB base w' v zs:=by
 rcases h with ⟨h1,h2 | ⟨g,cap,cur,r1,r2,r3,r4⟩⟩
 ·exact⟨h1,.inl h2⟩
 ·exact⟨h1,.inr ⟨g,cap,cur,r1,r2,(hk g r2 (Array.getElem?_eq_some_iff.1 r3).1).trans r3,r4⟩⟩
theorem OwnB.shape {base:Nat} {w:World} {v:Value} {zs:List Nat} (h:OwnB base w v zs):∃A c,v= .slice A zs.length c∧zs.length≤c∧c≤maxLen∧(A=none→zs.length=0∧c=0)∧(∀a,A=some a→base≤a.block):=by
 rcases h.2 with ⟨rfl,hn⟩ | ⟨g,cap,cur,rfl,hb,_,h1,h2,_⟩
 ·exact⟨none,0,by rw[hn],by omega,by unfold maxLen;omega,(fun _=>⟨hn,rfl⟩),(fun a ha=>by cases ha)⟩
 ·exact⟨_,cap,rfl,h1,h2,(fun ha=>by cases ha),(fun a ha=>by cases ha;exact hb)⟩
theorem OwnB.bs {base:Nat} {w:World} {A:Option Addr} {c n:Nat} {zs:List Nat} (h:OwnB base w (.slice A n c) zs) (hz:∀j,zs.getD j 0<256):n=zs.length∧Bs w A n zs:=by
 have hn:n=zs.length:=by
  rcases h.2 with ⟨h1,hn⟩ | ⟨g,cap,cur,h1,_⟩
  ·rw[(Value.slice.inj h1).2.1,hn]
  ·exact(Value.slice.inj h1).2.1
 subst hn;exact⟨rfl,Bs.own h hz⟩
theorem wpList_b {base:Nat} {w:World} {ops:Array Oper} {rest:List Oper} {o:Oper} {a:Act} {Q:Exit→Act→World→Prop} (hgd:o.guard=none) (s x:Operand) (tx:TypeId)
  (ho:o.op= .call {callee:= .builtin .append,args:= #[s,x],argTypes:= #[48,tx]}) (v vx:Value) (zs ys:List Nat) (hs:a.eval s=v) (hx:a.eval x=vx) (hO:OwnB base w v zs) (hE:base≤w.heap.size)
  (hsrc:Src Tryz.prog 1 tx vx ys.length (c8 ys) w) (hb:zs.length+ys.length≤140737488355328)
  (h:∀v' w',OwnB base w' v' (zs++ys)→Grew w w' v v'→wpList Tryz.prog ops Q rest (a.put o.dst v') w'):wpList Tryz.prog ops Q (o::rest) a w:=by
 obtain⟨i0,hi0,hz0,hz1,hz2⟩:=info_parts info8;have h1:zs.length+ys.length≤maxLen:=by unfold maxLen;omega
 obtain⟨v',w',r1,r2,r3⟩:=run_app_own2 (P:=Tryz.prog) 48 tx o.type 5 i0 (.int .u8 0) 1 1 Tryz.underlying48 hi0 hz0 hz1 hz2 rfl base v zs.length (c8 zs) hO vx ys.length (c8 ys) hsrc h1 (by omega) hE;exact wpList_of_append hgd s x 48 tx ho v vx hs hx r1 (h v' w' (by unfold OwnB;rw[zw0,c8_app];exact r2) r3)
theorem Grew.ext {a w w':World} {v v':Value} {base:Nat} {zs:List Nat} (h:Grew w w' v v') (hE:Ext a w) (hO:OwnB base w v zs) (hb:a.heap.size≤base):Ext a w':=
 ext_grown hE h.1 (fun k e=>zw10 hb (zw23 hO k e).1)
theorem own_src {W w:World} {v:Value} {zs:List Nat} (h:Own W w v zs) (hz:∀j,zs.getD j 0<256):Src Tryz.prog 1 48 v zs.length (c8 zs) w:=by
 obtain⟨A,c,rfl,_⟩:=own_shape h;exact(Bs.own h hz).src Tryz.underlying48 c
theorem put_nil (d:Nat) (hd:d<18446744073709551616) (w:World):Calls Tryz.prog 30 #[.slice none 0 0,.int .u64 (d:Int)] w fun e w'=>∃v,e= .returned v∧Src Tryz.prog 1 48 v (vb d).length (c8 (vb d)) w'∧OwnB w.heap.size w' v (vb d)∧Ext w w':=by
 refine(put none 0 0 [] d hd w (Bs.none _ _) (fun _=>⟨rfl,rfl⟩) (by omega) (by omega) (by omega)).mono ?_;rintro e w' ⟨g,c,rfl,h1,h2,h3,hO,hE⟩;rw[zw17]at*;exact⟨_,rfl,own_src hO (vb_byte d),hO,hE⟩
end Go.Proofs.YtidnboeihkeljaaGreatDoor.Wire
namespace Go.Proofs.YtidnboeihkeljaaGreatDoor.Com
theorem bytesRow_at (T:ByteArray) (cap j:Nat) (h:j<T.size):(bytesRow T cap)[j]? =some (.int .u8 ((natsOf T).getD j 0:Nat)):=by
 have h':j<T.data.size:=h;unfold bytesRow natsOf;rw[Array.getElem?_append_left (by simpa using h'),Array.getElem?_map,Array.getElem?_eq_getElem h',zw5,List.getElem?_map,zw6 (by simpa using h')];simp
theorem conv_text (w:World) (T:ByteArray) (hT:T.size≤100000000000):∃c W,(convert 9 48 (.string T)).run Tryz.prog w= .ok (.slice (some ⟨w.heap.size,0,none⟩) T.size c) W∧T.size≤c∧c≤9223372036854775807∧Bs W (some ⟨w.heap.size,0,none⟩) T.size (natsOf T)∧Ext w W:=by
 refine⟨_,_,run_bytes_of_string (P:=Tryz.prog) w 9 48 5 T Tryz.underlying9 Tryz.underlying48 Tryz.underlying5,grownCap_ge w T.size 0 _,?_,⟨natsOf_len T,natsOf_small T,fun _=>⟨w.heap.size,0,rfl,by simp,fun j hj=>?_⟩⟩,zxa (zxd (zxr w)) _⟩
 ·have:=grownCap_le_maxLen w T.size 0 5 (by unfold maxLen;omega)
  unfold maxLen at this;omega
 ·rw[Nat.zero_add]
  have hg:(w.drew.alloc (.cells (bytesRow T (grownCap w T.size 0 5)) 5 ((bytesRow T (grownCap w T.size 0 5)).size,(bytesRow T (grownCap w T.size 0 5)).size+1))).heap[w.heap.size]? =some (.cells (bytesRow T (grownCap w T.size 0 5)) 5 ((bytesRow T (grownCap w T.size 0 5)).size,(bytesRow T (grownCap w T.size 0 5)).size+1)):=heap_alloc_new w.drew _;rw[cell_of_row _ _ _ _ _ _ hg,bytesRow_at T _ j hj]
end Go.Proofs.YtidnboeihkeljaaGreatDoor.Com
namespace Go.Proofs.YtidnboeihkeljaaGreatDoor.Wire
theorem refFixed (m:Nat) (h:m<4294967296) (w:World):Calls Tryz.prog 72 #[.int .u32 (m:Int)] w fun e w'=>e= .returned (.string (strOf (fx m)))∧Ext w w':=by
 have e:((fx m).map fun x=>Value.int .u8 (x:Nat)).toArray= #[.int .u8 ((m:Int)/16777216),.int .u8 ((m:Int)/65536%256),.int .u8 ((m:Int)/256%256),.int .u8 ((m:Int)%256)]:=by simp[fx]
 have hB:=bs_new w 5 (0,0) (fx m) (small_mem (fx_mem h));rw[e]at hB;have hcv:=hB.conv (P:=Tryz.prog) 48 5 9 Tryz.underlying48 Tryz.underlying5 Tryz.underlying9 4;rw[show(fx m).length=4 from rfl]at hcv;clear e hB;generalize strOf (fx m)=S at*;go_enter Tryz.func72,Tryz.ntmps72;go_wp2_with fail;go_ret;exact⟨rfl,zxa (zxr _) _⟩
theorem one_conv (B:Nat) (w:World) (x:Nat) (hx:x<256) (h:w.cell? ⟨B,0,none⟩=some (.int .u8 (x:Int))):(convert 48 9 (.slice (some ⟨B,0,none⟩) 1 1)).run Tryz.prog w= .ok (.string (strOf [x])) w:=by
 have hB:Bs w (some ⟨B,0,none⟩) 1 [x]:=⟨rfl,small_mem (fun c hc=>by simp at hc;omega),fun _=>⟨B,0,rfl,World.block_lt_of_cell? w _ h,fun j hj=>by
  obtain rfl:j=0:=by omega
  simpa using h⟩⟩
 exact hB.conv (P:=Tryz.prog) 48 5 9 Tryz.underlying48 Tryz.underlying5 Tryz.underlying9 1
theorem refVarint (n:Nat):∀(h:n<18446744073709551616) (w:World),Calls Tryz.prog 71 #[.int .u64 (n:Int)] w fun e w'=>e= .returned (.string (strOf (vb n)))∧Ext w w':=by
 induction n using Nat.strongRecOn with
 | _ n ih=>
  intro h w;by_cases hlt:n<128
  ·rw[vb_small hlt]
   have hcv:=one_conv w.heap.size (w.alloc (.cells #[.int .u8 (n:Int)] 5)) n (by omega) (by simp);generalize strOf [n]=S at*;clear ih h;go_enter Tryz.func71,Tryz.ntmps71;go_wp2_with fail;go_ret;exact⟨rfl,zxa (zxr _) _⟩
  ·have HIH:=zh (fun w=>ih (n/128) (by omega) (by omega) w)
   have HV:Hid (strOf (vb n)=strOf [n%128+128]++strOf (vb (n/128))):=zh (by rw[vb_more hlt,←strOf_app];rfl);have hdi:(n:Int)/128=((n/128:Nat):Int):=by omega
   obtain⟨y,hy⟩:∃y,y=n%128+128:=⟨_,rfl⟩;obtain⟨r,hr⟩:∃r,r=n%128:=⟨_,rfl⟩;have hcv:∀(B:Nat) (w':World),w'.cell? ⟨B,0,none⟩=some (.int .u8 (y:Int))→(convert 48 9 (.slice (some ⟨B,0,none⟩) 1 1)).run Tryz.prog w'= .ok (.string (strOf [y])) w':=fun B w' hc=>one_conv B w' y (by omega) hc;have ht:(n:Int).tmod 128=(r:Int):=by rw[Int.tmod_eq_emod_of_nonneg (by omega)];omega
   have hw1:IntKind.u64.wrap ((r:Int)+128)=(y:Int):=by rw[IntKind.wrap_u64];omega
   have hw2:IntKind.u8.wrap (y:Int)=(y:Int):=by rw[IntKind.wrap_u8];omega
   have hw3:IntKind.u64.wrap ((n/128:Nat):Int)=((n/128:Nat):Int):=by rw[IntKind.wrap_u64];omega
   have HW:=zh (And.intro ht (And.intro hw1 (And.intro hw2 hw3)));rw[←hy]at HV;have hsz:¬(9223372036854775807<(strOf [y]).size+(strOf (vb (n/128))).size):=by
    rw[strOf_size,strOf_size];have:=vb_ten (n:=n/128) (by omega);simp;omega
   clear ih h hy hr ht hw1 hw2 hw3;generalize strOf [y]=S1 at*;generalize n/128=q at*;generalize strOf (vb q)=S2 at*;rw[HV.out];go_enter Tryz.func71,Tryz.ntmps71;go_wp2_with fail;obtain⟨ht,hw1,hw2,hw3⟩:=HW.out
   go_region_with (go_at_call 71;refine(HIH.out _).mono ?_;rintro e w8 ⟨rfl,b8⟩;obtain⟨hcl,hfr⟩:=ecell b8;have hz8:=b8.size;have B8:=zh b8;clear b8)
   all_goals
    clear hcl hfr hcv;go_wp2_with fail;go_ret;refine⟨rfl,?_⟩
    first
    | exact zxt (zxd (zxa (zxr _) _)) B8.out
    | exact zxa (zxt (zxd (zxr _)) B8.out) _
end Go.Proofs.YtidnboeihkeljaaGreatDoor.Wire
