
import Derived.Test.YtbopblbhjcemaaaGreatDoorF09
import Derived.Test.YtbopblbhjcemaaaGreatDoorF12
set_option maxHeartbeats 16000000
set_option maxRecDepth 100000
set_option linter.all false
open Go.ChangeShapes Go.WideShapes Go.ChangeAt Go.RowKit
namespace Go.Proofs.YtbopblbhjcemaaaGreatDoor.Delta
open Wire
inductive LR where
 | bad (err:Int)
 | ok (l:List (Nat × List Nat))
def lits (n:Nat) (at_:Nat) (rest:List Nat):LR:=
 if h0:rest=[]then .ok []else
 match lim (vr 0 0 rest)with
 | .short=> .bad 3
 | .form=> .bad 4
 | .ok z k=>
  if n<at_+z then .bad 4 else
  match tr (rest.drop k) ((n:Int)-at_-z)with
  | .bad f=> .bad f
  | .ok ys j=>
   if hj:0<k+j then
    match lits n (at_+z+ys.length) (rest.drop (k+j))with
    | .bad f=> .bad f
    | .ok l=> .ok ((at_+z,ys)::l)
   else .bad 4
termination_by rest.length
decreasing_by
 have:0<rest.length:=List.length_pos_iff.2 h0;rw[zw1];omega
def LR.pre (l:List (Nat × List Nat)):LR→LR
 | .bad f=> .bad f
 | .ok m=> .ok (l++m)
end Go.Proofs.YtbopblbhjcemaaaGreatDoor.Delta
namespace Go.Proofs.YtbopblbhjcemaaaGreatDoor.Wire
end Go.Proofs.YtbopblbhjcemaaaGreatDoor.Wire
namespace Go.Proofs.YtbopblbhjcemaaaGreatDoor.Delta
open Go.ChangeShapes Go.WideShapes Go.ChangeAt Go.RowKit
open Wire
def pcells (l:List (Nat × List Nat)):List Value:=l.flatMap fun p=>[.int .i64 (p.1:Int),.string (strOf p.2)]
theorem same_yes (A B:Option Addr) (n c m d:Nat) (xs:List Nat) (w:World) (hA:Bs w A n xs) (hB:Bs w B m xs):
  Calls Tryz.prog 70 #[.slice A n c,.slice B m d] w fun e w'=>e= .returned (.bool true)∧w=w':=by
 have h1:=hA.conv (P:=Tryz.prog) 22 5 9 Tryz.underlying22 Tryz.underlying5 Tryz.underlying9 c;have h2:=hB.conv (P:=Tryz.prog) 22 5 9 Tryz.underlying22 Tryz.underlying5 Tryz.underlying9 d;clear hA hB;generalize strOf xs=S at*;go_enter Tryz.func70,Tryz.ntmps70;go_wp2_with fail;go_ret;exact⟨rfl,rfl⟩
inductive AR where
 | bad (err:Int)
 | ok (zs:List Nat)
def folded (n:Nat) (l:List (Nat × List Nat)):List Nat:=l.foldl (fun x p=>lay x p.1 p.2) (List.replicate n 0)
def applied (xs ds:List Nat) (most:Int):AR:=
 match lim (vr 0 0 ds)with
 | .short=> .bad 3
 | .form=> .bad 4
 | .ok n k=>
  if most<(n:Int)then .bad 6 else
  match lits n 0 (ds.drop k)with
  | .bad f=> .bad f
  | .ok l=>if vb n++enc (folded n l)=ds then .ok (mix xs (folded n l))else .bad 4
def APost (w:World) (R:AR) (e:Ending) (w':World):Prop:=
 Ext w w'∧match R with
 | .bad f=>e= .returned (.tuple #[.slice none 0 0,.int .i64 f])∧f≠0
 | .ok zs=>∃g,e= .returned (.tuple #[.slice (some ⟨g,0,none⟩) zs.length zs.length,.int .i64 0])∧Wire.Own w w' (.slice (some ⟨g,0,none⟩) zs.length zs.length) zs
theorem natsOf_get (s:ByteArray) (k:Nat) (h:k<s.size):(natsOf s).getD k 0=s[k].toNat:=by
 unfold natsOf;rw[zw5,List.getElem?_map,zw6 (by rw[Array.length_toList];exact h)];rfl
def MRel (w:World) (zs:List Nat) (sv iv:Value) (wr:World):Prop:=∃k:Nat,k≤zs.length∧sv= .string (strOf (zs.take k))∧iv= .int .i64 (k:Int)∧Ext w wr
theorem take_succ_nat {zs:List Nat} {k:Nat} (h:k<zs.length):strOf (zs.take (k+1))=strOf (zs.take k)++strOf [zs.getD k 0]:=by
 rw[←strOf_app,List.take_succ_eq_append_getElem h,zw5,zw6 h];rfl
theorem refMix (s t:ByteArray) (w:World) (hs:s.size≤1000000) (ht:t.size≤1000000):
  Calls Tryz.prog 114 #[.string s,.string t] w fun e w'=>e= .returned (.string (strOf (mix (natsOf s) (natsOf t))))∧Ext w w':=by
 have HZL:Hid ((mix (natsOf s) (natsOf t)).length=t.size):=zh (by rw[mix_len,natsOf_len]);have HZS:=zh (mix_small (natsOf_small s) (natsOf_small t));have HAT:=zh (fun j hj=>mix_at (natsOf s) (natsOf t) j hj);generalize hz:mix (natsOf s) (natsOf t)=zs at*;go_enter Tryz.func114,Tryz.ntmps114;go_wp2_with fail
 go_loopw [5,6] (fun sv iv wr=>MRel w zs sv iv wr) (fun _ iv _=>t.size-(intOf iv).toNat)
 case atStart=>exact⟨0,Nat.zero_le _,rfl,rfl,zxr _⟩
 case round=>
  obtain⟨k,hk,rfl,rfl,hE⟩:=hrel;have HE:=zh hE;clear hE;have hkt:k≤t.size:=by have:=HZL.out;omega
  by_cases hlt:k<t.size
  ·have hsn:=take_succ_nat (zs:=zs) (k:=k) (by rw[HZL.out];exact hlt)
   have hv:=HAT.out k (by rw[natsOf_len];exact hlt);rw[natsOf_get t k hlt,natsOf_len]at hv;have hzb:=HZS.out k;have hcv:=one_conv wr.heap.size (wr.alloc (.cells #[.int .u8 (zs.getD k 0:Nat)] 5)) (zs.getD k 0) hzb (by simp);have hsz:¬(9223372036854775807<(strOf (zs.take k)).size+(strOf [zs.getD k 0]).size):=by
    rw[strOf_size,strOf_size,zw2];simp;omega
   generalize zs.getD k 0=zk at*;generalize strOf (zs.take k)=S at*;generalize strOf [zk]=S1 at*;have HSN:=zh hsn;clear hsn;have ht8:=t[k].toNat_lt;by_cases hks:k<s.size
   ·rw[if_pos hks,natsOf_get s k hks]at hv
    have hs8:=s[k].toNat_lt;have HX:Hid (bits .xor .u8 (t[k].toNat:Int) (s[k].toNat:Int)=(zk:Int)):=zh (by rw[hv];exact xor8 _ _ ht8 hs8);clear hv;have hx:=HX.out;go_wp2_with fail
    go_roundw
    case rel=>exact⟨k+1,by have:=HZL.out;omega,by rw[HSN.out],by go_num,zxa HE.out _⟩
    case measure=>simp[intOf];omega
   ·rw[if_neg hks]at hv
    have HX:Hid ((t[k].toNat:Int)=(zk:Int)):=zh (by rw[hv]);clear hv;have hx:=HX.out;go_wp2_with fail
    go_roundw
    case rel=>exact⟨k+1,by have:=HZL.out;omega,by rw[HSN.out],by go_num,zxa HE.out _⟩
    case measure=>simp[intOf];omega
  ·have HT:Hid (zs.take k=zs):=zh (List.take_of_length_le (by rw[HZL.out];omega))
   rw[HT.out];generalize hS:strOf zs=S;go_wp2_with fail;go_ret;exact⟨by rw[hS];rfl,HE.out⟩
def NRel (l:List Nat) (from_ n:Nat) (iv:Value):Prop:=∃k:Nat,from_≤k∧k≤from_+n∧k≤l.length∧iv= .int .i64 (k:Int)∧k-from_≤zr (l.drop from_)
theorem zr_step {l:List Nat} {from_ k:Nat} (h1:from_≤k) (h2:k-from_≤zr (l.drop from_)):zr (l.drop k)=zr (l.drop from_)-(k-from_):=by
 have:=zr_drop (l.drop from_) (k-from_) h2
 rwa [zw31,show from_+(k-from_)=k from by omega]at this
theorem refZero (s:ByteArray) (from_ n:Nat) (w:World) (hs:s.size≤1000000) (hf:from_≤s.size) (hn:n≤1000000):
  Calls Tryz.prog 115 #[.string s,.int .i64 (from_:Int),.int .i64 (n:Int)] w fun e w'=>e= .returned (.bool (decide (min n (s.size-from_)≤zr ((natsOf s).drop from_))))∧w=w':=by
 have HL:=zh (natsOf_len s);have HST:=zh (fun k (a:from_≤k) (b:k-from_≤zr ((natsOf s).drop from_))=>zr_step (l:=natsOf s) a b);have HAT:=zh (fun k (hk:k<(natsOf s).length)=>zr_at (xs:=natsOf s) hk);have HG:=zh (fun k hk=>natsOf_get s k hk);generalize hb:decide (min n (s.size-from_)≤zr ((natsOf s).drop from_))=b;have HB:=zh hb;clear hb;go_enter Tryz.func115,Tryz.ntmps115;go_wp2_with fail
 go_loop [7] (fun iv=>NRel (natsOf s) from_ n iv) (fun iv=>from_+n-(intOf iv).toNat)
 case atStart=>exact⟨from_,zw8 _,by omega,by rw[HL.out];exact hf,rfl,by omega⟩
 case round=>
  obtain⟨k,h1,h2,h3,rfl,h4⟩:=hrel;have H4:=zh h4;clear h4;rw[HL.out]at h3;have k0:(0:Int)≤(k:Int):=by omega
  by_cases hk:k<from_+n
  ·have hk2:(k:Int)<(from_:Int)+(n:Int):=by omega
   by_cases hlt:k<s.size
   ·have HA:=zh (HAT.out k (by rw[HL.out];exact hlt))
    have HGK:=zh (HG.out k hlt);by_cases h0:s[k].toNat=0
    ·have hx:((s[k].toNat:Int) != 0)=false:=by rw[h0];rfl
     have HN:Hid (k+1-from_≤zr ((natsOf s).drop from_)):=zh (by
      have e1:=HST.out k h1 H4.out;have e2:=HA.out;rw[HGK.out,if_pos h0]at e2;have:=H4.out;omega)
     clear h0;go_wp2_with fail
     go_round
     case rel=>exact⟨k+1,by omega,by omega,by rw[HL.out];omega,by go_num,HN.out⟩
     case measure=>simp[intOf];omega
    ·have hx:((s[k].toNat:Int) != 0)=true:=by rw[bne_iff_ne];omega
     have HF:Hid (b=false):=zh (by
      have e1:=HST.out k h1 H4.out;have e2:=HA.out;rw[HGK.out,if_neg h0]at e2;have:=H4.out;rw[←HB.out];exact zw14 (by omega))
     clear h0;go_wp2_with fail;go_ret;exact⟨by rw[HF.out];rfl,rfl⟩
   ·have HF:Hid (b=true):=zh (by
     have:=H4.out;rw[←HB.out];exact zw15 (by omega))
    go_wp2_with fail;go_ret;exact⟨by rw[HF.out];rfl,rfl⟩
  ·have hk2:¬(k:Int)<(from_:Int)+(n:Int):=by omega
   have HF:Hid (b=true):=zh (by
    have:=H4.out;rw[←HB.out];exact zw15 (by omega))
   go_wp2_with fail;go_ret;exact⟨by rw[HF.out];rfl,rfl⟩
end Go.Proofs.YtbopblbhjcemaaaGreatDoor.Delta
