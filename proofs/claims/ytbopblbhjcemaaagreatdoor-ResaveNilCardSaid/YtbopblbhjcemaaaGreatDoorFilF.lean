/- Contracts of package file: Build. -/
import Derived.Test.YtbopblbhjcemaaaGreatDoorF22
set_option maxHeartbeats 16000000
set_option maxRecDepth 100000
set_option linter.all false
open Go.ChangeShapes Go.WideShapes Go.ChangeAt Go.RowKit
namespace Go.Proofs.YtbopblbhjcemaaaGreatDoor.Fil
open Wire
open Rec
open Trk (Sl Tv Tk TkV mayT encT BtPost)
open Log (Hv Ev cH cS cV mayH putL encH HdPost PtPost)
def BuPost (w:World) (r:Rc) (e:Ending) (w':World):Prop:=
 Ext w w'∧(mayR r→∀L,putL r.N r.evs=some L→∃v,e= .returned (.tuple #[v,.int .i64 0])∧OwnB w.heap.size w' v (built (encH r.x.hd) L (encT r.tr) r.N.toNat r.K.toNat r.fs))∧
  (¬mayR r→e= .returned (.tuple #[.slice none 0 0,.int .i64 2]))
theorem pls_snoc (k a:Nat) (fs:List (List Nat)) (i:Nat) (h:i<fs.length):pls k 0 [] a (fs.take (i+1))=pls k 0 [] a (fs.take i)++[bg k a fs i]:=by
 have hl:(fs.take i).length=i:=by rw[zw2];omega
 have hl1:(fs.take (i+1)).length=i+1:=by rw[zw2];omega
 refine List.ext_getElem? (fun j=>?_);by_cases hj:j<i
 ·rw[pls_get k _ 0 [] a j (by omega),zw32 (by rw[pls_len];omega),pls_get k _ 0 [] a j (by omega),List.take_take,List.take_take]
  rw[show min j (i+1)=j by omega,show min j i=j by omega]
 ·by_cases hj2:j=i
  ·subst hj2
   rw[pls_get k _ 0 [] a j (by omega),zw33 (by rw[pls_len];omega),pls_len,List.take_take,show min j (j+1)=j by omega];simp[bg,show min j fs.length=j by omega]
  ·rw[List.getElem?_eq_none (by rw[pls_len];omega),List.getElem?_eq_none (by rw[zw0,pls_len,zw27];omega)]
theorem frs_snoc (k:Nat) (fs:List (List Nat)) (i:Nat) (h:i<fs.length):frs k 0 [] (fs.take (i+1))=frs k 0 [] (fs.take i)++tk k i (prv fs i) (fs.getD i []):=by
 have e:fs.take (i+1)=fs.take i++[fs.getD i []]:=by
  rw[List.take_succ_eq_append_getElem h,zw5,zw6 h];rfl
 have hl:(fs.take i).length=i:=by rw[zw2];omega
 rw[e,frs_app,hl,frs,frs,zw18,Nat.zero_add];rfl
theorem frs_le (k:Nat) (fs:List (List Nat)) (i:Nat) (h:∀f∈fs,f.length≤500) (hn:fs.length≤40):(frs k 0 [] (fs.take i)).length≤30000:=by
 have h1:=frs_len k (fs.take i) 0 [] (fun f hf=>h f (List.mem_of_mem_take hf));have h2:(fs.take i).length≤fs.length:=by rw[zw2];omega
 omega
theorem up_pls (k:Nat):∀(l:List (List Nat)) (t:Nat) (was:List Nat) (a last:Nat),last≤a→a+(frs k t was l).length≤1000000000→up last (pls k t was a l)
 | [],_,_,_,_,_,_=>trivial
 | f::l,t,was,a,last,h,hb=>by
  rw[frs,zw0]at hb;exact⟨h,by omega,up_pls k l (t+1) f _ a (by omega) (by omega)⟩
def FRel (W:World) (B k:Nat) (ld:List Nat) (fs:List (List Nat)) (gh:Nat) (wv iv:Value) (wr:World):Prop:=
 ∃(i:Nat) (v p:Value) (s:Sl),i+gh=fs.length∧iv= .int .i64 (i:Int)∧wv= .slice s.A s.n s.c∧BsV W s (prv fs i)∧Bd W wr B v p (ld++frs k 0 [] (fs.take i)) (pls k 0 [] ld.length (fs.take i))
end Go.Proofs.YtbopblbhjcemaaaGreatDoor.Fil
