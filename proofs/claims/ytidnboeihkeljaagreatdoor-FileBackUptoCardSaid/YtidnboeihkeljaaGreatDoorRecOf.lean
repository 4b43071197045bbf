/- Slices of records that came in. -/
import Derived.Test.YtidnboeihkeljaaGreatDoorF02
import Derived.Deep.Fields
set_option maxHeartbeats 16000000
set_option maxRecDepth 100000
set_option linter.all false
namespace Go.Proofs.YtidnboeihkeljaaGreatDoor.Rec
open Go.ChangeShapes Go.WideShapes Go.ChangeAt Go.RowKit Go.Deep
theorem recs_of {H:Type} {enc:TypeId × Value→H} {P:Program} {w:World} {base:Nat} {spare:Nat→Bool} {held:Bool} {fuel:Nat} {a:Option Addr} {len cap:Nat} {x:DataW H × List MemPlace} {t e:TypeId} {k:Nat} {α:Type} {f:α→List Value} {good:α→Prop}
  (hu:P.underlying t=some (.slice e)) (hk:P.cellsOf e=k) (hk0:0<k) (hf:∀y,(f y).length=k) (hel:∀fuel cs x,DataW.trod enc P w base spare held fuel e cs=some x→cs.length=k→∃y,cs=f y∧good y)
  (h:DataW.trod enc P w base spare held fuel t [.slice a len cap]=some x):∃ls:List α,RowR w a len k f ls∧(∀y∈ls,good y)∧cap≤maxLen∧len≤cap:=by
 rcases open_slice hu h with ⟨hcs,_⟩ | ⟨ad,l,c,m,n,D,Pl,hcs,hb,hl,hm,hmm,hx,hi⟩
 ·obtain⟨rfl,rfl,rfl⟩:=Value.slice.inj (List.cons.inj hcs).1
  exact⟨[],RowR.nil _ _ _ _,by simp,by unfold maxLen;omega,zw8 _⟩
 ·obtain⟨rfl,rfl,rfl⟩:=Value.slice.inj (List.cons.inj hcs).1
  have hlm:len≤m:=by rw[hmm];split<;>omega
  rw[hk]at hi;have key:∀i,i<len→∃y:α,good y∧∀j (hj:j<k),w.cell? ((ad.add (i*k)).add j)=(f y)[j]? :=by
   intro i hil;obtain⟨cs',hc,ht'⟩:=hi i (by omega);obtain⟨_,hcl,hat⟩:=World.cells?_some hc;obtain⟨y,hy,hg⟩:=hel _ _ _ ht' hcl;subst hy;refine⟨y,hg,fun j hj=>?_⟩;rw[hat j hj,zw6 (by rw[hf];exact hj)]
  obtain⟨b,o,spot⟩:=ad
  let g:Fin len→α:=fun i=>Classical.choose (key i.1 i.2)
  have hg:∀i:Fin len,good (g i)∧∀j (hj:j<k),w.cell? (((⟨b,o,spot⟩:Addr).add (i.1*k)).add j)=(f (g i))[j]? :=fun i=>Classical.choose_spec (key i.1 i.2);refine⟨List.ofFn g,⟨by simp,fun h0=>?_⟩,fun y hy=>?_,hm,hl⟩
  ·have hc00:=(hg ⟨0,h0⟩).2 0 hk0
   rw[zw6 (by rw[hf];exact hk0)]at hc00;have hspot:spot=none:=by
    have:=hc00
    simpa [Addr.add]using World.cell?_spot this
   subst hspot;have hadd:∀b o j,(⟨b,o,none⟩:Addr).add j=⟨b,o+j,none⟩:=fun b o j=>by unfold Addr.add;split<;>simp_all
   refine⟨b,o,rfl,?_,fun j hj i hi=>?_⟩
   ·rw[hadd,hadd]at hc00
    exact World.block_lt_of_cell? w _ hc00
   ·have hj':j<len:=by simpa using hj
    have:=(hg ⟨j,hj'⟩).2 i hi;rw[hadd,hadd]at this;rw[List.getElem_ofFn];exact this
  ·obtain⟨i,rfl⟩:=List.mem_ofFn.1 hy
   exact(hg i).1
theorem nat_u8 {n:Int} (h:0≤n∧n≤255):∃m:Nat,n=(m:Int)∧m<256:=⟨n.toNat,by omega,by omega⟩
theorem nat_u16 {n:Int} (h:0≤n∧n≤65535):∃m:Nat,n=(m:Int)∧m<65536:=⟨n.toNat,by omega,by omega⟩
theorem nat_u32 {n:Int} (h:0≤n∧n≤4294967295):∃m:Nat,n=(m:Int)∧m<4294967296:=⟨n.toNat,by omega,by omega⟩
end Go.Proofs.YtidnboeihkeljaaGreatDoor.Rec
