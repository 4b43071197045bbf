/- Tracks: taken, walked. -/
import Derived.Test.YtbopblbhjcemaaaGreatDoorF19
import Derived.Test.YtbopblbhjcemaaaGreatDoorF20
set_option maxHeartbeats 16000000
set_option maxRecDepth 100000
set_option linter.all false
open Go.ChangeShapes Go.WideShapes Go.ChangeAt Go.RowKit
namespace Go.Proofs.YtbopblbhjcemaaaGreatDoor.Trk
open Wire
open Rec
open Log (pN pI pF pB pT nx va RSt RIn num_st int_st text_st err_st end_st of_st blk_kept results_cell2 hmxL OwnR_keep pN_ok pI_ok pT_ok)
def zeroT:Array Value:= #[.slice none 0 0,.slice none 0 0,.slice none 0 0,.slice none 0 0,.slice none 0 0]
def TtPost (w:World) (n:Int) (L:List Nat) (e:Ending) (w':World):Prop:=
 Ext w w'∧match takeT n L with
 | none=>∃x:Int,x≠0∧e= .returned (.tuple #[.agg zeroT,.int .i64 x])
 | some x=>∃t:Tv,e= .returned (.tuple #[.agg t.cells,.int .i64 0])∧TkV w' t x
def NewT (w:World) (t:Tv):Prop:=(∀a,t.s0.A=some a→w.heap.size≤a.block)∧(∀a,t.s1.A=some a→w.heap.size≤a.block)∧(∀a,t.s2.A=some a→w.heap.size≤a.block)∧(∀a,t.s3.A=some a→w.heap.size≤a.block)∧∀a,t.sm.A=some a→w.heap.size≤a.block
def TuPost (w:World) (n:Int) (L:List Nat) (e:Ending) (w':World):Prop:=
 Ext w w'∧match takeT n L with
 | none=>∃x:Int,x≠0∧e= .returned (.tuple #[.agg zeroT,.int .i64 x])
 | some x=>∃t:Tv,e= .returned (.tuple #[.agg t.cells,.int .i64 0])∧TkV w' t x∧NewT w t
theorem tt_ok {w w':World} {n:Int} {L:List Nat} {x:Tk} {t:Tv} (hE:Ext w w') (h:takeT n L=some x) (hO:TkV w' t x) (hN:NewT w t):TuPost w n L (.returned (.tuple #[.agg t.cells,.int .i64 0])) w':=by
 refine⟨hE,?_⟩;rw[h];exact⟨t,rfl,hO,hN⟩
theorem tt_bad {w w':World} {n:Int} {L:List Nat} {x:Int} (hE:Ext w w') (h:takeT n L=none) (hx:x≠0):TuPost w n L (.returned (.tuple #[.agg zeroT,.int .i64 x])) w':=by
 refine⟨hE,?_⟩;rw[h];exact⟨x,hx,rfl⟩
theorem nxC_len {st:Option (List Nat)} {m:Nat} {f:List Nat→Option (List Pt × List Nat)} (h:∀L,st=some L→L.length≤m) (hf:∀L ps R,f L=some (ps,R)→R.length≤L.length):∀L,nx f st=some L→L.length≤m:=by
 intro L hL
 cases st with
 | none=>simp[nx]at hL
 | some M=>
  cases hq:f M with
  | none=>simp[nx,hq]at hL
  | some q=>
   obtain⟨ps,R⟩:=q;have e:R=L:=by simpa [nx,hq]using hL
   subst e;exact zw10 (hf M ps R hq) (h M rfl)
theorem pN_le {L R:List Nat} {v:Nat} (h:pN L=some (v,R)):R.length≤L.length:=by
 unfold pN at h
 split at h
 ·cases h;rw[zw1];omega
 ·cases h
theorem pI_le {L R:List Nat} {v:Nat} (h:pI L=some (v,R)):R.length≤L.length:=by
 unfold pI at h
 split at h
 ·cases h;rw[zw1];omega
 ·cases h
theorem pPs_le:∀(k last:Nat) (L:List Nat) (ps:List Pt) (R:List Nat),pPs k last L=some (ps,R)→R.length≤L.length:=by
 intro k
 induction k with
 | zero=>intro last L ps R h;cases h;exact zw8 _
 | succ k ih=>
  intro last L ps R h;rw[pPs]at h
  split at h
  ·cases h
  rename_i d L1 h1
  split at h
  ·cases h
  rename_i x L2 h2
  split at h
  ·cases h
  rename_i y L3 h3
  split at h
  ·cases h
  rename_i ps2 R2 h4;cases h
  have:=pI_le h1;have:=pI_le h2;have:=pI_le h3;have:=ih _ _ _ _ h4;omega
theorem pCm_le {L:List Nat} {ps:List Pt} {R:List Nat} (h:pCm L=some (ps,R)):R.length≤L.length:=by
 unfold pCm at h
 split at h
 ·cases h
 rename_i k L1 h1;have:=pN_le h1;have:=pPs_le _ _ _ _ _ h;omega
theorem nxM_len {L L3:List Nat} (h:nx (pT 40) (nx pI (some L))=some L3):L3.length+1≤L.length:=by
 cases h1:pI L with
 | none=>simp[nx,h1]at h
 | some p1=>
  obtain⟨d,L1⟩:=p1
  cases h2:pT 40 L1 with
  | none=>simp[nx,h1,h2]at h
  | some p2=>
   obtain⟨x,L2⟩:=p2;have e:L2=L3:=by simpa [nx,h1,h2]using h
   subst e;have q1:L2.length+1≤L1.length:=by
    unfold pT at h2
    split at h2
    ·rename_i nn M hn
     split at h2
     ·unfold Log.pB at h2
      split at h2
      ·cases h2
       have q:M.length+1≤L1.length:=by
        unfold pN at hn
        split at hn
        ·rename_i v k hv
         cases hn
         have h2:∀(N:List Nat) (size acc v k:Nat),vr size acc N= .ok v k→size<k∧k≤size+N.length:=by
          intro N
          induction N with
          | nil=>intro size acc v k h;simp[vr]at h
          | cons c cs ih=>
           intro size acc v k h;rw[vr]at h
           split at h
           ·cases h
           ·split at h
            ·cases h;rw[zw3];omega
            ·have:=ih _ _ _ _ h
             rw[zw3];omega
         have:=h2 L1 0 0 _ _ hv;rw[zw1];omega
        ·cases hn
       rw[zw1];omega
      ·cases h2
     ·cases h2
    ·cases h2
   have:=pI_le h1;omega
theorem vaT_len {st:Option (List Nat)} (h:∀L,st=some L→∀c∈L,c<256):(va (pT 40) [] st).length≤40:=by
 unfold va
 cases hs:st with
 | none=>simp
 | some L=>
  cases hq:pT 40 L with
  | none=>simp[hq]
  | some q=>
   obtain⟨ys,R⟩:=q;have:=(pT_ok (h L hs) hq).2
   simpa [hq]using this
theorem TkV.set {w:World} {t:Tv} {x:Tk} {rb:Nat} (h:TkV w t x) (h0:∀a,t.s0.A=some a→a.block≠rb) (h1:∀a,t.s1.A=some a→a.block≠rb) (h2:∀a,t.s2.A=some a→a.block≠rb) (h3:∀a,t.s3.A=some a→a.block≠rb) (hm:∀a,t.sm.A=some a→a.block≠rb) (i:Nat) (v:Value):TkV (w.setCell ⟨rb,i,none⟩ v) t x:=by
 have hs:w.heap.size≤(w.setCell ⟨rb,i,none⟩ v).heap.size:=by simp[World.setCell]
 have hk:∀b,b≠rb→(w.setCell ⟨rb,i,none⟩ v).heap[b]? =w.heap[b]? :=fun b hb=>zw46 w ⟨rb,i,none⟩ v b hb;exact⟨⟨h.1.1.keep hs (fun a ha _=>hk _ (h0 a ha)),h.1.2⟩,⟨h.2.1.1.keep hs (fun a ha _=>hk _ (h1 a ha)),h.2.1.2⟩,⟨h.2.2.1.1.keep hs (fun a ha _=>hk _ (h2 a ha)),h.2.2.1.2⟩,⟨h.2.2.2.1.1.keep hs (fun a ha _=>hk _ (h3 a ha)),h.2.2.2.1.2⟩,⟨h.2.2.2.2.1.keep hs (fun a ha _=>hk _ (hm a ha)),h.2.2.2.2.2⟩⟩
theorem takeT_eq {n:Int} (hn:0≤n∧n≤4096) (xs:List Nat):(∀x,pTk xs=some (x,[])→takeT n xs=if mayT n x=true then some x else none)∧((∀x,pTk xs≠some (x,[]))→takeT n xs=none):=by
 unfold takeT;rw[if_pos hn];refine⟨fun x h=>by rw[h],fun h=>?_⟩
 cases hq:pTk xs with
 | none=>rfl
 | some q=>
  obtain⟨x,R⟩:=q
  cases R with
  | nil=>exact absurd hq (h x)
  | cons a b=>rfl
theorem restM_init {st:Option (List Nat)} {m:Nat} (h:∀L,st=some L→L.length≤m):(nx pN st=none→st.bind pMk=none)∧∀L,nx pN st=some L→st.bind pMk=restM [] (va pN 0 st) 0 L∧([]:List Mk).length+L.length≤m:=by
 cases st with
 | none=>simp[nx]
 | some M=>
  cases hq:pN M with
  | none=>simp[nx,hq,pMk]
  | some q=>
   obtain⟨k,L1⟩:=q;refine⟨fun h=>by simp[nx,hq]at h,fun L hL=>?_⟩;have e:L1=L:=by simpa [nx,hq]using hL
   subst e;have e2:va pN 0 (some M)=k:=by simp[va,hq]
   rw[e2];refine⟨?_,?_⟩
   ·simp only[Option.bind_some,pMk,hq,restM,zw17]
    cases pMs k 0 L1 with
    | none=>rfl
    | some q=>rfl
   ·have:=pN_le hq
    have:=h M rfl;simp only[zw26];omega
def MW (w wm:World) (rb hb Bm g:Nat) (A:Option Addr) (m c:Nat) (xs:List Nat) (cs:Array Value) (v:Value) (ms:List Mk) (st:Option (List Nat)) (W:World):Prop:=
 Blk W hb 37 cs∧OwnR Bm W 52 2 cM v ms∧RSt W g A m c xs st∧Blk W rb 37 zeroT∧(∀k,hb+1≤k→k<Bm→W.heap[k]? =wm.heap[k]?)∧Ext w W∧Bm≤W.heap.size
section
variable {w wm W : World} {rb hb Bm g m c : Nat} {A : Option Addr} {xs : List Nat} {cs : Array Value} {v : Value} {ms : List Mk} {st : Option (List Nat)}
theorem MW.ext {W':World} (h:MW w wm rb hb Bm g A m c xs cs v ms st W) (e:Ext W W'):MW w wm rb hb Bm g A m c xs cs v ms st W':=
 ⟨h.1.ext e,h.2.1.ext e,h.2.2.1.ext e,h.2.2.2.1.ext e,fun k h1 h2=>(e.block k (zw9 h2 h.2.2.2.2.2.2)).trans (h.2.2.2.2.1 k h1 h2),zxt h.2.2.2.2.2.1 e,zw10 h.2.2.2.2.2.2 e.size⟩
theorem MW.read {W':World} {st':Option (List Nat)} (h:MW w wm rb hb Bm g A m c xs cs v ms st W) (h1:w.heap.size≤g∧rb<g) (h2:g<hb) (h3:hb<Bm) (hS:RSt W' g A m c xs st') (hG:W.grownBy W' (some g)):MW w wm rb hb Bm g A m c xs cs v ms st' W':=
 ⟨blk_kept h.1 hG (by omega),h.2.1.grown hG (by omega),hS,blk_kept h.2.2.2.1 hG (by omega),fun k k1 k2=>(hG.block k (zw9 k2 h.2.2.2.2.2.2) (by simp;omega)).trans (h.2.2.2.2.1 k k1 k2),ext_grown h.2.2.2.2.2.1 hG (fun q e=>by cases e;omega),zw10 h.2.2.2.2.2.2 hG.size⟩
theorem MW.app {W':World} {v':Value} {ms':List Mk} (h:MW w wm rb hb Bm g A m c xs cs v ms st W) (hb1:w.heap.size≤rb∧rb<hb∧hb<Bm∧RIn hb g A m) (hO:OwnR Bm W' 52 2 cM v' ms') (hG:W.grownBy W' v.ownBlock):MW w wm rb hb Bm g A m c xs cs v' ms' st W':=by
 have hob:∀k,v.ownBlock=some k→Bm≤k:=fun k e=>(zw23 h.2.1 k e).1;have hk:∀k,k<Bm→W'.heap[k]? =W.heap[k]? :=fun k hk=>hG.block k (zw9 hk h.2.2.2.2.2.2) (fun e=>by have:=hob k e.symm;omega);obtain⟨q1,q2,q3,q4⟩:=hb1;exact⟨(hk hb q3).trans h.1,hO,h.2.2.1.keep q4 (fun k hk'=>hk k (by omega)) hG.size,(hk rb (by omega)).trans h.2.2.2.1,fun k k1 k2=>(hk k k2).trans (h.2.2.2.2.1 k k1 k2),ext_grown h.2.2.2.2.2.1 hG (fun q e=>by have:=hob q e;omega),zw10 h.2.2.2.2.2.2 hG.size⟩
theorem MW.store {cs':Array Value} (h:MW w wm rb hb Bm g A m c xs cs v ms st W) (hb1:w.heap.size≤rb∧rb<hb∧hb<Bm∧RIn hb g A m) (i:Nat) (u:Value) (hc:cs.setIfInBounds i u=cs'):MW w wm rb hb Bm g A m c xs cs' v ms st (W.setCell ⟨hb,i,none⟩ u):=by
 obtain⟨q1,q2,q3,q4⟩:=hb1;refine⟨by rw[←hc];exact h.1.set_ i u,OwnR_keep h.2.1 (fun k hk _=>zw46 W ⟨hb,i,none⟩ u k (by show k≠hb;omega)),h.2.2.1.set q4 (by show hb≤hb;omega) u,h.2.2.2.1.far (by show rb≠hb;omega) u,fun k k1 k2=>(zw46 W ⟨hb,i,none⟩ u k (by show k≠hb;omega)).trans (h.2.2.2.2.1 k k1 k2),ext_set h.2.2.2.2.2.1 (by show w.heap.size≤hb;omega) u,by have:=h.2.2.2.2.2.2;simpa [World.setCell]using this⟩
end
def MRel (w wm:World) (rb hb Bm g:Nat) (A:Option Addr) (m c:Nat) (xs:List Nat) (v0 v1 v2 v3:Value) (O:Option (List Mk × List Nat)) (gh:Nat) (lv kv:Value) (wr:World):Prop:=
 ∃(ms:List Mk) (last:Nat) (st:Option (List Nat)) (Am:Option Addr) (nm cm:Nat),lv= .int .i64 (last:Int)∧kv= .int .u64 (gh:Int)∧gh<18446744073709551616∧MW w wm rb hb Bm g A m c xs #[v0,v1,v2,v3,.slice Am nm cm] (.slice Am nm cm) ms st wr∧
  (st=none→O=none)∧(∀L,st=some L→O=restM ms gh last L∧ms.length+L.length≤m)∧ms.length≤m+1∧last≤ms.length*2147483647∧∀q∈ms,q.name.size≤9223372036854775807
theorem take_tu (A:Option Addr) (m c:Nat) (xs:List Nat) (n:Int) (w:World) (hB:Bs w A m xs) (hnil:A=none→m=0∧c=0) (hm:m≤1000000) (hN1: -9223372036854775808≤n) (hN2:n≤9223372036854775807):
  Calls Tryz.prog 65 #[.slice A m c,.int .i64 n] w (TuPost w n xs):=by
 have hE0:=zxa (zxr w) (.cells zeroT 37);have HZB:=zh (Blk.new w 37 zeroT);have HT:=zh (ticks_st n (w.alloc (.cells zeroT 37)));have HOF:=zh (fun(w':World) (e:Ext w w')=>of_st A m c xs w' (hB.ext e) hnil (by omega));have HSML:=zh (fun(L:List Nat) (ps:List Pt) (R:List Nat) (h:pCm L=some (ps,R))=>pCm_le h);have HXL:=zh hB.1;have HSM:Hid (∀c∈xs,c<256):=zh (mem_small hB.2.1);have HE00:=zh hE0;clear hB hnil hE0;unfold zeroT at HT HE00 HZB;by_cases hn:0≤n∧n≤4096
 ·rw[zw15 hn]at HT
  have HTQ:=zh (takeT_eq hn xs);clear hn;go_enter Tryz.func65,Tryz.ntmps65;go_wp2_with fail;refine(HT.out).mono ?_;rintro e w1 ⟨rfl,hE1⟩;have HE1:=zh (zxt HE00.out hE1);have HZ1:=zh (HZB.out.ext hE1);clear hE1 HE00 HZB HT;go_wp2_with fail;refine(HOF.out w1 HE1.out).mono ?_;rintro e w2 ⟨g,A',c',rfl,hg,hS,hE2,hfar⟩;have HLV:Hid (∃hb rb,hb=w2.heap.size∧rb=w.heap.size∧rb<hb∧rb<g∧g<hb∧w.heap.size≤hb∧w.heap.size≤g):=zh ⟨_,_,rfl,rfl,by
   have h1:=hE2.size;have h2:=HZ1.out.lt;have h3:=hS.lt;omega⟩
  have HR00:=zh hS.rin;have HZ0:=zh ((HZ1.out.ext hE2).alloc (.cells zeroT 37));have HH0:=zh (Blk.new w2 37 zeroT);have HE0:=zh (zxa (zxt HE1.out hE2) (.cells zeroT 37));have HS0:=zh (hS.ext (zxa (zxr w2) (.cells zeroT 37)));have HSZ0:Hid (w2.heap.size+1≤(w2.alloc (.cells zeroT 37)).heap.size):=zh (by rw[zw22];omega);have HST0:Hid (∀L,(some xs:Option (List Nat))=some L→L.length≤m):=zh (fun L e=>by cases e;rw[HXL.out];omega);clear hS hE2 hg hfar HZ1 HE1 HOF;go_upto_region 5 with fail;unfold zeroT at HZ0 HH0 HE0 HS0 HSZ0;obtain⟨w3,hw3⟩:∃q,q=w2.alloc (.cells #[.slice none 0 0,.slice none 0 0,.slice none 0 0,.slice none 0 0,.slice none 0 0] 37):=⟨_,rfl⟩;rw[←hw3]at HZ0 HH0 HE0 HS0 HSZ0 ⊢;clear hw3;obtain⟨hb,rb,hhb,hrb,HLV1⟩:=HLV.out;rw[←hhb]at HH0 HSZ0 HR00 ⊢;rw[←hrb]at HZ0 ⊢;obtain⟨B1,hB1⟩:∃q,q=hb:=⟨_,rfl⟩;have HR0:Hid (RIn B1 g A' m):=zh (by rw[hB1];exact HR00.out);replace HLV:=zh (And.intro hB1 (And.intro hrb HLV1));clear hhb hrb HLV1 hB1 HR00;go_wp2_with fail;refine wp_loop_rounds 5 ?_;rw[rounds_succ];have HTC0:=zh (takeCam_st g m c' A' xs (some xs) w3 HS0.out hm HST0.out);have hix:=(idx4 (.slice none 0 0) (.slice none 0 0) (.slice none 0 0) (.slice none 0 0) w3).1;clear hix;go_wp2_with fail;refine(HTC0.out).mono ?_;rintro e wa0 ⟨A0,n0,c0,ds0,rfl,hO,hS,hG,hD⟩;obtain⟨Aq,cq,hv,hl1,hl2,hl3,hl4⟩:=hO.shape;obtain⟨e1,e2,e3⟩:=Value.slice.inj hv;subst e1 e2 e3;clear hv HTC0;have HD0:=zh hD;have HP0:Hid (RowR wa0 A0 ds0.length 3 cP ds0):=zh (OwnR.row cP_len hO);have HL0:Hid ((∀a,A0=some a→hb+1≤a.block)∧ds0.length≤c0∧c0≤9223372036854775807∧(A0=none→ds0.length=0∧c0=0)):=zh ⟨fun a ha=>zw10 HSZ0.out (hl4 a ha),hl1,hl2,hl3⟩
  have hB:=blk_kept HH0.out hG (by have:=HLV.out;omega);have HBa:=zh hB;have HZa:=zh (blk_kept HZ0.out hG (by have:=HLV.out;omega));have HEa:Hid (Ext w wa0):=zh (ext_grown HE0.out hG (fun q e=>by cases e;have:=HLV.out;omega));have HSZa:=zh (zw10 HSZ0.out hG.size);have HSa:=zh hS;have hc:=fun i=>HBa.out.cell i;have hfz:=fun i=>HBa.out.frozen i;have hl0e:∀L,(nx pCm (some xs))=some L→L.length≤m:=nxC_len HST0.out HSML.out;have HST1:=zh hl0e;clear hO hS hG hD hl1 hl2 hl3 hl4 hB HH0 HZ0 HE0 HSZ0 HS0 hl0e;generalize hn0:ds0.length=n0 at*;replace hn0:=zh hn0;go_wp2_with fail;have HH1:Hid (Blk (wa0.setCell ⟨hb,0,none⟩ (.slice A0 n0 c0)) hb 37 #[.slice A0 n0 c0,.slice none 0 0,.slice none 0 0,.slice none 0 0,.slice none 0 0]):=zh (HBa.out.set_ 0 _);have HZ1:=zh (HZa.out.far (p:=⟨hb,0,none⟩) (by have:=HLV.out;show rb≠hb;omega) (.slice A0 n0 c0));have HE1:=zh (ext_set HEa.out (p:=⟨hb,0,none⟩) (by have:=HLV.out;show w.heap.size≤hb;omega) (.slice A0 n0 c0));have HS1:=zh (HSa.out.set HR0.out (p:=⟨hb,0,none⟩) (by have:=HLV.out;show B1≤hb;omega) (.slice A0 n0 c0));have HSZ1:Hid (hb+1≤(wa0.setCell ⟨hb,0,none⟩ (.slice A0 n0 c0)).heap.size):=zh (by have:=HSZa.out;simpa [World.setCell]using this);replace HP0:=zh (HP0.out.keep (w':=wa0.setCell ⟨hb,0,none⟩ (.slice A0 n0 c0)) (by simp[World.setCell]) (fun a ha _=>zw46 _ ⟨hb,0,none⟩ _ _ (by have:=HL0.out.1 a ha;show a.block≠hb;omega)));obtain⟨wb0,hwn⟩:∃q,q=wa0.setCell ⟨hb,0,none⟩ (.slice A0 n0 c0):=⟨_,rfl⟩;rw[←hwn]at HH1 HZ1 HE1 HS1 HSZ1 HP0 ⊢;clear hwn hc hfz HBa HZa HEa HSZa HSa
  rw[rounds_succ];have HTC1:=zh (takeCam_st g m c' A' xs (nx pCm (some xs)) wb0 HS1.out hm HST1.out);have hix:=(idx4 (.slice none 0 0) (.slice none 0 0) (.slice none 0 0) (.slice none 0 0) wb0).1;clear hix;go_wp2_with fail;refine(HTC1.out).mono ?_;rintro e wa1 ⟨A1,n1,c1,ds1,rfl,hO,hS,hG,hD⟩;obtain⟨Aq,cq,hv,hl1,hl2,hl3,hl4⟩:=hO.shape;obtain⟨e1,e2,e3⟩:=Value.slice.inj hv;subst e1 e2 e3;clear hv HTC1;have HD1:=zh hD;have HP1:Hid (RowR wa1 A1 ds1.length 3 cP ds1):=zh (OwnR.row cP_len hO);have HL1:Hid ((∀a,A1=some a→hb+1≤a.block)∧ds1.length≤c1∧c1≤9223372036854775807∧(A1=none→ds1.length=0∧c1=0)):=zh ⟨fun a ha=>zw10 HSZ1.out (hl4 a ha),hl1,hl2,hl3⟩;have hB:=blk_kept HH1.out hG (by have:=HLV.out;omega);have HBa:=zh hB;have HZa:=zh (blk_kept HZ1.out hG (by have:=HLV.out;omega));have HEa:Hid (Ext w wa1):=zh (ext_grown HE1.out hG (fun q e=>by cases e;have:=HLV.out;omega));have HSZa:=zh (zw10 HSZ1.out hG.size);have HSa:=zh hS;replace HP0:=zh (HP0.out.grown hG (fun a ha _=>by have:=HL0.out.1 a ha;have:=HLV.out;intro e;have:=zw13 e;omega));have hc:=fun i=>HBa.out.cell i;have hfz:=fun i=>HBa.out.frozen i;have hl1e:∀L,(nx pCm (nx pCm (some xs)))=some L→L.length≤m:=nxC_len HST1.out HSML.out;have HST2:=zh hl1e;clear hO hS hG hD hl1 hl2 hl3 hl4 hB HH1 HZ1 HE1 HSZ1 HS1 hl1e;generalize hn1:ds1.length=n1 at*;replace hn1:=zh hn1;go_wp2_with fail;have HH2:Hid (Blk (wa1.setCell ⟨hb,1,none⟩ (.slice A1 n1 c1)) hb 37 #[.slice A0 n0 c0,.slice A1 n1 c1,.slice none 0 0,.slice none 0 0,.slice none 0 0]):=zh (HBa.out.set_ 1 _)
  have HZ2:=zh (HZa.out.far (p:=⟨hb,1,none⟩) (by have:=HLV.out;show rb≠hb;omega) (.slice A1 n1 c1));have HE2:=zh (ext_set HEa.out (p:=⟨hb,1,none⟩) (by have:=HLV.out;show w.heap.size≤hb;omega) (.slice A1 n1 c1));have HS2:=zh (HSa.out.set HR0.out (p:=⟨hb,1,none⟩) (by have:=HLV.out;show B1≤hb;omega) (.slice A1 n1 c1));have HSZ2:Hid (hb+1≤(wa1.setCell ⟨hb,1,none⟩ (.slice A1 n1 c1)).heap.size):=zh (by have:=HSZa.out;simpa [World.setCell]using this);replace HP0:=zh (HP0.out.keep (w':=wa1.setCell ⟨hb,1,none⟩ (.slice A1 n1 c1)) (by simp[World.setCell]) (fun a ha _=>zw46 _ ⟨hb,1,none⟩ _ _ (by have:=HL0.out.1 a ha;show a.block≠hb;omega)));replace HP1:=zh (HP1.out.keep (w':=wa1.setCell ⟨hb,1,none⟩ (.slice A1 n1 c1)) (by simp[World.setCell]) (fun a ha _=>zw46 _ ⟨hb,1,none⟩ _ _ (by have:=HL1.out.1 a ha;show a.block≠hb;omega)));obtain⟨wb1,hwn⟩:∃q,q=wa1.setCell ⟨hb,1,none⟩ (.slice A1 n1 c1):=⟨_,rfl⟩;rw[←hwn]at HH2 HZ2 HE2 HS2 HSZ2 HP0 HP1 ⊢;clear hwn hc hfz HBa HZa HEa HSZa HSa;rw[rounds_succ];have HTC2:=zh (takeCam_st g m c' A' xs (nx pCm (nx pCm (some xs))) wb1 HS2.out hm HST2.out);have hix:=(idx4 (.slice none 0 0) (.slice none 0 0) (.slice none 0 0) (.slice none 0 0) wb1).1;clear hix;go_wp2_with fail;refine(HTC2.out).mono ?_;rintro e wa2 ⟨A2,n2,c2,ds2,rfl,hO,hS,hG,hD⟩;obtain⟨Aq,cq,hv,hl1,hl2,hl3,hl4⟩:=hO.shape;obtain⟨e1,e2,e3⟩:=Value.slice.inj hv;subst e1 e2 e3;clear hv HTC2;have HD2:=zh hD;have HP2:Hid (RowR wa2 A2 ds2.length 3 cP ds2):=zh (OwnR.row cP_len hO);have HL2:Hid ((∀a,A2=some a→hb+1≤a.block)∧ds2.length≤c2∧c2≤9223372036854775807∧(A2=none→ds2.length=0∧c2=0)):=zh ⟨fun a ha=>zw10 HSZ2.out (hl4 a ha),hl1,hl2,hl3⟩
  have hB:=blk_kept HH2.out hG (by have:=HLV.out;omega);have HBa:=zh hB;have HZa:=zh (blk_kept HZ2.out hG (by have:=HLV.out;omega));have HEa:Hid (Ext w wa2):=zh (ext_grown HE2.out hG (fun q e=>by cases e;have:=HLV.out;omega));have HSZa:=zh (zw10 HSZ2.out hG.size);have HSa:=zh hS;replace HP0:=zh (HP0.out.grown hG (fun a ha _=>by have:=HL0.out.1 a ha;have:=HLV.out;intro e;have:=zw13 e;omega));replace HP1:=zh (HP1.out.grown hG (fun a ha _=>by have:=HL1.out.1 a ha;have:=HLV.out;intro e;have:=zw13 e;omega));have hc:=fun i=>HBa.out.cell i;have hfz:=fun i=>HBa.out.frozen i;have hl2e:∀L,(nx pCm (nx pCm (nx pCm (some xs))))=some L→L.length≤m:=nxC_len HST2.out HSML.out;have HST3:=zh hl2e;clear hO hS hG hD hl1 hl2 hl3 hl4 hB HH2 HZ2 HE2 HSZ2 HS2 hl2e;generalize hn2:ds2.length=n2 at*;replace hn2:=zh hn2;go_wp2_with fail;have HH3:Hid (Blk (wa2.setCell ⟨hb,2,none⟩ (.slice A2 n2 c2)) hb 37 #[.slice A0 n0 c0,.slice A1 n1 c1,.slice A2 n2 c2,.slice none 0 0,.slice none 0 0]):=zh (HBa.out.set_ 2 _);have HZ3:=zh (HZa.out.far (p:=⟨hb,2,none⟩) (by have:=HLV.out;show rb≠hb;omega) (.slice A2 n2 c2));have HE3:=zh (ext_set HEa.out (p:=⟨hb,2,none⟩) (by have:=HLV.out;show w.heap.size≤hb;omega) (.slice A2 n2 c2));have HS3:=zh (HSa.out.set HR0.out (p:=⟨hb,2,none⟩) (by have:=HLV.out;show B1≤hb;omega) (.slice A2 n2 c2));have HSZ3:Hid (hb+1≤(wa2.setCell ⟨hb,2,none⟩ (.slice A2 n2 c2)).heap.size):=zh (by have:=HSZa.out;simpa [World.setCell]using this);replace HP0:=zh (HP0.out.keep (w':=wa2.setCell ⟨hb,2,none⟩ (.slice A2 n2 c2)) (by simp[World.setCell]) (fun a ha _=>zw46 _ ⟨hb,2,none⟩ _ _ (by have:=HL0.out.1 a ha;show a.block≠hb;omega)))
  replace HP1:=zh (HP1.out.keep (w':=wa2.setCell ⟨hb,2,none⟩ (.slice A2 n2 c2)) (by simp[World.setCell]) (fun a ha _=>zw46 _ ⟨hb,2,none⟩ _ _ (by have:=HL1.out.1 a ha;show a.block≠hb;omega)));replace HP2:=zh (HP2.out.keep (w':=wa2.setCell ⟨hb,2,none⟩ (.slice A2 n2 c2)) (by simp[World.setCell]) (fun a ha _=>zw46 _ ⟨hb,2,none⟩ _ _ (by have:=HL2.out.1 a ha;show a.block≠hb;omega)));obtain⟨wb2,hwn⟩:∃q,q=wa2.setCell ⟨hb,2,none⟩ (.slice A2 n2 c2):=⟨_,rfl⟩;rw[←hwn]at HH3 HZ3 HE3 HS3 HSZ3 HP0 HP1 HP2 ⊢;clear hwn hc hfz HBa HZa HEa HSZa HSa;rw[rounds_succ];have HTC3:=zh (takeCam_st g m c' A' xs (nx pCm (nx pCm (nx pCm (some xs)))) wb2 HS3.out hm HST3.out);have hix:=(idx4 (.slice none 0 0) (.slice none 0 0) (.slice none 0 0) (.slice none 0 0) wb2).1;clear hix;go_wp2_with fail;refine(HTC3.out).mono ?_;rintro e wa3 ⟨A3,n3,c3,ds3,rfl,hO,hS,hG,hD⟩;obtain⟨Aq,cq,hv,hl1,hl2,hl3,hl4⟩:=hO.shape;obtain⟨e1,e2,e3⟩:=Value.slice.inj hv;subst e1 e2 e3;clear hv HTC3;have HD3:=zh hD;have HP3:Hid (RowR wa3 A3 ds3.length 3 cP ds3):=zh (OwnR.row cP_len hO);have HL3:Hid ((∀a,A3=some a→hb+1≤a.block)∧ds3.length≤c3∧c3≤9223372036854775807∧(A3=none→ds3.length=0∧c3=0)):=zh ⟨fun a ha=>zw10 HSZ3.out (hl4 a ha),hl1,hl2,hl3⟩;have hB:=blk_kept HH3.out hG (by have:=HLV.out;omega);have HBa:=zh hB;have HZa:=zh (blk_kept HZ3.out hG (by have:=HLV.out;omega));have HEa:Hid (Ext w wa3):=zh (ext_grown HE3.out hG (fun q e=>by cases e;have:=HLV.out;omega));have HSZa:=zh (zw10 HSZ3.out hG.size);have HSa:=zh hS;replace HP0:=zh (HP0.out.grown hG (fun a ha _=>by have:=HL0.out.1 a ha;have:=HLV.out;intro e;have:=zw13 e;omega))
  replace HP1:=zh (HP1.out.grown hG (fun a ha _=>by have:=HL1.out.1 a ha;have:=HLV.out;intro e;have:=zw13 e;omega));replace HP2:=zh (HP2.out.grown hG (fun a ha _=>by have:=HL2.out.1 a ha;have:=HLV.out;intro e;have:=zw13 e;omega));have hc:=fun i=>HBa.out.cell i;have hfz:=fun i=>HBa.out.frozen i;have hl3e:∀L,(nx pCm (nx pCm (nx pCm (nx pCm (some xs)))))=some L→L.length≤m:=nxC_len HST3.out HSML.out;have HST4:=zh hl3e;clear hO hS hG hD hl1 hl2 hl3 hl4 hB HH3 HZ3 HE3 HSZ3 HS3 hl3e;generalize hn3:ds3.length=n3 at*;replace hn3:=zh hn3;go_wp2_with fail;have HH4:Hid (Blk (wa3.setCell ⟨hb,3,none⟩ (.slice A3 n3 c3)) hb 37 #[.slice A0 n0 c0,.slice A1 n1 c1,.slice A2 n2 c2,.slice A3 n3 c3,.slice none 0 0]):=zh (HBa.out.set_ 3 _);have HZ4:=zh (HZa.out.far (p:=⟨hb,3,none⟩) (by have:=HLV.out;show rb≠hb;omega) (.slice A3 n3 c3));have HE4:=zh (ext_set HEa.out (p:=⟨hb,3,none⟩) (by have:=HLV.out;show w.heap.size≤hb;omega) (.slice A3 n3 c3));have HS4:=zh (HSa.out.set HR0.out (p:=⟨hb,3,none⟩) (by have:=HLV.out;show B1≤hb;omega) (.slice A3 n3 c3));have HSZ4:Hid (hb+1≤(wa3.setCell ⟨hb,3,none⟩ (.slice A3 n3 c3)).heap.size):=zh (by have:=HSZa.out;simpa [World.setCell]using this);replace HP0:=zh (HP0.out.keep (w':=wa3.setCell ⟨hb,3,none⟩ (.slice A3 n3 c3)) (by simp[World.setCell]) (fun a ha _=>zw46 _ ⟨hb,3,none⟩ _ _ (by have:=HL0.out.1 a ha;show a.block≠hb;omega)));replace HP1:=zh (HP1.out.keep (w':=wa3.setCell ⟨hb,3,none⟩ (.slice A3 n3 c3)) (by simp[World.setCell]) (fun a ha _=>zw46 _ ⟨hb,3,none⟩ _ _ (by have:=HL1.out.1 a ha;show a.block≠hb;omega)))
  replace HP2:=zh (HP2.out.keep (w':=wa3.setCell ⟨hb,3,none⟩ (.slice A3 n3 c3)) (by simp[World.setCell]) (fun a ha _=>zw46 _ ⟨hb,3,none⟩ _ _ (by have:=HL2.out.1 a ha;show a.block≠hb;omega)));replace HP3:=zh (HP3.out.keep (w':=wa3.setCell ⟨hb,3,none⟩ (.slice A3 n3 c3)) (by simp[World.setCell]) (fun a ha _=>zw46 _ ⟨hb,3,none⟩ _ _ (by have:=HL3.out.1 a ha;show a.block≠hb;omega)));obtain⟨wb3,hwn⟩:∃q,q=wa3.setCell ⟨hb,3,none⟩ (.slice A3 n3 c3):=⟨_,rfl⟩;rw[←hwn]at HH4 HZ4 HE4 HS4 HSZ4 HP0 HP1 HP2 HP3 ⊢;clear hwn hc hfz HBa HZa HEa HSZa HSa;rw[rounds_succ];go_wp2_with fail;have HNM:=zh (num_st g m c' A' xs (nx pCm (nx pCm (nx pCm (nx pCm (some xs))))) wb3 HS4.out);refine(HNM.out).mono ?_;rintro e wm ⟨rfl,hz,hS,hG⟩;have HPE:=zh (pTk_eq xs ds0 ds1 ds2 ds3 HD0.out HD1.out HD2.out HD3.out);have HRI:=zh (restM_init (st:=nx pCm (nx pCm (nx pCm (nx pCm (some xs))))) HST4.out);generalize va pN 0 (nx pCm (nx pCm (nx pCm (nx pCm (some xs)))))=left at*;generalize hOO:(nx pCm (nx pCm (nx pCm (nx pCm (some xs))))).bind pMk=OO at*;have HBM:Hid (hb<wm.heap.size):=zh (by have:=HSZ4.out;have:=hG.size;omega);have HP0m:=zh (HP0.out.grown hG (fun a ha _=>by have:=HL0.out.1 a ha;have:=HLV.out;intro e;have:=zw13 e;omega));have HP1m:=zh (HP1.out.grown hG (fun a ha _=>by have:=HL1.out.1 a ha;have:=HLV.out;intro e;have:=zw13 e;omega));have HP2m:=zh (HP2.out.grown hG (fun a ha _=>by have:=HL2.out.1 a ha;have:=HLV.out;intro e;have:=zw13 e;omega));have HP3m:=zh (HP3.out.grown hG (fun a ha _=>by have:=HL3.out.1 a ha;have:=HLV.out;intro e;have:=zw13 e;omega))
  have HMW:Hid (MW w wm rb hb wm.heap.size g A' m c' xs #[.slice A0 n0 c0,.slice A1 n1 c1,.slice A2 n2 c2,.slice A3 n3 c3,.slice none 0 0] (.slice none 0 0) [] (nx pN (nx pCm (nx pCm (nx pCm (nx pCm (some xs)))))) wm):=
   zh ⟨blk_kept HH4.out hG (by have:=HLV.out;omega),OwnR.nil _ _ _ _ _,hS,blk_kept HZ4.out hG (by have:=HLV.out;omega),fun _ _ _=>rfl,ext_grown HE4.out hG (fun q e=>by cases e;have:=HLV.out;omega),zw8 _⟩
  have HREL:Hid (MRel w wm rb hb wm.heap.size g A' m c' xs (.slice A0 n0 c0) (.slice A1 n1 c1) (.slice A2 n2 c2) (.slice A3 n3 c3) OO left (.int .i64 0) (.int .u64 (left:Int)) wm):=
   zh ⟨[],0,_,none,0,0,rfl,rfl,hz,HMW.out,HRI.out.1,HRI.out.2,by simp,by simp,(fun q hq=>by cases hq)⟩
  clear hS hG hz HNM HRI hOO HP0 HP1 HP2 HP3 HS4 HH4 HZ4 HE4 HSZ4 HST0 HST1 HST2 HST3 HST4 HD0 HD1 HD2 HD3 HMW HSML;have hgb:w.heap.size≤rb∧rb<hb∧hb<wm.heap.size∧RIn hb g A' m:=⟨by have:=HLV.out;omega,by have:=HLV.out;omega,HBM.out,by have:=HR0.out;rw[HLV.out.1]at this;exact this⟩;have hg1:w.heap.size≤g∧rb<g:=by have:=HLV.out;omega
  have hg2:g<hb:=by have:=HLV.out;omega
  have hg3:hb<wm.heap.size:=HBM.out;obtain⟨Bm,hBm⟩:∃q,q=wm.heap.size:=⟨_,rfl⟩;rw[←hBm]at HREL hgb hg3;replace hBm:=zh hBm;replace hgb:=zh hgb;replace hg1:=zh hg1;replace hg2:=zh hg2;replace hg3:=zh hg3;go_wp2_with fail
  go_loopg [9,10] left (fun gh lv kv wr=>MRel w wm rb hb Bm g A' m c' xs (.slice A0 n0 c0) (.slice A1 n1 c1) (.slice A2 n2 c2) (.slice A3 n3 c3) OO gh lv kv wr)
  case atStart=>exact HREL.out
  case round=>
   obtain⟨ms,last,st,Am,nm,cm,rfl,rfl,hgh,hMW,hn0,hs0,hdl,hll,hnm⟩:=hrel;obtain⟨wi,rfl⟩:∃wi:World,wi=wr:=⟨_,rfl⟩;obtain⟨gh,rfl⟩:∃gh:Nat,gh=gk:=⟨_,rfl⟩;have HMW:=zh hMW;have HN0:=zh hn0;have HS0:=zh hs0;have HLL:=zh hll;have HNM:=zh hnm;clear hMW hn0 hs0 hll hnm HREL
   -- behind the loop: what End says
   have HEND:Hid (∀x:Int,(x=0↔st=some [])→gh=0∨st=none→(x=0→pTk xs=some (⟨ds0,ds1,ds2,ds3,ms⟩,[]))∧(x≠0→takeT n xs=none)):=zh<| by
    intro x hx hq;refine⟨fun h0=>?_,fun h0=>?_⟩
    ·have hst:=hx.1 h0
     rcases hq with rfl | hq
     ·rw[HPE.out,(HS0.out [] hst).1,restM_zero];rfl
     ·rw[hq]at hst;cases hst
    ·refine HTQ.out.2 (fun y hy=>h0 (hx.2 ?_))
     rw[HPE.out]at hy
     cases hst:st with
     | none=>rw[HN0.out hst]at hy;cases hy
     | some L=>
      rcases hq with rfl | hq
      ·rw[(HS0.out L hst).1,restM_zero]at hy
       simp only[Option.bind_some,Option.some.injEq,Prod.mk.injEq]at hy;rw[hy.2]
      ·rw[hq]at hst;cases hst
   cases gh with
   | zero=>
    have HEN:=zh (end_st g m c' A' xs st wi HMW.out.2.2.1);go_wp2_with fail;refine(HEN.out).mono ?_;rintro e w5 ⟨x,rfl,hx,hE5⟩;have HX:=zh (HEND.out x hx (.inl (by first | trivial | rfl)));have HM5:=zh (HMW.out.ext hE5);clear hE5 hx HEND HMW;have h0:=fun i=>HM5.out.1.cell i;have z0:=fun i=>HM5.out.2.2.2.1.cell i;have zf:=fun i=>HM5.out.2.2.2.1.frozen i;simp only[zeroT]at z0;by_cases hx0:x=0
    ·subst hx0
     have HPK:=zh (HX.out.1 rfl);have hkk:∀k,hb+1≤k→k<Bm→w5.heap[k]? =wm.heap[k]? :=HM5.out.2.2.2.2.1;obtain⟨Aq,cq,hv,hl1,hl2,hl3,hl4⟩:=HM5.out.2.1.shape;obtain⟨e1,e2,e3⟩:=Value.slice.inj hv;subst e1 e2 e3;have hKR:∀(A:Option Addr) (nn:Nat) (ps:List Pt),RowR wm A nn 3 cP ps→(∀a,A=some a→hb+1≤a.block)→RowR w5 A nn 3 cP ps:=fun A nn ps h1 h2=>
      h1.keep (zw10 (by rw[←hBm.out];exact zw8 _) HM5.out.2.2.2.2.2.2) (fun a ha hp=>by
       obtain⟨b,o,e,hbl,_⟩:=h1.2 hp;obtain rfl:=zw13 (ha.symm.trans e);exact hkk b (h2 _ ha) (by rw[hBm.out];exact hbl))
     have HTK:Hid (TkV w5 ⟨⟨A0,n0,c0⟩,⟨A1,n1,c1⟩,⟨A2,n2,c2⟩,⟨A3,n3,c3⟩,⟨Am,ms.length,cm⟩⟩ ⟨ds0,ds1,ds2,ds3,ms⟩):=zh<| by
      have r0:=hKR _ _ _ HP0m.out HL0.out.1;have r1:=hKR _ _ _ HP1m.out HL1.out.1;have r2:=hKR _ _ _ HP2m.out HL2.out.1;have r3:=hKR _ _ _ HP3m.out HL3.out.1;have q0:=HL0.out.2;have q1:=HL1.out.2;have q2:=HL2.out.2;have q3:=HL3.out.2;exact⟨⟨r0,q0⟩,⟨r1,q1⟩,⟨r2,q2⟩,⟨r3,q3⟩,OwnR.row cM_len HM5.out.2.1,hl1,hl2,hl3,HNM.out⟩
     have HAM:Hid (∀a,Am=some a→Bm≤a.block):=zh hl4;clear hkk hKR hv hl1 hl2 hl3 hl4;have HMY:=zh (may_st _ _ n w5 HTK.out hN1 hN2);obtain⟨mb,hmb⟩:∃mb,mb=mayT n ⟨ds0,ds1,ds2,ds3,ms⟩:=⟨_,rfl⟩;rw[←hmb]at HMY;replace hmb:=zh hmb;simp only[Tv.cells]at HMY;generalize hml:ms.length=nm at*;replace hml:=zh hml;go_wp2_with fail;refine(HMY.out).mono ?_;rintro e w6 ⟨rfl,hE6⟩;have HM6:=zh (HM5.out.ext hE6);have HTK6:=zh (HTK.out.ext hE6);clear hE6 h0 z0 zf HM5 HTK HMY;have h0:=fun i=>HM6.out.1.cell i;have z0:=fun i=>HM6.out.2.2.2.1.cell i;have zf:=fun i=>HM6.out.2.2.2.1.frozen i;simp only[zeroT]at z0
     cases mb with
     | true=>
      have HTF:Hid (takeT n xs=some ⟨ds0,ds1,ds2,ds3,ms⟩):=zh (by rw[HTQ.out.1 _ HPK.out,←hmb.out];rfl);go_wp2_with fail;have hb1:=((((HM6.out.2.2.2.1.set_ 0 (.slice A0 n0 c0)).set_ 1 (.slice A1 n1 c1)).set_ 2 (.slice A2 n2 c2)).set_ 3 (.slice A3 n3 c3)).set_ 4 (.slice Am nm cm);refine bodyPost_ret (v:= .tuple #[.agg (Tv.cells ⟨⟨A0,n0,c0⟩,⟨A1,n1,c1⟩,⟨A2,n2,c2⟩,⟨A3,n3,c3⟩,⟨Am,nm,cm⟩⟩),.int .i64 0]) (results_cell2 Tryz.results65 _ _ rb 37 _ (0,0) _ rfl hb1 _ rfl Tryz.underlying37 rfl (by kernel_rfl)) rfl ?_;have hrw:w.heap.size≤rb:=by have:=HLV.out;omega
      refine tt_ok (ext_set (ext_set (ext_set (ext_set (ext_set HM6.out.2.2.2.2.2.1 hrw _) hrw _) hrw _) hrw _) hrw _) HTF.out ?_ ⟨fun a ha=>by have:=HL0.out.1 a ha;have:=HLV.out;simp only at*;omega,fun a ha=>by have:=HL1.out.1 a ha;have:=HLV.out;simp only at*;omega,fun a ha=>by have:=HL2.out.1 a ha;have:=HLV.out;simp only at*;omega,fun a ha=>by have:=HL3.out.1 a ha;have:=HLV.out;simp only at*;omega,fun a ha=>by have:=HAM.out a ha;have:=hgb.out;simp only at*;omega⟩;have z4:∀(i:Nat) (v:Value) (W:World),TkV W ⟨⟨A0,n0,c0⟩,⟨A1,n1,c1⟩,⟨A2,n2,c2⟩,⟨A3,n3,c3⟩,⟨Am,nm,cm⟩⟩ ⟨ds0,ds1,ds2,ds3,ms⟩→TkV (W.setCell ⟨rb,i,none⟩ v) ⟨⟨A0,n0,c0⟩,⟨A1,n1,c1⟩,⟨A2,n2,c2⟩,⟨A3,n3,c3⟩,⟨Am,nm,cm⟩⟩ ⟨ds0,ds1,ds2,ds3,ms⟩:=fun i v W h=>h.set (fun a ha=>by have:=HL0.out.1 a ha;have:=HLV.out;omega) (fun a ha=>by have:=HL1.out.1 a ha;have:=HLV.out;omega) (fun a ha=>by have:=HL2.out.1 a ha;have:=HLV.out;omega) (fun a ha=>by have:=HL3.out.1 a ha;have:=HLV.out;omega) (fun a ha=>by have:=HAM.out a ha;have:=hgb.out;omega) i v;exact z4 _ _ _ (z4 _ _ _ (z4 _ _ _ (z4 _ _ _ (z4 _ _ _ HTK6.out))))
     | false=>
      have HTF:Hid (takeT n xs=none):=zh (by rw[HTQ.out.1 _ HPK.out,←hmb.out];rfl);go_wp2_with fail;have hb1:=((((HM6.out.2.2.2.1.set_ 0 (.slice none 0 0)).set_ 1 (.slice none 0 0)).set_ 2 (.slice none 0 0)).set_ 3 (.slice none 0 0)).set_ 4 (.slice none 0 0);refine bodyPost_ret (v:= .tuple #[.agg zeroT,.int .i64 4]) (results_cell2 Tryz.results65 _ _ rb 37 _ (0,0) _ rfl hb1 _ rfl Tryz.underlying37 rfl (by kernel_rfl)) rfl ?_;have hrw:w.heap.size≤rb:=by have:=HLV.out;omega
      exact tt_bad (ext_set (ext_set (ext_set (ext_set (ext_set HM6.out.2.2.2.2.2.1 hrw _) hrw _) hrw _) hrw _) hrw _) HTF.out (by decide)
    ·have HTF:=zh (HX.out.2 hx0)
     go_wp2_with fail;have hb1:=((((HM5.out.2.2.2.1.set_ 0 (.slice none 0 0)).set_ 1 (.slice none 0 0)).set_ 2 (.slice none 0 0)).set_ 3 (.slice none 0 0)).set_ 4 (.slice none 0 0);refine bodyPost_ret (v:= .tuple #[.agg zeroT,.int .i64 x]) (results_cell2 Tryz.results65 _ _ rb 37 _ (0,0) _ rfl hb1 _ rfl Tryz.underlying37 rfl (by kernel_rfl)) rfl ?_;have hrw:w.heap.size≤rb:=by have:=HLV.out;omega
     exact tt_bad (ext_set (ext_set (ext_set (ext_set (ext_set HM5.out.2.2.2.2.2.1 hrw _) hrw _) hrw _) hrw _) hrw _) HTF.out hx0
   | succ gh=>
    have HER:=zh (err_st g m c' A' xs st wi HMW.out.2.2.1);have hghi:(0:Int)<((gh+1:Nat):Int):=by omega
    go_wp2_with fail;refine(HER.out).mono ?_;rintro e w5 ⟨x,rfl,hx,rfl⟩
    cases hst:st with
    | none=>
     have hx1:(x==0)=false:=zw12.2 (hx.2 hst);have HEN:=zh (end_st g m c' A' xs st wi HMW.out.2.2.1);clear hx;go_wp2_with fail;refine(HEN.out).mono ?_;rintro e w5 ⟨y,rfl,hy,hE5⟩;have hyn:¬y=0:=fun h=>by have:=hy.1 h;rw[hst]at this;cases this
     have HTF:=zh ((HEND.out y hy (.inr hst)).2 hyn);have HM5:=zh (HMW.out.ext hE5);clear hE5 hy HEND HMW;have z0:=fun i=>HM5.out.2.2.2.1.cell i;have zf:=fun i=>HM5.out.2.2.2.1.frozen i;simp only[zeroT]at z0;go_wp2_with fail;have hb1:=((((HM5.out.2.2.2.1.set_ 0 (.slice none 0 0)).set_ 1 (.slice none 0 0)).set_ 2 (.slice none 0 0)).set_ 3 (.slice none 0 0)).set_ 4 (.slice none 0 0);refine bodyPost_ret (v:= .tuple #[.agg zeroT,.int .i64 y]) (results_cell2 Tryz.results65 _ _ rb 37 _ (0,0) _ rfl hb1 _ rfl Tryz.underlying37 rfl (by kernel_rfl)) rfl ?_;have hrw:w.heap.size≤rb:=by have:=HLV.out;omega
     exact tt_bad (ext_set (ext_set (ext_set (ext_set (ext_set HM5.out.2.2.2.2.2.1 hrw _) hrw _) hrw _) hrw _) hrw _) HTF.out hyn
    | some L=>
     have hx1:x=0:=by
      by_cases h0:x=0
      ·exact h0
      ·have:=hx.1 h0;rw[hst]at this;cases this
     subst hx1;subst hst;obtain⟨hOL,hlm⟩:=HS0.out L rfl;have HOL:=zh hOL;have HST:=zh (restM_step ms gh last L);have HLN:=zh (fun L3 h=>nxM_len (L:=L) (L3:=L3) h);clear hx hOL HS0 HN0 HER HEND;have HA1:=zh (int_st g m c' A' xs (some L) wi HMW.out.2.2.1);have hl8:last≤2147483647000000:=by
      have:=HLL.out;have h2:ms.length*2147483647≤1000001*2147483647:=zw34 _ (by omega);omega
     go_wp2_with fail;refine(HA1.out).mono ?_;rintro e w6 ⟨rfl,hz1,hS1,hG1⟩;have HM6:=zh (HMW.out.read hg1.out hg2.out hg3.out hS1 hG1);obtain⟨z1,hv1⟩:∃z,z=va pI 0 (some L):=⟨_,rfl⟩;rw[←hv1]at hz1 HST ⊢;have hzl:(va (pT 40) [] (nx pI (some L))).length≤40:=vaT_len (fun M e c hc=>by rw[e]at hS1;exact hS1.small c hc);obtain⟨z,hv2⟩:∃z,z=va (pT 40) [] (nx pI (some L)):=⟨_,rfl⟩;have HTX:=zh (fun(W:World) (h:RSt W g A' m c' xs (nx pI (some L)))=>(show Calls Tryz.prog 93 #[.pointer (some ⟨g,0,none⟩),.int .i64 40] W (fun e w'=>e= .returned (.string (strOf z))∧RSt w' g A' m c' xs (nx (pT 40) (nx pI (some L)))∧W.grownBy w' (some g))from hv2▸text_st g m c' 40 (by omega) A' xs (nx pI (some L)) W h));rw[←hv2]at HST hzl;replace hv1:=zh hv1;replace hv2:=zh hv2;clear hS1 hG1 HA1 HMW;have hcast:(last:Int)+(z1:Int)=((last+z1:Nat):Int):=by omega
     replace hcast:=zh hcast;have HDL:Hid (ms.length≤100000000):=zh (by omega);have HM7:=zh (HM6.out.ext (zxd (zxr w6)));go_upto_region 15 with fail;rw[hcast.out];obtain⟨tk,htk⟩:∃q,q=last+z1:=⟨_,rfl⟩;rw[←htk]at HST ⊢;replace htk:=zh htk;have HX:=HM7;refine zw38 (S:=fun _=>True) hmxL trivial (fun _=>?_);generalize w6.drew=WA at*;clear HM6 HM7
     (refine tq (i:=0) (oi:=⟨some 42,.fieldAddr 37 (.tmp 7) 1,0,_,_,none⟩) (v:=?_) trivial ?_ ?_);rotate_left
     ·(intro w' hSw;go_simp;try with_reducible rfl)
     (try simp only[Act.put,zzA,zzB,zzC])
     (refine tq (i:=2) (oi:=⟨some 44,.move (.tmp 9),3,_,_,none⟩) (v:=?_) trivial ?_ ?_);rotate_left
     ·(intro w' hSw;go_simp;try with_reducible rfl)
     (try simp only[Act.put,zzA,zzB,zzC])
     (refine tq (i:=3) (oi:=⟨some 45,.move (.tmp 6),133,_,_,none⟩) (v:=?_) trivial ?_ ?_);rotate_left
     ·(intro w' hSw;go_simp;try with_reducible rfl)
     (try simp only[Act.put,zzA,zzB,zzC])
     refine zw41 (rs:=[1,4]) (by kernel_rfl) (by simp) ?_;refine AllReadyH.cons (o:=⟨some 43,.load 35 (.tmp 42),35,"bytes.go:54",#[⟨0,.data⟩],none⟩) (by kernel_rfl) (fun K hK=>?_) (AllReadyH.cons (o:=⟨some 46,.call {callee:= .value (.func 93),args:= #[.tmp 45,.const (.int .i64 40)],argTypes:= #[133,3]},9,"bytes.go:54",#[⟨3,.data⟩],none⟩) (by kernel_rfl) (fun K hK=>?_) zw42)
     ·have b0:=HX.out.1.cell
      go_simp;refine hK.out _ _ trivial fun _=>?_;clear hK K
      (try simp only[Act.put,zzA,zzB,zzC])
      refine zw41 (rs:=[4]) (by kernel_rfl) (by simp) ?_;refine AllReadyH.cons (o:=⟨some 46,.call {callee:= .value (.func 93),args:= #[.tmp 45,.const (.int .i64 40)],argTypes:= #[133,3]},9,"bytes.go:54",#[⟨3,.data⟩],none⟩) (by kernel_rfl) (fun K hK=>?_) zw42;go_simp;refine(HTX.out _ HX.out.2.2.1).mono ?_;rintro e WB ⟨rfl,hS,hG⟩;have HX:=zh (HX.out.read hg1.out hg2.out hg3.out hS hG);clear hS hG
      (try go_wp2_with fail)
      refine hK.out _ _ trivial fun _=>?_;clear hK K
      (try simp only[Act.put,zzA,zzB,zzC])
      (refine tq (i:=5) (oi:=⟨some 47,.build 52 #[(0,.tmp 44),(1,.tmp 46)],52,_,_,none⟩) (v:=?_) trivial ?_ ?_);rotate_left
      ·(intro w' hSw;go_simp;try with_reducible rfl)
      (try simp only[Act.put,zzA,zzB,zzC])
      refine zw41 (rs:=[6]) (by kernel_rfl) (by simp) ?_;refine AllReadyH.cons (o:=⟨some 48,.buildSlice 35 1 #[(0,.tmp 47)],35,"bytes.go:54",#[⟨5,.data⟩],none⟩) (by kernel_rfl) (fun K hK=>?_) zw42;go_simp;have HSRC:=zh (src_rec (P:=Tryz.prog) (e':=52) Tryz.underlying35 WB (cM ⟨(tk:Int),strOf z⟩) rfl (by intro u hu;simp[cM]at hu;rcases hu with rfl | rfl<;>rfl) 1)
      have HX:=zh (HX.out.ext (zxa (zxr WB) (.cells (cM ⟨(tk:Int),strOf z⟩).toArray 52)));obtain⟨WC,hWC⟩:∃q,q=WB.alloc (.cells (cM ⟨(tk:Int),strOf z⟩).toArray 52):=⟨_,rfl⟩;have hWD:WB.alloc (.cells #[.int .i64 (tk:Int),.string (strOf z)] 52)=WC:=hWC.symm;rw[←hWC]at HSRC HX;rw[hWD];clear hWC hWD;refine hK.out _ _ trivial fun _=>?_;clear hK K
      (try simp only[Act.put,zzA,zzB,zzC])
      refine zw41 (rs:=[7]) (by kernel_rfl) (by simp) ?_;refine AllReadyH.cons (o:=⟨some 49,.call {callee:= .builtin .append,args:= #[.tmp 43,.tmp 48],argTypes:= #[35,35]},35,"bytes.go:54",#[⟨1,.data⟩,⟨6,.data⟩,⟨4,.chain⟩],none⟩) (by kernel_rfl) (fun K hK=>?_) zw42;obtain⟨v3,w3,hrun,hO3,hG3⟩:=run_rec (P:=Tryz.prog) (base:=Bm) 35 52 35 2 24 _ cM Tryz.underlying35 infoM rfl (by decide) (.slice Am nm cm) _ ms ⟨(tk:Int),strOf z⟩ HX.out.2.1 HX.out.2.2.2.2.2.2 HSRC.out HDL.out;obtain⟨Ay,cy,hv3,_,_,_,_⟩:=hO3.shape;generalize (ms++[(⟨(tk:Int),strOf z⟩:Mk)]).length=ny at hv3;subst hv3;have HX:=zh (HX.out.app hgb.out hO3 hG3);have HRUN:=zh hrun;clear hrun hO3 hG3;refine wanted_append rfl (.tmp 43) (.tmp 48) 35 35 rfl (.slice Am nm cm) _ rfl rfl HRUN.out ?_;refine hK.out _ _ trivial fun _=>?_;clear hK K
      (try simp only[Act.put,zzA,zzB,zzC])
      (refine tq (i:=8) (oi:=⟨some 50,.fieldAddr 37 (.tmp 7) 1,0,_,_,none⟩) (v:=?_) trivial ?_ ?_);rotate_left
      ·(intro w' hSw;go_simp;try with_reducible rfl)
      (try simp only[Act.put,zzA,zzB,zzC])
      refine zw41 (rs:=[9]) (by kernel_rfl) (by simp) ?_;refine AllReadyH.cons (o:=⟨none,.store 35 (.tmp 50) (.tmp 49),0,"bytes.go:54",#[⟨8,.data⟩,⟨7,.data⟩,⟨7,.chain⟩,⟨0,.phase⟩,⟨1,.phase⟩,⟨2,.phase⟩,⟨3,.phase⟩,⟨4,.phase⟩,⟨5,.phase⟩,⟨6,.phase⟩,⟨7,.phase⟩],none⟩) (by kernel_rfl) (fun K hK=>?_) zw42;have b0:=HX.out.1.cell;have b1:=HX.out.1.frozen;go_simp;refine hK.out _ _ trivial fun _=>?_;clear hK K
      (try simp only[Act.put,zzA,zzB,zzC])
      refine zw39 (by kernel_rfl) ?_ _;go_wp2_with fail
      go_roundg gh
      case measure=>omega
      case rel=>
       refine⟨ms++[⟨(tk:Int),strOf z⟩],tk,nx (pT 40) (nx pI (some L)),Ay,ny,cy,rfl,rfl,by omega,MW.store (cs':= #[.slice A0 n0 c0,.slice A1 n1 c1,.slice A2 n2 c2,.slice A3 n3 c3,.slice Ay ny cy]) HX.out hgb.out 4 (.slice Ay ny cy) rfl,?_,?_,?_,?_,?_⟩
       ·intro hn;rw[HOL.out,HST.out.1 hn]
       ·intro L3 hL3
        refine⟨by rw[HOL.out,HST.out.2 L3 hL3],?_⟩;have:=HLN.out L3 hL3;rw[zw0,zw27];omega
       ·rw[zw0,zw27];omega
       ·have:=htk.out;have:=HLL.out;rw[zw0,zw27,Nat.add_mul];omega
       ·intro mm hmm
        rcases zw16.1 hmm with hmm | hmm
        ·exact HNM.out mm hmm
        ·rw[zw52]at hmm;subst hmm;show(strOf z).size≤_;rw[strOf_size];omega
     ·go_simp
      refine(HTX.out _ HX.out.2.2.1).mono ?_;rintro e WB ⟨rfl,hS,hG⟩;have HX:=zh (HX.out.read hg1.out hg2.out hg3.out hS hG);clear hS hG
      (try go_wp2_with fail)
      refine hK.out _ _ trivial fun _=>?_;clear hK K
      (try simp only[Act.put,zzA,zzB,zzC])
      (refine tq (i:=5) (oi:=⟨some 47,.build 52 #[(0,.tmp 44),(1,.tmp 46)],52,_,_,none⟩) (v:=?_) trivial ?_ ?_);rotate_left
      ·(intro w' hSw;go_simp;try with_reducible rfl)
      (try simp only[Act.put,zzA,zzB,zzC])
      refine zw41 (rs:=[1,6]) (by kernel_rfl) (by simp) ?_;refine AllReadyH.cons (o:=⟨some 43,.load 35 (.tmp 42),35,"bytes.go:54",#[⟨0,.data⟩],none⟩) (by kernel_rfl) (fun K hK=>?_) (AllReadyH.cons (o:=⟨some 48,.buildSlice 35 1 #[(0,.tmp 47)],35,"bytes.go:54",#[⟨5,.data⟩],none⟩) (by kernel_rfl) (fun K hK=>?_) zw42)
      ·have b0:=HX.out.1.cell
       go_simp;refine hK.out _ _ trivial fun _=>?_;clear hK K
       (try simp only[Act.put,zzA,zzB,zzC])
       refine zw41 (rs:=[6]) (by kernel_rfl) (by simp) ?_;refine AllReadyH.cons (o:=⟨some 48,.buildSlice 35 1 #[(0,.tmp 47)],35,"bytes.go:54",#[⟨5,.data⟩],none⟩) (by kernel_rfl) (fun K hK=>?_) zw42;go_simp;have HSRC:=zh (src_rec (P:=Tryz.prog) (e':=52) Tryz.underlying35 WB (cM ⟨(tk:Int),strOf z⟩) rfl (by intro u hu;simp[cM]at hu;rcases hu with rfl | rfl<;>rfl) 1)
       have HX:=zh (HX.out.ext (zxa (zxr WB) (.cells (cM ⟨(tk:Int),strOf z⟩).toArray 52)));obtain⟨WC,hWC⟩:∃q,q=WB.alloc (.cells (cM ⟨(tk:Int),strOf z⟩).toArray 52):=⟨_,rfl⟩;have hWD:WB.alloc (.cells #[.int .i64 (tk:Int),.string (strOf z)] 52)=WC:=hWC.symm;rw[←hWC]at HSRC HX;rw[hWD];clear hWC hWD;refine hK.out _ _ trivial fun _=>?_;clear hK K
       (try simp only[Act.put,zzA,zzB,zzC])
       refine zw41 (rs:=[7]) (by kernel_rfl) (by simp) ?_;refine AllReadyH.cons (o:=⟨some 49,.call {callee:= .builtin .append,args:= #[.tmp 43,.tmp 48],argTypes:= #[35,35]},35,"bytes.go:54",#[⟨1,.data⟩,⟨6,.data⟩,⟨4,.chain⟩],none⟩) (by kernel_rfl) (fun K hK=>?_) zw42;obtain⟨v3,w3,hrun,hO3,hG3⟩:=run_rec (P:=Tryz.prog) (base:=Bm) 35 52 35 2 24 _ cM Tryz.underlying35 infoM rfl (by decide) (.slice Am nm cm) _ ms ⟨(tk:Int),strOf z⟩ HX.out.2.1 HX.out.2.2.2.2.2.2 HSRC.out HDL.out;obtain⟨Ay,cy,hv3,_,_,_,_⟩:=hO3.shape;generalize (ms++[(⟨(tk:Int),strOf z⟩:Mk)]).length=ny at hv3;subst hv3;have HX:=zh (HX.out.app hgb.out hO3 hG3);have HRUN:=zh hrun;clear hrun hO3 hG3;refine wanted_append rfl (.tmp 43) (.tmp 48) 35 35 rfl (.slice Am nm cm) _ rfl rfl HRUN.out ?_;refine hK.out _ _ trivial fun _=>?_;clear hK K
       (try simp only[Act.put,zzA,zzB,zzC])
       (refine tq (i:=8) (oi:=⟨some 50,.fieldAddr 37 (.tmp 7) 1,0,_,_,none⟩) (v:=?_) trivial ?_ ?_);rotate_left
       ·(intro w' hSw;go_simp;try with_reducible rfl)
       (try simp only[Act.put,zzA,zzB,zzC])
       refine zw41 (rs:=[9]) (by kernel_rfl) (by simp) ?_;refine AllReadyH.cons (o:=⟨none,.store 35 (.tmp 50) (.tmp 49),0,"bytes.go:54",#[⟨8,.data⟩,⟨7,.data⟩,⟨7,.chain⟩,⟨0,.phase⟩,⟨1,.phase⟩,⟨2,.phase⟩,⟨3,.phase⟩,⟨4,.phase⟩,⟨5,.phase⟩,⟨6,.phase⟩,⟨7,.phase⟩],none⟩) (by kernel_rfl) (fun K hK=>?_) zw42;have b0:=HX.out.1.cell;have b1:=HX.out.1.frozen;go_simp;refine hK.out _ _ trivial fun _=>?_;clear hK K
       (try simp only[Act.put,zzA,zzB,zzC])
       refine zw39 (by kernel_rfl) ?_ _;go_wp2_with fail
       go_roundg gh
       case measure=>omega
       case rel=>
        refine⟨ms++[⟨(tk:Int),strOf z⟩],tk,nx (pT 40) (nx pI (some L)),Ay,ny,cy,rfl,rfl,by omega,MW.store (cs':= #[.slice A0 n0 c0,.slice A1 n1 c1,.slice A2 n2 c2,.slice A3 n3 c3,.slice Ay ny cy]) HX.out hgb.out 4 (.slice Ay ny cy) rfl,?_,?_,?_,?_,?_⟩
        ·intro hn;rw[HOL.out,HST.out.1 hn]
        ·intro L3 hL3
         refine⟨by rw[HOL.out,HST.out.2 L3 hL3],?_⟩;have:=HLN.out L3 hL3;rw[zw0,zw27];omega
        ·rw[zw0,zw27];omega
        ·have:=htk.out;have:=HLL.out;rw[zw0,zw27,Nat.add_mul];omega
        ·intro mm hmm
         rcases zw16.1 hmm with hmm | hmm
         ·exact HNM.out mm hmm
         ·rw[zw52]at hmm;subst hmm;show(strOf z).size≤_;rw[strOf_size];omega
      ·go_simp
       have HSRC:=zh (src_rec (P:=Tryz.prog) (e':=52) Tryz.underlying35 WB (cM ⟨(tk:Int),strOf z⟩) rfl (by intro u hu;simp[cM]at hu;rcases hu with rfl | rfl<;>rfl) 1)
       have HX:=zh (HX.out.ext (zxa (zxr WB) (.cells (cM ⟨(tk:Int),strOf z⟩).toArray 52)));obtain⟨WC,hWC⟩:∃q,q=WB.alloc (.cells (cM ⟨(tk:Int),strOf z⟩).toArray 52):=⟨_,rfl⟩;have hWD:WB.alloc (.cells #[.int .i64 (tk:Int),.string (strOf z)] 52)=WC:=hWC.symm;rw[←hWC]at HSRC HX;rw[hWD];clear hWC hWD;refine hK.out _ _ trivial fun _=>?_;clear hK K
       (try simp only[Act.put,zzA,zzB,zzC])
       refine zw41 (rs:=[1]) (by kernel_rfl) (by simp) ?_;refine AllReadyH.cons (o:=⟨some 43,.load 35 (.tmp 42),35,"bytes.go:54",#[⟨0,.data⟩],none⟩) (by kernel_rfl) (fun K hK=>?_) zw42;have b0:=HX.out.1.cell;go_simp;refine hK.out _ _ trivial fun _=>?_;clear hK K
       (try simp only[Act.put,zzA,zzB,zzC])
       refine zw41 (rs:=[7]) (by kernel_rfl) (by simp) ?_;refine AllReadyH.cons (o:=⟨some 49,.call {callee:= .builtin .append,args:= #[.tmp 43,.tmp 48],argTypes:= #[35,35]},35,"bytes.go:54",#[⟨1,.data⟩,⟨6,.data⟩,⟨4,.chain⟩],none⟩) (by kernel_rfl) (fun K hK=>?_) zw42;obtain⟨v3,w3,hrun,hO3,hG3⟩:=run_rec (P:=Tryz.prog) (base:=Bm) 35 52 35 2 24 _ cM Tryz.underlying35 infoM rfl (by decide) (.slice Am nm cm) _ ms ⟨(tk:Int),strOf z⟩ HX.out.2.1 HX.out.2.2.2.2.2.2 HSRC.out HDL.out;obtain⟨Ay,cy,hv3,_,_,_,_⟩:=hO3.shape;generalize (ms++[(⟨(tk:Int),strOf z⟩:Mk)]).length=ny at hv3;subst hv3;have HX:=zh (HX.out.app hgb.out hO3 hG3);have HRUN:=zh hrun;clear hrun hO3 hG3;refine wanted_append rfl (.tmp 43) (.tmp 48) 35 35 rfl (.slice Am nm cm) _ rfl rfl HRUN.out ?_;refine hK.out _ _ trivial fun _=>?_;clear hK K
       (try simp only[Act.put,zzA,zzB,zzC])
       (refine tq (i:=8) (oi:=⟨some 50,.fieldAddr 37 (.tmp 7) 1,0,_,_,none⟩) (v:=?_) trivial ?_ ?_);rotate_left
       ·(intro w' hSw;go_simp;try with_reducible rfl)
       (try simp only[Act.put,zzA,zzB,zzC])
       refine zw41 (rs:=[9]) (by kernel_rfl) (by simp) ?_;refine AllReadyH.cons (o:=⟨none,.store 35 (.tmp 50) (.tmp 49),0,"bytes.go:54",#[⟨8,.data⟩,⟨7,.data⟩,⟨7,.chain⟩,⟨0,.phase⟩,⟨1,.phase⟩,⟨2,.phase⟩,⟨3,.phase⟩,⟨4,.phase⟩,⟨5,.phase⟩,⟨6,.phase⟩,⟨7,.phase⟩],none⟩) (by kernel_rfl) (fun K hK=>?_) zw42;have b0:=HX.out.1.cell;have b1:=HX.out.1.frozen;go_simp;refine hK.out _ _ trivial fun _=>?_;clear hK K
       (try simp only[Act.put,zzA,zzB,zzC])
       refine zw39 (by kernel_rfl) ?_ _;go_wp2_with fail
       go_roundg gh
       case measure=>omega
       case rel=>
        refine⟨ms++[⟨(tk:Int),strOf z⟩],tk,nx (pT 40) (nx pI (some L)),Ay,ny,cy,rfl,rfl,by omega,MW.store (cs':= #[.slice A0 n0 c0,.slice A1 n1 c1,.slice A2 n2 c2,.slice A3 n3 c3,.slice Ay ny cy]) HX.out hgb.out 4 (.slice Ay ny cy) rfl,?_,?_,?_,?_,?_⟩
        ·intro hn;rw[HOL.out,HST.out.1 hn]
        ·intro L3 hL3
         refine⟨by rw[HOL.out,HST.out.2 L3 hL3],?_⟩;have:=HLN.out L3 hL3;rw[zw0,zw27];omega
        ·rw[zw0,zw27];omega
        ·have:=htk.out;have:=HLL.out;rw[zw0,zw27,Nat.add_mul];omega
        ·intro mm hmm
         rcases zw16.1 hmm with hmm | hmm
         ·exact HNM.out mm hmm
         ·rw[zw52]at hmm;subst hmm;show(strOf z).size≤_;rw[strOf_size];omega
 ·rw[zw14 hn]at HT
  have HTF:Hid (takeT n xs=none):=zh (by unfold takeT;rw[if_neg hn]);clear hn;go_enter Tryz.func65,Tryz.ntmps65;go_wp2_with fail;refine(HT.out).mono ?_;rintro e w1 ⟨rfl,hE1⟩;have HE1:=zh (zxt HE00.out hE1);have HZ1:=zh (HZB.out.ext hE1);clear hE1 HE00 HZB HT;have z0:=fun i=>HZ1.out.cell i;have zf:=fun i=>HZ1.out.frozen i;go_wp2_with fail;have hb1:=((((HZ1.out.set_ 0 (.slice none 0 0)).set_ 1 (.slice none 0 0)).set_ 2 (.slice none 0 0)).set_ 3 (.slice none 0 0)).set_ 4 (.slice none 0 0);refine bodyPost_ret (v:= .tuple #[.agg zeroT,.int .i64 2]) (results_cell2 Tryz.results65 _ _ w.heap.size 37 _ (0,0) _ rfl hb1 _ rfl Tryz.underlying37 rfl (by kernel_rfl)) rfl ?_;exact tt_bad (ext_set (ext_set (ext_set (ext_set (ext_set HE1.out (zw8 _) _) (zw8 _) _) (zw8 _) _) (zw8 _) _) (zw8 _) _) HTF.out (by decide)
end Go.Proofs.YtbopblbhjcemaaaGreatDoor.Trk
