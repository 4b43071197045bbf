
import Derived.Test.YtidnboeihkeljaaGreatDoorF10
import Derived.Maps.AppendAt
import Derived.Sort.CutIn
set_option maxHeartbeats 16000000
set_option maxRecDepth 100000
set_option linter.all false
namespace Go.Proofs.YtidnboeihkeljaaGreatDoor.Delta
open Go.ChangeShapes Go.WideShapes Go.ChangeAt Go.RowKit Go.Shelf
open Wire
attribute [local go_sem] Oper.semAt_some

theorem runs_in (n:Nat) (A:Option Addr) (m c:Nat) (w:World):
  CallsIn Fence.wide n Tryz.prog 108 #[.slice A m c] w fun e w'=>e= .returned (.func (.func 128) #[] #[.pointer (some ⟨w.heap.size,0,none⟩)])∧w'=w.alloc (.cells #[.slice A m c] 48):=by
 refine callsIn_of_wp Tryz.func108 rfl trivial ?_ rfl;simp only[Tryz.ntmps108,List.size_toArray,zw3,zw26,Nat.reduceAdd,Nat.reduceSub,Array.replicate_succ,Array.replicate_zero,List.push_toArray,List.append_toArray,zw17,List.cons_append]
 gi_wp2
 go_ret;exact⟨rfl,rfl⟩
theorem runs_stops (n:Nat) (hn:1≤n) (xb g c:Nat) (xs:List Nat) (hxl:xs.length≤4000000000) (hc:xs.length≤c) (hc2:c≤9223372036854775807) (w:World)
  (hX:w.cell? ⟨xb,0,none⟩=some (.slice (some ⟨g,0,none⟩) xs.length c)) (hB:Bs w (some ⟨g,0,none⟩) xs.length xs):
  SeqStopsK Fence.wide n Tryz.prog 128 #[.pointer (some ⟨xb,0,none⟩)] (encR xs.length g c) (Keep2 xb g) (fun ys=>txts xs ys=enc xs) (fun _=>True) xs.length w:=fun l J Jx W hW _ _ hY h0=>
 runs1_in n hn l xb g c xs J Jx hxl hc hc2 hY W ((hW.cell (p:=⟨xb,0,none⟩) (World.block_lt_of_cell? w _ hX)).trans hX) (hB.ext hW) h0
theorem wpListIn_of_append {F:Fence} {n:Nat} {P:Program} {w:World} {ops:Array Oper} {rest:List Oper} {o:Oper} {a:Act} {Q:Exit→Act→World→Prop} (hgd:o.guard=none) (s x:Operand) (t tx:TypeId)
  (ho:o.op= .call {callee:= .builtin .append,args:= #[s,x],argTypes:= #[t,tx]}) (vs vx:Value) (hs:a.eval s=vs) (hx:a.eval x=vx) {v':Value} {w':World}
  (hr:(Builtin.append_ #[t,tx] o.type #[vs,vx]).run P w= .ok v' w') (h:wpListIn F n P ops Q rest (a.put o.dst v') w'):wpListIn F n P ops Q (o::rest) a w:=by
 refine wpListIn_plain hgd fun K hK=>?_;unfold Oper.wpIn;refine⟨?_,?_⟩
 ·simp[Oper.about,ho,resolve,Target.leads,Sem.run_pure]
 ·rw[Oper.semAt_plain F _ _ (by rw[ho];intro c hc';cases hc')]
  simp[execOp,ho,resolve,invoke,builtin,hs,hx,hr,Result.andThen];exact hK _ _ h
theorem txt_len (xs:List Nat) {n:Nat} (t:Run n) (hn:n≤1000000):(txt xs t).length≤1000020:=by
 obtain⟨⟨z,a,b⟩,h1,h2,h3⟩:=t;dsimp only at h1 h2 h3;have v1:=vb_ten (n:=z) (by omega);have v2:=vb_ten (n:=b-a) (by omega);simp only[txt,zw0,zw2];omega
theorem txts_len (xs:List Nat) {n:Nat} (hn:n≤1000000) (l:List (Run n)):(txts xs l).length≤l.length*1000020:=by
 induction l with
 | nil=>simp[txts]
 | cons t l ih=>
  have h1:=txt_len xs t hn;have e:txts xs (t::l)=txt xs t++txts xs l:=by simp[txts]
  rw[e,zw0,zw3];omega
theorem bs_cut {w:World} {g n:Nat} {xs:List Nat} (h:Bs w (some ⟨g,0,none⟩) n xs) (a m:Nat) (ham:a+m≤n):Bs w (some ⟨g,a,none⟩) m ((xs.drop a).take m):=by
 have hl:=h.1;refine⟨by rw[zw2,zw1];omega,fun j=>?_,fun hp=>?_⟩
 ·rcases Nat.lt_or_ge j m with hj | hj
  ·rw[zw5,List.getElem?_take_of_lt hj,List.getElem?_drop,←zw5];exact h.2.1 _
  ·rw[zw5,List.getElem?_eq_none (by rw[zw2];omega)];simp
 ·obtain⟨b,o,he,hlt,hc⟩:=h.2.2 (by omega)
  obtain⟨rfl,rfl⟩:b=g∧o=0:=by cases he;exact⟨rfl,rfl⟩
  refine⟨b,a,rfl,hlt,fun j hj=>?_⟩;have:=hc (a+j) (by omega);rw[Nat.zero_add]at this;rw[this,zw5,zw5,List.getElem?_take_of_lt hj,List.getElem?_drop]
def EncW (w:World) (D xb:Nat) (sl:Value) (zs:List Nat) (W:World):Prop:=
 ((∃v,Boxed W D 48 v∧W.ownsRow w.heap.size 5 1 v zs.length (c8 zs)∧True)∧Boxed W xb 48 sl)∧Ext w W
def Rd (xb g:Nat) (W W':World):Prop:=KeepsOthers W W'∧Keep2 xb g W W'
theorem Rd.trans {xb g:Nat} {a b c:World} (h:Rd xb g a b) (k:Rd xb g b c):Rd xb g a c:=⟨h.1.trans k.1,h.2.trans k.2⟩
theorem rd_ext {xb g:Nat} {W W':World} (h:Ext W W'):Rd xb g W W':=
 ⟨⟨h.size,fun k o hk _=>(h.block k (Array.getElem?_eq_some_iff.1 hk).1).trans hk⟩,h.size,fun k _ hl=>h.block k hl⟩
theorem boxed_ext {W W':World} {B:Nat} {t:TypeId} {v:Value} (h:Boxed W B t v) (hE:Ext W W'):Boxed W' B t v:=(hE.block B h.lt).trans h
theorem enc_store {w W1 W2:World} {D xb g:Nat} {sl v v':Value} {xs ys:List Nat} (hg:g<w.heap.size) (hD:w.heap.size≤D) (hne:D≠xb) (hv:Boxed W1 D 48 v) (hx:Boxed W1 xb 48 sl)
  (hr:W1.ownsRow w.heap.size 5 1 v xs.length (c8 xs)) (hE:Ext w W1) (ho:W2.ownsRow w.heap.size 5 1 v' (xs.length+ys.length) (c8 xs++c8 ys)) (hgr:W1.grownBy W2 v.ownBlock):
  (W2.cell? ⟨D,0,none⟩=some v∧W2.frozen? ⟨D,0,none⟩=false)∧EncW w D xb sl (xs++ys) (W2.setCell ⟨D,0,none⟩ v')∧Rd xb g W1 (W2.setCell ⟨D,0,none⟩ v'):=by
 have hv2:=hv.kept hgr (hv.not_row (by decide) hr);have hx2:=hx.kept hgr (hx.not_row (by decide) hr);refine⟨⟨hv2.cell,hv2.frozen⟩,⟨⟨⟨v',hv2.set v',?_,trivial⟩,hx2.other (Ne.symm hne) v'⟩,ext_set (ext_grown hE hgr (own_ge hr)) hD _⟩,?_,?_⟩
 ·rw[zw0,c8_app]
  exact ho.kept (grownBy_setCell' W2 D v') (.inr (hv2.not_row (by decide) ho).symm)
 ·refine(KeepsOthers.of_grownBy hgr fun j o ej hj=>?_).trans (KeepsOthers.setCell _ _ _)
  rcases hr.2 with ⟨rfl,_⟩ | ⟨g',cap,cur,rfl,_,hgb,_⟩
  ·simp[Value.ownBlock]at ej
  ·obtain rfl:g'=j:=by simpa [Value.ownBlock]using ej
   rw[hgb]at hj;cases hj;rfl
 ·refine⟨by simpa [World.setCell]using hgr.size,fun k hk hl=>?_⟩
  have h1:W2.heap[k]? =W1.heap[k]? :=hgr.block k hl (by
   rcases hk with rfl | rfl
   ·exact hx.not_row (by decide) hr
   ·intro e
    have:=own_ge hr k e.symm;omega)
  exact(zw46 W2 ⟨D,0,none⟩ v' k (by rintro rfl;rcases hk with rfl | rfl;exact hne rfl;show False;omega)).trans h1
theorem encode (g c:Nat) (xs:List Nat) (w:World) (hB:Bs w (some ⟨g,0,none⟩) xs.length xs) (hg:g<w.heap.size) (hxl:xs.length≤1000000) (hc:xs.length≤c) (hc2:c≤9223372036854775807):
  Calls Tryz.prog 64 #[.slice (some ⟨g,0,none⟩) xs.length c] w (Puts w (vb xs.length++enc xs)):=by
 refine(callsIn_wide (n:=6)).1 ?_;refine callsIn_of_wp_marks Tryz.func64 rfl trivial ?_ rfl;simp only[Tryz.ntmps64,List.size_toArray,zw3,zw26,Nat.reduceAdd,Nat.reduceSub,Array.replicate_succ,Array.replicate_zero,List.push_toArray,List.append_toArray,zw17,List.cons_append];have hw3:IntKind.u64.wrap (xs.length:Int)=(xs.length:Int):=by rw[IntKind.wrap_u64];omega
 gi_wp2_with fail
 refine⟨trivial,(callsIn_wide.2 (put none 0 0 [] xs.length (by omega) w (Bs.none _ _) (fun _=>⟨rfl,rfl⟩) (by omega) (by omega) (by omega))).mono ?_⟩;rintro e w1 ⟨g1,c1,rfl,hc3,hc4,hg1,hO1,hE1⟩;rw[zw17]at hO1 hc3 ⊢;have HO1:=zh hO1;have HE1:=zh hE1;clear hO1 hE1 hw3
 gi_wp2_with fail
 refine⟨trivial,(runs_in _ _ _ _ _).mono ?_⟩;rintro e w' ⟨rfl,rfl⟩
 gi_wp2_with fail
 have hsz1:w.heap.size≤w1.heap.size:=HE1.out.size;have hgw1:g<w1.heap.size:=by omega
 have bD:=Boxed.new w1 48 (.slice (some ⟨g1,0,none⟩) (vb xs.length).length c1);have bX:=Boxed.new (w1.alloc (.cells #[.slice (some ⟨g1,0,none⟩) (vb xs.length).length c1] 48)) 48 (.slice (some ⟨g,0,none⟩) xs.length c);rw[zw22]at bX;have hE2:Ext w ((w1.alloc (.cells #[.slice (some ⟨g1,0,none⟩) (vb xs.length).length c1] 48)).alloc (.cells #[.slice (some ⟨g,0,none⟩) xs.length c] 48)):=zxa (zxa HE1.out _) _;have hI0:EncW w w1.heap.size (w1.heap.size+1) (.slice (some ⟨g,0,none⟩) xs.length c) (vb xs.length++txts xs ([]:List (Run xs.length))) ((w1.alloc (.cells #[.slice (some ⟨g1,0,none⟩) (vb xs.length).length c1] 48)).alloc (.cells #[.slice (some ⟨g,0,none⟩) xs.length c] 48)):=
  ⟨⟨⟨_,bD.alloc _,by simp only[txts,List.map_nil,List.flatten_nil,zw18];exact own_ext HO1.out (zxa (zxa (zxr w1) _) _),trivial⟩,bX⟩,hE2⟩
 refine wpIn_rangeFunc_ownF rfl (by omega) (gf:=128) (lb:= #[.pointer (some ⟨w1.heap.size+1,0,none⟩)]) rfl trivial (enters_of Tryz.func128 (by kernel_rfl) rfl)
  (runs_stops 5 (by omega) (w1.heap.size+1) g c xs (by omega) hc hc2 _ bX.cell (hB.ext hE2)) (fun h k=>h.trans k)
  (fun W l o o' hl ho _ _=>⟨by simp,fun k hk hlt=>World.putObj_heap_other (by simp at hl;rcases hk with rfl | rfl<;>omega)⟩) (Below.refl _ _) (fun _=>rfl)
  (fun pre W=>EncW w w1.heap.size (w1.heap.size+1) (.slice (some ⟨g,0,none⟩) xs.length c) (vb xs.length++txts xs pre) W)
  (fun _ _ _=>False)
  (OwnFrom.and (OwnFrom.and (Own.from (holdsRow_own w.heap.size w1.heap.size 48 5 1 (fun pre=>(vb xs.length++txts xs pre).length) (fun pre=>c8 (vb xs.length++txts xs pre)) (fun _ _=>True)) _) (Own.from (boxed_own _ _ _) _)) (ownFrom_below (zw8 _) (by simp;omega)))
  (fun _ _ _ _ _ hs _ _=>hs)
  hI0 ?a1 ?assign ?body ?done ?stop
 case a1=>exact fun x=> {tmps:= #[.slice (some ⟨g,0,none⟩) xs.length c,undef,.slice none 0 0,.pointer (some ⟨w1.heap.size,0,none⟩),.int .i64 (x.1.1:Int),.slice (some ⟨g,x.1.2.1,none⟩) (x.1.2.2-x.1.2.1) (c-x.1.2.1),.slice (some ⟨g,0,none⟩) xs.length c,.int .i64 (xs.length:Int),.int .u64 (xs.length:Int),.slice (some ⟨g1,0,none⟩) (vb xs.length).length c1,.slice (some ⟨g,0,none⟩) xs.length c,.func (.func 128) #[] #[.pointer (some ⟨w1.heap.size+1,0,none⟩)],.int .i64 (x.1.1:Int),.slice (some ⟨g,x.1.2.1,none⟩) (x.1.2.2-x.1.2.1) (c-x.1.2.1),undef,undef,undef,undef,undef,undef,undef,undef,undef,undef,undef,undef,undef,undef,undef],defers:=[]}
 case assign=>
  intro l x W K hK;simp only[encR]
  gi_wp2
  exact hK
 case body=>
  rintro l pre ⟨⟨z,a,b⟩,hx1,hx2,hx3⟩ W ⟨⟨⟨v,hv,hr,_⟩,hx⟩,hE⟩ hlt;dsimp only at hx1 hx2 hx3 ⊢;have hmx:Tryz.prog.follows .mixedOrders=true:=by kernel_rfl
  obtain⟨i0,hi0,hz0,hz1,hz2⟩:=info_parts info8;have HI:=zh (And.intro hi0 (And.intro hz0 (And.intro hz1 hz2)));clear hi0 hz0 hz1 hz2;have hl1:=txts_len xs hxl pre;have hl2:=vb_ten (n:=xs.length) (by omega);have hl3:(vb xs.length++txts xs pre).length≤2000000000000:=by rw[zw0];omega
  have HT:Hid (vb xs.length++txts xs (pre++[⟨(z,a,b),hx1,hx2,hx3⟩])=vb xs.length++txts xs pre++vb z++vb (b-a)++(xs.drop a).take (b-a)):=zh (by rw[txts_snoc];simp only[txt,zw7]);have HBg:=zh (hB.ext hE);have HB0:=zh hB;have hab:a+(b-a)≤xs.length:=by omega
  have hv1:=vb_ten (n:=z) (by omega);have HLIT:=zh (bs_cut HBg.out a (b-a) (by omega));have HLS:=zh (HLIT.out.1);have hml:b-a≤xs.length:=by omega
  clear hB hl1 hl2;generalize b-a=m at*;have hv2:=vb_ten (n:=m) (by omega);generalize vb xs.length++txts xs pre=zs at*;have HV:=zh hv;have HX:=zh hx;have HR:=zh hr;have HE:=zh hE;have hc:=hv.cell;have hWs:=hE.size;have hDl:=hv.lt;clear hv hx hr hE;have hw3:IntKind.u64.wrap (z:Int)=(z:Int):=by rw[IntKind.wrap_u64];omega
  gi_wp2_with fail
  gi_cut []from 14 (fun wx=>EncW w w1.heap.size (w1.heap.size+1) (.slice (some ⟨g,0,none⟩) xs.length c) (zs++vb z) wx∧Rd (w1.heap.size+1) g W wx)
  case first=>
   refine region_round (S:=fun _=>True) hmx (by kernel_rfl) ?_
   (refine zw40 (i:=1) (v:=?_) rfl (by kernel_rfl) (by kernel_rfl) (by kernel_rfl) (fun _ _ _ h=>h) (Or.inl ⟨by rfl,?_⟩) trivial ?_);rotate_left
   ·(intro w hSw;go_simp;try with_reducible rfl)
   (refine zw40 (i:=2) (v:=?_) rfl (by kernel_rfl) (by kernel_rfl) (by kernel_rfl) (fun _ _ _ h=>h) (Or.inl ⟨by rfl,?_⟩) trivial ?_);rotate_left
   ·(intro w hSw;go_simp;try with_reducible rfl)
   refine zw41 (rs:=[0,3]) (by kernel_rfl) (by simp) ?_;refine AllReadyH.cons rfl (fun K hK=>?_) (AllReadyH.cons rfl (fun K hK=>?_) zw42)
   ·go_simp
    refine hK.out _ _ trivial fun _=>?_;clear hK K;refine zqO (i:=3) (by kernel_rfl) rfl fun K hK=>?_;go_simp;refine(put none 0 0 [] z (by omega) _ (Bs.none _ _) (fun _=>⟨rfl,rfl⟩) (by omega) (by omega) (by omega)).mono ?_;rintro e w8 ⟨g2,c2,rfl,hd3,hd4,hg2,hO2,hE8⟩;rw[zw17]at hO2 hd3 ⊢;have he8:Ext W w8:=zxt (zxd (zxr W)) hE8;have hv8:=boxed_ext HV.out he8;have hc8:=hv8.cell;have hx8:=zh (boxed_ext HX.out he8);have hr8:=zh (own_ext HR.out he8);have hs8:=he8.size;have HE8:=zh (zxt HE.out he8);have HD8:=zh (rd_ext (xb:=w1.heap.size+1) (g:=g) he8);have HV8:=zh hv8;clear hv8;obtain⟨v2,w9,hrun,ho2,hgr2⟩:=run_app_own (P:=Tryz.prog) 48 48 48 5 i0 (.int .u8 0) 1 1 Tryz.underlying48 HI.out.1 HI.out.2.1 HI.out.2.2.1 HI.out.2.2.2 rfl w.heap.size v zs.length (c8 zs) hr8.out (.slice (some ⟨g2,0,none⟩) (vb z).length c2) (vb z).length (c8 (vb z)) ((Own.bs hO2 (vb_byte z)).src Tryz.underlying48 c2) (by unfold maxLen;omega) (by omega) (by omega);have hst:=enc_store hg hsz1 (show w1.heap.size≠w1.heap.size+1 by omega) HV8.out hx8.out hr8.out HE8.out ho2 hgr2;obtain⟨A2,c3,rfl,_⟩:=own_shape ho2;obtain⟨⟨hc9,hf9⟩,hew,hrd⟩:=hst;have HEW:=zh hew;have HRD:=zh (HD8.out.trans hrd);have HRUN:=zh hrun;clear hew hrd hrun ho2 hgr2 hO2 hE8 he8
    (try go_wp2_with fail)
    refine hK.out _ _ trivial fun _=>?_;clear hK K;refine zqO (i:=4) (by kernel_rfl) rfl fun K hK=>?_;refine wanted_append rfl (.tmp 14) (.tmp 17) 48 48 rfl _ _ rfl rfl HRUN.out ?_;refine hK.out _ _ trivial fun _=>?_;clear hK K;refine zqO (i:=5) (by kernel_rfl) rfl fun K hK=>?_;go_simp;refine hK.out _ _ trivial fun _=>?_;clear hK K;refine zw39 (by kernel_rfl) ?_ _;simp only[Plainly]
    gi_wp2
    gi_meet
    exact⟨HEW.out,HRD.out⟩
   ·go_simp
    refine(put none 0 0 [] z (by omega) _ (Bs.none _ _) (fun _=>⟨rfl,rfl⟩) (by omega) (by omega) (by omega)).mono ?_;rintro e w8 ⟨g2,c2,rfl,hd3,hd4,hg2,hO2,hE8⟩;rw[zw17]at hO2 hd3 ⊢;have he8:Ext W w8:=zxt (zxd (zxr W)) hE8;have hv8:=boxed_ext HV.out he8;have hc8:=hv8.cell;have hx8:=zh (boxed_ext HX.out he8);have hr8:=zh (own_ext HR.out he8);have hs8:=he8.size;have HE8:=zh (zxt HE.out he8);have HD8:=zh (rd_ext (xb:=w1.heap.size+1) (g:=g) he8);have HV8:=zh hv8;clear hv8;obtain⟨v2,w9,hrun,ho2,hgr2⟩:=run_app_own (P:=Tryz.prog) 48 48 48 5 i0 (.int .u8 0) 1 1 Tryz.underlying48 HI.out.1 HI.out.2.1 HI.out.2.2.1 HI.out.2.2.2 rfl w.heap.size v zs.length (c8 zs) hr8.out (.slice (some ⟨g2,0,none⟩) (vb z).length c2) (vb z).length (c8 (vb z)) ((Own.bs hO2 (vb_byte z)).src Tryz.underlying48 c2) (by unfold maxLen;omega) (by omega) (by omega);have hst:=enc_store hg hsz1 (show w1.heap.size≠w1.heap.size+1 by omega) HV8.out hx8.out hr8.out HE8.out ho2 hgr2;obtain⟨A2,c3,rfl,_⟩:=own_shape ho2;obtain⟨⟨hc9,hf9⟩,hew,hrd⟩:=hst;have HEW:=zh hew;have HRD:=zh (HD8.out.trans hrd);have HRUN:=zh hrun;clear hew hrd hrun ho2 hgr2 hO2 hE8 he8
    (try go_wp2_with fail)
    refine hK.out _ _ trivial fun _=>?_;clear hK K;refine zqO (i:=0) (by kernel_rfl) rfl fun K hK=>?_;go_simp;refine hK.out _ _ trivial fun _=>?_;clear hK K;refine zqO (i:=4) (by kernel_rfl) rfl fun K hK=>?_;refine wanted_append rfl (.tmp 14) (.tmp 17) 48 48 rfl _ _ rfl rfl HRUN.out ?_;refine hK.out _ _ trivial fun _=>?_;clear hK K;refine zqO (i:=5) (by kernel_rfl) rfl fun K hK=>?_;go_simp;refine hK.out _ _ trivial fun _=>?_;clear hK K;refine zw39 (by kernel_rfl) ?_ _;simp only[Plainly]
    gi_wp2
    gi_meet
    exact⟨HEW.out,HRD.out⟩
  case rest=>
   clear HV HX HR HE hc hDl hWs;obtain⟨⟨⟨⟨v,hv,hr,_⟩,hx⟩,hE⟩,hRW⟩:=hcut;have HV:=zh hv;have HX:=zh hx;have HR:=zh hr;have HE:=zh hE;have HRW:=zh hRW;have hc:=hv.cell;have hWs:=hE.size;have hDl:=hv.lt;have hl4:(zs++vb z).length≤2000000000010:=by rw[zw0];omega
   generalize zs++vb z=zs2 at*;clear hv hx hr hE hRW;have hw4:IntKind.u64.wrap (m:Int)=(m:Int):=by rw[IntKind.wrap_u64];omega
   gi_wp2_with fail
   gi_cut []from 14 (fun wx=>EncW w w1.heap.size (w1.heap.size+1) (.slice (some ⟨g,0,none⟩) xs.length c) (zs2++vb m) wx∧Rd (w1.heap.size+1) g W wx)
   case first=>
    refine region_round (S:=fun _=>True) hmx (by kernel_rfl) ?_
    (refine zw40 (i:=1) (v:=?_) rfl (by kernel_rfl) (by kernel_rfl) (by kernel_rfl) (fun _ _ _ h=>h) (Or.inl ⟨by rfl,?_⟩) trivial ?_);rotate_left
    ·(intro w hSw;go_simp;try with_reducible rfl)
    (refine zw40 (i:=2) (v:=?_) rfl (by kernel_rfl) (by kernel_rfl) (by kernel_rfl) (fun _ _ _ h=>h) (Or.inl ⟨by rfl,?_⟩) trivial ?_);rotate_left
    ·(intro w hSw;go_simp;try with_reducible rfl)
    (refine zw40 (i:=3) (v:=?_) rfl (by kernel_rfl) (by kernel_rfl) (by kernel_rfl) (fun _ _ _ h=>h) (Or.inl ⟨by rfl,?_⟩) trivial ?_);rotate_left
    ·(intro w hSw;go_simp;try with_reducible rfl)
    refine zw41 (rs:=[0,4]) (by kernel_rfl) (by simp) ?_;refine AllReadyH.cons rfl (fun K hK=>?_) (AllReadyH.cons rfl (fun K hK=>?_) zw42)
    ·go_simp
     refine hK.out _ _ trivial fun _=>?_;clear hK K;refine zqO (i:=4) (by kernel_rfl) rfl fun K hK=>?_;go_simp;refine(put none 0 0 [] m (by omega) _ (Bs.none _ _) (fun _=>⟨rfl,rfl⟩) (by omega) (by omega) (by omega)).mono ?_;rintro e w8 ⟨g2,c2,rfl,hd3,hd4,hg2,hO2,hE8⟩;rw[zw17]at hO2 hd3 ⊢;have he8:Ext wc w8:=zxt (zxd (zxr wc)) hE8;have hv8:=boxed_ext HV.out he8;have hc8:=hv8.cell;have hx8:=zh (boxed_ext HX.out he8);have hr8:=zh (own_ext HR.out he8);have hs8:=he8.size;have HE8:=zh (zxt HE.out he8);have HD8:=zh (rd_ext (xb:=w1.heap.size+1) (g:=g) he8);have HV8:=zh hv8;clear hv8;obtain⟨v2,w9,hrun,ho2,hgr2⟩:=run_app_own (P:=Tryz.prog) 48 48 48 5 i0 (.int .u8 0) 1 1 Tryz.underlying48 HI.out.1 HI.out.2.1 HI.out.2.2.1 HI.out.2.2.2 rfl w.heap.size v zs2.length (c8 zs2) hr8.out (.slice (some ⟨g2,0,none⟩) (vb m).length c2) (vb m).length (c8 (vb m)) ((Own.bs hO2 (vb_byte m)).src Tryz.underlying48 c2) (by unfold maxLen;omega) (by omega) (by omega);have hst:=enc_store hg hsz1 (show w1.heap.size≠w1.heap.size+1 by omega) HV8.out hx8.out hr8.out HE8.out ho2 hgr2;obtain⟨A2,c3,rfl,_⟩:=own_shape ho2;obtain⟨⟨hc9,hf9⟩,hew,hrd⟩:=hst;have HEW:=zh hew;have HRD:=zh ((HRW.out.trans HD8.out).trans hrd);have HRUN:=zh hrun;clear hew hrd hrun ho2 hgr2 hO2 hE8 he8
     (try go_wp2_with fail)
     refine hK.out _ _ trivial fun _=>?_;clear hK K;refine zqO (i:=5) (by kernel_rfl) rfl fun K hK=>?_;refine wanted_append rfl (.tmp 19) (.tmp 23) 48 48 rfl _ _ rfl rfl HRUN.out ?_;refine hK.out _ _ trivial fun _=>?_;clear hK K;refine zqO (i:=6) (by kernel_rfl) rfl fun K hK=>?_;go_simp;refine hK.out _ _ trivial fun _=>?_;clear hK K;refine zw39 (by kernel_rfl) ?_ _;simp only[Plainly]
     gi_wp2
     gi_meet
     exact⟨HEW.out,HRD.out⟩
    ·go_simp
     refine(put none 0 0 [] m (by omega) _ (Bs.none _ _) (fun _=>⟨rfl,rfl⟩) (by omega) (by omega) (by omega)).mono ?_;rintro e w8 ⟨g2,c2,rfl,hd3,hd4,hg2,hO2,hE8⟩;rw[zw17]at hO2 hd3 ⊢;have he8:Ext wc w8:=zxt (zxd (zxr wc)) hE8;have hv8:=boxed_ext HV.out he8;have hc8:=hv8.cell;have hx8:=zh (boxed_ext HX.out he8);have hr8:=zh (own_ext HR.out he8);have hs8:=he8.size;have HE8:=zh (zxt HE.out he8);have HD8:=zh (rd_ext (xb:=w1.heap.size+1) (g:=g) he8);have HV8:=zh hv8;clear hv8;obtain⟨v2,w9,hrun,ho2,hgr2⟩:=run_app_own (P:=Tryz.prog) 48 48 48 5 i0 (.int .u8 0) 1 1 Tryz.underlying48 HI.out.1 HI.out.2.1 HI.out.2.2.1 HI.out.2.2.2 rfl w.heap.size v zs2.length (c8 zs2) hr8.out (.slice (some ⟨g2,0,none⟩) (vb m).length c2) (vb m).length (c8 (vb m)) ((Own.bs hO2 (vb_byte m)).src Tryz.underlying48 c2) (by unfold maxLen;omega) (by omega) (by omega);have hst:=enc_store hg hsz1 (show w1.heap.size≠w1.heap.size+1 by omega) HV8.out hx8.out hr8.out HE8.out ho2 hgr2;obtain⟨A2,c3,rfl,_⟩:=own_shape ho2;obtain⟨⟨hc9,hf9⟩,hew,hrd⟩:=hst;have HEW:=zh hew;have HRD:=zh ((HRW.out.trans HD8.out).trans hrd);have HRUN:=zh hrun;clear hew hrd hrun ho2 hgr2 hO2 hE8 he8
     (try go_wp2_with fail)
     refine hK.out _ _ trivial fun _=>?_;clear hK K;refine zqO (i:=0) (by kernel_rfl) rfl fun K hK=>?_;go_simp;refine hK.out _ _ trivial fun _=>?_;clear hK K;refine zqO (i:=5) (by kernel_rfl) rfl fun K hK=>?_;refine wanted_append rfl (.tmp 19) (.tmp 23) 48 48 rfl _ _ rfl rfl HRUN.out ?_;refine hK.out _ _ trivial fun _=>?_;clear hK K;refine zqO (i:=6) (by kernel_rfl) rfl fun K hK=>?_;go_simp;refine hK.out _ _ trivial fun _=>?_;clear hK K;refine zw39 (by kernel_rfl) ?_ _;simp only[Plainly]
     gi_wp2
     gi_meet
     exact⟨HEW.out,HRD.out⟩
   case rest=>
    clear HV HX HR HE HRW hc hDl hWs;obtain⟨⟨⟨⟨v,hv,hr,_⟩,hx⟩,hE⟩,hRW⟩:=hcut;have hl5:(zs2++vb m).length≤2000000000020:=by rw[zw0];omega
    generalize zs2++vb m=zs3 at*;have hc:=hv.cell;have hWs:=hE.size;have HLW:=zh (HB0.out.ext hE);have hLL:=(bs_cut HLW.out a m hab).1;obtain⟨v2,w9,hrun,ho2,hgr2⟩:=run_app_own (P:=Tryz.prog) 48 48 48 5 i0 (.int .u8 0) 1 1 Tryz.underlying48 HI.out.1 HI.out.2.1 HI.out.2.2.1 HI.out.2.2.2 rfl w.heap.size v zs3.length (c8 zs3) hr (.slice (some ⟨g,a,none⟩) m (c-a)) m (c8 ((xs.drop a).take m)) ((bs_cut HLW.out a m hab).src Tryz.underlying48 (c-a)) (by unfold maxLen;omega) (by omega) (by omega);have ho3:w9.ownsRow w.heap.size 5 1 v2 (zs3.length+((xs.drop a).take m).length) (c8 zs3++c8 ((xs.drop a).take m)):=by rw[hLL];exact ho2
    have hst:=enc_store hg hsz1 (show w1.heap.size≠w1.heap.size+1 by omega) hv hx hr hE ho3 hgr2;obtain⟨A2,c3,rfl,_⟩:=own_shape ho2;obtain⟨⟨hc9,hf9⟩,hew,hrd⟩:=hst;have HEW:=zh hew;have HRD:=zh (hRW.trans hrd);have HRUN:=zh hrun;clear hew hrd hrun ho2 ho3 hgr2 hv hx hr hE hRW hLL
    gi_wp2_with (gi_at_builtin;refine wpListIn_of_append rfl (.tmp 25) (.tmp 26) 48 48 rfl _ _ rfl rfl HRUN.out ?_)
    exact⟨HRD.out.1,HRD.out.2,by have e:=HT.out;show EncW _ _ _ _ (vb xs.length++txts xs (pre++[_])) _;rw[e];exact HEW.out⟩
 case done=>
  rintro D ys W hD hS ⟨⟨⟨v,hv,hr,_⟩,hx⟩,hE⟩ hK;have hc:=hv.cell;have HS:=zh hS;clear hS
  gi_wp2
  refine⟨by simp,.inl ⟨_,_,rfl,run_takeDeferred hK,?_⟩⟩;refine⟨_,results_tmp rfl _ _ _,?_⟩;rw[←HS.out];have hp:=vb_pos xs.length;exact puts_of (ownsRow_putObj hr _ hK rfl) (hE.trans (belowK_b (w:=w) (zw8 _) W D _ _ (by simp at hD;omega) hK rfl rfl)) (by rw[zw0];omega)
 case stop=>
  rintro D cc pre W hD _ h _;exact h.elim
open Go.ChangeShapes Go.WideShapes Go.ChangeAt Go.RowKit
theorem own_low {w:World} {base base':Nat} {e:TypeId} {size n:Nat} {v:Value} {xs:List Value} (h:w.ownsRow base e size v n xs) (hb:base'≤base):w.ownsRow base' e size v n xs:=by
 refine⟨h.1,?_⟩;rcases h.2 with h | ⟨g,cap,cur,h1,h2,h3⟩
 ·exact .inl h
 ·exact .inr ⟨g,cap,cur,h1,zw10 hb h2,h3⟩
theorem puts_ext {a w w':World} {zs:List Nat} {e:Ending} (h:Puts w zs e w') (hE:Ext a w):Puts a zs e w':=by
 obtain⟨g,c,rfl,h1,h2,h3,h4,h5⟩:=h;exact⟨g,c,rfl,h1,h2,zw10 hE.size h3,own_low h4 hE.size,zxt hE h5⟩
theorem ddiff (A B:Option Addr) (n c n2 c2:Nat) (xs ys:List Nat) (w:World) (hA:Bs w A n xs) (hB:Bs w B n2 ys) (hn:n≤1000000) (hn2:n2≤1000000):
  Calls Tryz.prog 32 #[.slice A n c,.slice B n2 c2] w (Puts w (diff xs ys)):=by
 have hyl:ys.length=n2:=hB.1;have HX:=zh (xor A B n c n2 c2 xs ys w hA hB (by omega) (by omega));have HL:=zh (mix_len xs ys);have HS:=zh (mix_small hA.2.1 hB.2.1);have HD:Hid (diff xs ys=vb (mix xs ys).length++enc (mix xs ys)):=zh (by unfold diff;rw[mix_len]);rw[HD.out];have hl:(mix xs ys).length≤1000000:=by rw[mix_len];omega
 clear hA hB hyl HD;generalize mix xs ys=zs at*;obtain⟨ds,hds⟩:∃ds,ds=vb zs.length++enc zs:=⟨_,rfl⟩;rw[←hds];have HDS:=zh hds;clear hds;go_enter Tryz.func32,Tryz.ntmps32;go_wp2_with fail;refine HX.out.mono ?_;rintro e w1 ⟨g,rfl,hg,hO,hE⟩;have hgl:g<w1.heap.size:=(zw23 hO g rfl).2;have HO:=zh (Own.bs hO HS.out);have HE:=zh hE;clear hO hE;go_wp2_with fail;refine(encode g zs.length zs w1 HO.out hgl hl (zw8 _) (by omega)).mono ?_;intro e w2 hp;rw[←HDS.out]at hp;have HP:=zh (puts_ext hp HE.out);obtain⟨g2,c3,rfl,h1,h2,h3,h4,h5⟩:=hp;clear h1 h2 h3 h4 h5;go_wp2_with fail;go_ret;exact HP.out
inductive LR where
 | bad (err:Int)
 | ok (l:List (Nat × List Nat))
def lits (n:Nat) (at_:Nat) (rest:List Nat):LR:=
 if h0:rest=[]then .ok []else
 match lim (vr 0 0 rest)with
 | .short=> .bad 3
 | .form=> .bad 4
 | .ok z k=>
  if n<at_+z then .bad 4 else
  match tr (rest.drop k) ((n:Int)-at_-z)with
  | .bad f=> .bad f
  | .ok ys j=>
   if hj:0<k+j then
    match lits n (at_+z+ys.length) (rest.drop (k+j))with
    | .bad f=> .bad f
    | .ok l=> .ok ((at_+z,ys)::l)
   else .bad 4
termination_by rest.length
decreasing_by
 have:0<rest.length:=List.length_pos_iff.2 h0;rw[zw1];omega
def LR.pre (l:List (Nat × List Nat)):LR→LR
 | .bad f=> .bad f
 | .ok m=> .ok (l++m)
theorem pre_nil (R:LR):LR.pre [] R=R:=by cases R<;>rfl
theorem pre_pre (l m:List (Nat × List Nat)) (R:LR):LR.pre l (LR.pre m R)=LR.pre (l++m) R:=by cases R<;>simp[LR.pre]
theorem lits_nil (n at_:Nat):lits n at_ []= .ok []:=by rw[lits];rfl
theorem lits_short {n at_:Nat} {rest:List Nat} (h0:rest≠[]) (h:lim (vr 0 0 rest)= .short):lits n at_ rest= .bad 3:=by rw[lits,dif_neg h0,h]
theorem lits_form {n at_:Nat} {rest:List Nat} (h0:rest≠[]) (h:lim (vr 0 0 rest)= .form):lits n at_ rest= .bad 4:=by rw[lits,dif_neg h0,h]
theorem lits_big {n at_:Nat} {rest:List Nat} {z k:Nat} (h0:rest≠[]) (h:lim (vr 0 0 rest)= .ok z k) (hb:n<at_+z):lits n at_ rest= .bad 4:=by
 rw[lits,dif_neg h0,h];simp only[if_pos hb]
theorem lits_bad {n at_:Nat} {rest:List Nat} {z k:Nat} {f:Int} (h0:rest≠[]) (h:lim (vr 0 0 rest)= .ok z k) (hb:¬n<at_+z) (ht:tr (rest.drop k) ((n:Int)-at_-z)= .bad f):lits n at_ rest= .bad f:=by
 rw[lits,dif_neg h0,h];simp only[if_neg hb,ht]
theorem lits_more {n at_:Nat} {rest:List Nat} {z k:Nat} {ys:List Nat} {j:Nat} (h0:rest≠[]) (h:lim (vr 0 0 rest)= .ok z k) (hb:¬n<at_+z) (ht:tr (rest.drop k) ((n:Int)-at_-z)= .ok ys j) (hj:0<k+j):
  lits n at_ rest=LR.pre [(at_+z,ys)] (lits n (at_+z+ys.length) (rest.drop (k+j))):=by
 rw[lits,dif_neg h0,h];simp only[if_neg hb,ht,dif_pos hj];cases lits n (at_+z+ys.length) (rest.drop (k+j))<;>rfl
theorem tr_len {rest:List Nat} {m:Int} {ys:List Nat} {j:Nat} (h:tr rest m= .ok ys j) (hs:∀c∈rest,c<256):(ys.length:Int)≤m∧j≤rest.length∧0<j∧ys.length≤rest.length:=by
 unfold tr at h
 cases hv:vr 0 0 rest with
 | short=>rw[hv]at h;cases h
 | form=>rw[hv]at h;cases h
 | ok z k=>
  rw[hv]at h;simp only at h;have hk:=vr_ok hs hv;have hp:=vb_pos z;by_cases h1:m<0∨m<(z:Int)
  ·rw[if_pos h1]at h;cases h
  ·rw[if_neg h1]at h
   by_cases h2:rest.length-k<z
   ·rw[if_pos h2]at h;cases h
   ·rw[if_neg h2]at h
    cases h
    rw[zw2,zw1];omega
theorem lim_ok {R:VR} {v k:Nat} (h:lim R= .ok v k):R= .ok v k:=by
 cases R with
 | short=>cases h
 | form=>cases h
 | ok a b=>
  simp only[lim]at h;by_cases hb:a≤2147483647
  ·rw[if_pos hb]at h;exact h
  ·rw[if_neg hb]at h;cases h
theorem lits_enc (m:Nat):∀(at_:Nat) (l:List Nat),l.length≤m→l.length≤1000000→(∀c∈l,c<256)→lits (at_+l.length) at_ (enc l)= .ok (pcs at_ l):=by
 induction m with
 | zero=>
  intro at_ l hl _ _;rw[enc_stop (by omega),pcs_stop (by omega),lits_nil]
 | succ m ih=>
  intro at_ l hl hb hs;by_cases h:zr l<l.length
  ·have h1:=zr_full h
   have h2:=lit_pos h1.2 h1.1;have h3:=lit_le (l.drop (zr l));rw[zw1]at h3;generalize hz:zr l=z at*;generalize hk:lit (l.drop z)=k at*;have e:=enc_more (l:=l) (by rw[hz];exact h);rw[hz,hk]at e;have hL:((l.drop z).take k).length=k:=by rw[zw2,zw1];omega
   have hv1:=vr_put (m:=z) (by omega) (vb k++(l.drop z).take k++enc (l.drop (z+k)));have hv2:=vr_put (m:=k) (by omega) ((l.drop z).take k++enc (l.drop (z+k)));have e0:enc l=vb z++(vb k++(l.drop z).take k++enc (l.drop (z+k))):=by rw[e];simp only[zw7]
   have ed:(enc l).drop (vb z).length=vb k++((l.drop z).take k++enc (l.drop (z+k))):=by rw[e0,List.drop_left,zw7]
   have ht:tr ((enc l).drop (vb z).length) (((at_+l.length:Nat):Int)-at_-z)= .ok ((l.drop z).take k) ((vb k).length+k):=by
    rw[ed];unfold tr;rw[hv2];simp only;rw[if_neg (by omega),if_neg (by simp only[zw0,hL];omega),List.drop_left,List.take_left' hL]
   have hp:=vb_pos z;have hne:enc l≠[]:=fun hn=>by
    have:=congrArg List.length e0;rw[hn,zw0]at this;simp at this;omega
   rw[lits_more hne (by rw[e0,hv1];simp only[lim];rw[if_pos (by omega)]) (by omega) ht (by omega)];have hdr:(enc l).drop ((vb z).length+((vb k).length+k))=enc (l.drop (z+k)):=by
    rw[←zw31,ed,←zw31,List.drop_left,List.drop_left' hL]
   have hlen:at_+l.length=at_+z+k+(l.drop (z+k)).length:=by rw[zw1];omega
   rw[hdr,hL,hlen,ih (at_+z+k) (l.drop (z+k)) (by rw[zw1];omega) (by rw[zw1];omega) (fun c hc=>hs c (List.mem_of_mem_drop hc))];have hpm:=pcs_more (at_:=at_) (l:=l) (by rw[hz];exact h);rw[hz,hk]at hpm;rw[hpm,Nat.add_assoc];rfl
  ·rw[enc_stop h,pcs_stop h,lits_nil]
end Go.Proofs.YtidnboeihkeljaaGreatDoor.Delta
namespace Go.Proofs.YtidnboeihkeljaaGreatDoor.Wire
open Go.ChangeShapes Go.WideShapes Go.ChangeAt Go.RowKit
theorem text_err (g at_:Nat) (s:Value) (e0 most:Int) (w:World) (h:Rdr w g s at_ e0) (he:(e0==0)=false):
  Calls Tryz.prog 118 #[.pointer (some ⟨g,0,none⟩),.int .i64 most] w fun e w'=>e= .returned (.string ⟨#[]⟩)∧Ext w w':=by
 have ha:=zxa (zxr w) (.cells #[.pointer (some ⟨g,0,none⟩)] 145);have hb:=zxa (zxr (w.alloc (.cells #[.pointer (some ⟨g,0,none⟩)] 145))) (.cells #[.int .i64 most] 3);have HC:=zh (fun F=>reading_err_70 g at_ s F e0 _ ((h.ext ha).ext hb) he);clear h he;have HA:=zh ha;have HB:=zh hb;clear ha hb;go_enter Tryz.func118,Tryz.ntmps118;go_wp2_with fail;refine(HC.out _).mono ?_;rintro e w3 ⟨rfl,hE3⟩;have HE3:=zh hE3;clear hE3;go_wp2_with fail;go_ret;exact⟨rfl,zxt (zxt HA.out HB.out) HE3.out⟩
end Go.Proofs.YtidnboeihkeljaaGreatDoor.Wire
namespace Go.Proofs.YtidnboeihkeljaaGreatDoor.Delta
open Go.ChangeShapes Go.WideShapes Go.ChangeAt Go.RowKit
open Wire
theorem infoP:(Tryz.prog.info? 152).map (fun i=>(i.zero,i.size,i.bytes))=some (some (.agg #[.int .i64 0,.string ⟨#[]⟩]),2,24):=by kernel_rfl
theorem tr_small {rest:List Nat} {m:Int} {ys:List Nat} {j:Nat} (h:tr rest m= .ok ys j) (hs:∀c∈rest,c<256):∀c∈ys,c<256:=by
 unfold tr at h
 cases hv:vr 0 0 rest with
 | short=>rw[hv]at h;cases h
 | form=>rw[hv]at h;cases h
 | ok z k=>
  rw[hv]at h;simp only at h;by_cases h1:m<0∨m<(z:Int)
  ·rw[if_pos h1]at h;cases h
  ·rw[if_neg h1]at h
   by_cases h2:rest.length-k<z
   ·rw[if_pos h2]at h;cases h
   ·rw[if_neg h2]at h
    cases h
    exact fun c hc=>hs c (List.mem_of_mem_drop (List.mem_of_mem_take hc))
def pcells (l:List (Nat × List Nat)):List Value:=l.flatMap fun p=>[.int .i64 (p.1:Int),.string (strOf p.2)]
theorem pcells_snoc (l:List (Nat × List Nat)) (p:Nat × List Nat):pcells (l++[p])=pcells l++[.int .i64 (p.1:Int),.string (strOf p.2)]:=by simp[pcells]
def POwn (W w:World) (v:Value) (l:List (Nat × List Nat)):Prop:=w.ownsRow W.heap.size 152 2 v l.length (pcells l)
theorem powned {W w:World} {g j:Nat} {s:Value} {e:Int} {v:Value} {l:List (Nat × List Nat)} {w':World} (h:POwn W w v l) (hg:g<W.heap.size) (hE:Eff w w' g s j e):POwn W w' v l:=
 zw24 h hE.2 (.inr (fun e=>by have:=own_ge h g e;omega))
theorem POwn.ext {W w w':World} {v:Value} {l:List (Nat × List Nat)} (h:POwn W w v l) (hE:Ext w w'):POwn W w' v l:=own_ext h hE
theorem eff_app {w w3 w5:World} {g i:Nat} {s:Value} {e:Int} {t:TypeId} {size n:Nat} {v:Value} {xs:List Value} (hE:Eff w w3 g s i e) (hO:w3.ownsRow w.heap.size t size v n xs) (hg:g<w.heap.size) (hgr:w3.grownBy w5 v.ownBlock):Eff w w5 g s i e:=by
 have hne:∀k,k<w.heap.size→some k≠v.ownBlock:=fun k hk e=>by have:=own_ge hO k e.symm;omega
 refine⟨(hgr.block g (zw9 hg hE.2.size) (hne g hg)).trans hE.1,⟨hgr.os.trans hE.2.os,hgr.tape.trans hE.2.tape,hgr.output.trans hE.2.output,zw10 hE.2.size hgr.size,fun k hk hkg=>?_⟩⟩;exact(hgr.block k (zw9 hk hE.2.size) (hne k hk)).trans (hE.2.block k hk hkg)
def LPost (w:World) (g n:Nat) (R:LR) (e:Ending) (w':World):Prop:=
 w.grownBy w' (some g)∧match R with
 | .bad f=>e= .returned (.tuple #[.slice none 0 0,.int .i64 f])∧f≠0
 | .ok l=>∃v,e= .returned (.tuple #[v,.int .i64 0])∧POwn w w' v l∧∀p∈l,p.1+p.2.length≤n∧∀c∈p.2,c<256
def LRel (w:World) (g n N c:Nat) (A:Option Addr) (xs:List Nat) (R:LR) (ov av:Value) (wr:World):Prop:=
 ∃(i k:Nat) (l:List (Nat × List Nat)),i≤N∧k≤n∧av= .int .i64 (k:Int)∧POwn w wr ov l∧l.length≤i∧Eff w wr g (.slice A N c) i 0∧RB wr g A N c xs∧LR.pre l (lits n k (xs.drop i))=R∧
  ∀p∈l,p.1+p.2.length≤n∧∀c∈p.2,c<256
theorem literals (g n N c i0:Nat) (A:Option Addr) (xs:List Nat) (w:World) (h:Rdr w g (.slice A N c) i0 0) (hi0:i0≤N) (hB:RB w g A N c xs) (hN:N≤1000000) (hn:n≤2147483647):
  Calls Tryz.prog 82 #[.pointer (some ⟨g,0,none⟩),.int .i64 (n:Int)] w (LPost w g n (lits n 0 (xs.drop i0))):=by
 have hgl:g<w.heap.size:=Blk.lt h;have hxl:xs.length=N:=hB.1.1;have hxs:=mem_small hB.1.2.1;have H:=zh h;have HB:=zh hB;have HXS:=zh hxs;have HXL:=zh hxl;clear h hB hxs hxl;obtain⟨R,hR⟩:∃R,R=lits n 0 (xs.drop i0):=⟨_,rfl⟩;rw[←hR];have HR:=zh hR;clear hR;go_enter Tryz.func82,Tryz.ntmps82;go_wp2_with fail
 go_loopw [6,7] (fun ov av wr=>LRel w g n N c A xs R ov av wr) (fun _ _ wr=>N-(intOf ((wr.cell? ⟨g,1,none⟩).getD undef)).toNat)
 case atStart=>exact⟨i0,0,[],hi0,Nat.zero_le _,rfl,World.ownsRow_nil _ _ _ _,Nat.zero_le _,⟨H.out,gb_refl _ _⟩,HB.out,by rw[pre_nil,HR.out],fun p hp=>by cases hp⟩
 case round=>
  obtain⟨i,k,l,hi,hk,rfl,hO,hli,hE,hRB,hP,hA⟩:=hrel;have hm:N-(intOf ((wr.cell? ⟨g,1,none⟩).getD undef)).toNat=N-i:=by rw[hE.1.cells.2.1];simp[intOf]
  rw[hm];have HO:=zh hO;have HE:=zh hE;have HRB:=zh hRB;have HP:=zh hP;have HAL:=zh hA;clear hO hE hRB hP hA hm;go_wp2_with fail;refine(left_any g N c A i 0 wr HE.out.1 hi (by omega)).mono ?_;rintro e w1 ⟨rfl,b1⟩;have HE1:=zh (HE.out.ext b1);have B1:=zh b1;clear b1;have HXD:=zh (zw1 (i:=i) (l:=xs));obtain⟨L,hL⟩:∃L:Nat,L=N-i:=⟨_,rfl⟩;rw[←hL];have HL:=zh hL;clear hL;by_cases hiN:i=N
  ·obtain rfl:L=0:=by rw[HL.out];omega
   have HRR:Hid (R= .ok l):=zh (by rw[←HP.out,hiN,List.drop_of_length_le (by rw[HXL.out];exact zw8 _),lits_nil];simp[LR.pre]);clear hiN;go_wp2_with fail
   go_ret2
   exact⟨HE1.out.2,by rw[HRR.out];exact⟨_,rfl,POwn.ext HO.out B1.out,HAL.out⟩⟩
  ·have hgt:0<L:=by rw[HL.out];omega
   have hne:Hid (xs.drop i≠[]):=zh (fun e=>by have:=congrArg List.length e;rw[zw1,HXL.out]at this;simp at this;omega);clear hiN;go_wp2_with fail;refine(int g N c i A xs w1 HE1.out.1 (HRB.out.eff (gb_ext B1.out _)).1 hi (by omega)).mono ?_;rintro e w2 ⟨z,j,err,rfl,hz,hE2,hl⟩;have hE2':=hE2;have HE2:=zh (HE1.out.trans hE2);cases hLM:lim (vr 0 0 (xs.drop i))with
   | short=>
    rw[hLM]at hl;obtain⟨rfl,rfl,rfl⟩:=hl;have HRR:Hid (R= .bad 3):=zh (by rw[←HP.out,lits_short hne.out hLM];rfl);clear hLM;clear hE2 hE2';go_wp2_with fail;refine(err_any g _ (i+0) 3 w2 HE2.out.1).mono ?_;rintro e w3 ⟨rfl,rfl⟩;go_wp2_with fail;refine(text_err g (i+0) _ 3 _ w2 HE2.out.1 (by decide)).mono ?_;rintro e w3 ⟨rfl,b3⟩;have HE3:=zh (HE2.out.ext b3);clear b3;go_wp2_with fail;refine(err_any g _ (i+0) 3 w3 HE3.out.1).mono ?_;rintro e w4 ⟨rfl,rfl⟩;go_wp2_with fail;refine(err_any g _ (i+0) 3 w3 HE3.out.1).mono ?_;rintro e w4 ⟨rfl,rfl⟩;go_wp2_with fail
    go_ret2
    exact⟨HE3.out.2,by rw[HRR.out];exact⟨rfl,by decide⟩⟩
   | form=>
    rw[hLM]at hl;obtain⟨rfl,rfl,rfl⟩:=hl;have HRR:Hid (R= .bad 4):=zh (by rw[←HP.out,lits_form hne.out hLM];rfl);clear hLM;clear hE2 hE2';go_wp2_with fail;refine(err_any g _ (i+0) 4 w2 HE2.out.1).mono ?_;rintro e w3 ⟨rfl,rfl⟩;go_wp2_with fail;refine(text_err g (i+0) _ 4 _ w2 HE2.out.1 (by decide)).mono ?_;rintro e w3 ⟨rfl,b3⟩;have HE3:=zh (HE2.out.ext b3);clear b3;go_wp2_with fail;refine(err_any g _ (i+0) 4 w3 HE3.out.1).mono ?_;rintro e w4 ⟨rfl,rfl⟩;go_wp2_with fail;refine(err_any g _ (i+0) 4 w3 HE3.out.1).mono ?_;rintro e w4 ⟨rfl,rfl⟩;go_wp2_with fail
    go_ret2
    exact⟨HE3.out.2,by rw[HRR.out];exact⟨rfl,by decide⟩⟩
   | ok v kk=>
    rw[hLM]at hl;obtain⟨rfl,rfl,rfl⟩:=hl;have HLM:=zh hLM;clear hLM;obtain⟨_,hk1,_,hk2⟩:=vr_ok (fun c hc=>HXS.out c (List.mem_of_mem_drop hc)) (lim_ok HLM.out);rw[HXD.out,HXL.out]at hk2;have hkp:=vb_pos z;rw[←hk1]at hkp;have hij:i+j≤N:=by omega
    clear hE2 hk1;go_wp2_with fail;refine(err_any g _ (i+j) 0 w2 HE2.out.1).mono ?_;rintro e w3 ⟨rfl,rfl⟩;by_cases hbig:n<k+z
    ·have hb2:(n:Int)-(k:Int)<(z:Int):=by omega
     have HRR:Hid (R= .bad 4):=zh (by rw[←HP.out,lits_big hne.out HLM.out hbig];rfl);clear hbig;go_wp2_with fail
     go_ret2
     exact⟨HE2.out.2,by rw[HRR.out];exact⟨rfl,by decide⟩⟩
    ·have hb2:¬(n:Int)-(k:Int)<(z:Int):=by omega
     go_wp2_with fail;have HRB2:=zh (HRB.out.eff (gb_trans (gb_ext B1.out _) (hE2'.2)));have HDD:Hid ((xs.drop i).drop j=xs.drop (i+j)):=zh zw31;refine(text g N c (i+j) ((n:Int)-(k:Int)-(z:Int)) (by omega) (by omega) A xs w2 HE2.out.1 HRB2.out hij (by omega)).mono ?_;intro e w3 hT;cases hTR:tr (xs.drop (i+j)) ((n:Int)-(k:Int)-(z:Int))with
     | bad f=>
      rw[hTR]at hT;obtain⟨rfl,hE3⟩:=hT;have HE3:=zh (HE2.out.trans hE3);have hf:=tr_bad hTR;have hf2:(f==0)=false:=zw12.2 hf;have hf3:(f != 0)=true:=by rw[bne_iff_ne];exact hf
      have HRR:Hid (R= .bad f):=zh (by rw[←HP.out,lits_bad hne.out HLM.out hbig (by rw[HDD.out];exact hTR)];rfl);have HF:=zh hf;clear hTR hE3 hbig hf;go_wp2_with fail;refine(err_any g _ (i+j) f w3 HE3.out.1).mono ?_;rintro e w4 ⟨rfl,rfl⟩;go_wp2_with fail;refine(err_any g _ (i+j) f w3 HE3.out.1).mono ?_;rintro e w4 ⟨rfl,rfl⟩;go_wp2_with fail
      go_ret2
      exact⟨HE3.out.2,by rw[HRR.out];exact⟨rfl,HF.out⟩⟩
     | ok ys jj=>
      rw[hTR]at hT;obtain⟨rfl,hE3⟩:=hT;have HE3:=zh (HE2.out.trans hE3);obtain⟨t1,t2,t3,t4⟩:=tr_len hTR (fun c hc=>HXS.out c (List.mem_of_mem_drop hc));rw[zw1,HXL.out]at t2 t4;have HRR:Hid (R=LR.pre (l++[(k+z,ys)]) (lits n (k+z+ys.length) (xs.drop (i+j+jj)))):=zh (by
       rw[←HP.out,lits_more hne.out HLM.out hbig (by rw[HDD.out];exact hTR) (by omega),pre_pre,zw31,Nat.add_assoc i])
      have HO3:=zh (powned (POwn.ext HO.out B1.out) hgl (hE2'.trans hE3));have HRB3:=zh (HRB2.out.eff hE3.2);have HYB:Hid (∀c∈ys,c<256):=zh (tr_small hTR (fun c hc=>HXS.out c (List.mem_of_mem_drop hc)));have HYS:=zh (strOf_size ys);clear hTR hE3 hbig;generalize hS:strOf ys=S at*;have HS:=zh hS;clear hS;have hsb:S.size≤1000000:=by rw[HYS.out];omega
      go_wp2_with fail;refine(err_any g _ (i+j+jj) 0 w3 HE3.out.1).mono ?_;rintro e w4 ⟨rfl,rfl⟩;have ha:=zxa (zxr w3) (.cells #[.int .i64 ((k:Int)+(z:Int)),.string S] 152);have HEA:=zh (HE3.out.ext ha);have HOA:=zh (POwn.ext HO3.out ha);have HSRC:Hid (Src Tryz.prog 2 148 (.slice (some ⟨w3.heap.size,0,none⟩) 1 1) 1 [.int .i64 ((k:Int)+(z:Int)),.string S] (w3.alloc (.cells #[.int .i64 ((k:Int)+(z:Int)),.string S] 152))):=zh (Src.ofSlice _ Tryz.underlying148 ⟨w3.heap.size,0,none⟩ 1 1 _ rfl (fun q u hu=>by
       rw[show((⟨w3.heap.size,0,none⟩:Addr).add q)=⟨w3.heap.size,q,none⟩from by unfold Addr.add;split<;>simp_all,World.cell?_alloc_new]
       rw[←hu];simp) (fun u hu=>by
       simp only[zw30,List.not_mem_nil,or_false]at hu;rcases hu with rfl | rfl<;>rfl))
      have hsz:=HE3.out.2.size;obtain⟨iP,hi0,hz0,hz1,hz2⟩:=info_parts infoP;have HI:=zh (And.intro hi0 (And.intro hz0 (And.intro hz1 hz2)));clear hi0 hz0 hz1 hz2;have hll:l.length≤1000000:=by omega
      clear ha;go_wp2_with (at_builtin;refine wpList_app_own rfl (.tmp 40) (.tmp 44) 148 148 rfl 152 iP (.agg #[.int .i64 0,.string ⟨#[]⟩]) 2 24 Tryz.underlying148 HI.out.1 HI.out.2.1 HI.out.2.2.1 HI.out.2.2.2 rfl w.heap.size _ (.slice (some ⟨w3.heap.size,0,none⟩) 1 1) l.length (pcells l) rfl rfl HOA.out 1 _ HSRC.out (by unfold maxLen;omega) (by omega) (by simp;omega) ?_;intro v5 w5 hown5 hgr5;have HOW5:=zh hown5;have HGR5:=zh hgr5;clear hown5 hgr5)
      have HE5:=zh (eff_app HEA.out HOA.out hgl HGR5.out);have HO5:Hid (POwn w w5 v5 (l++[(k+z,ys)])):=zh (by
       have:=HOW5.out;unfold POwn;rw[pcells_snoc,zw0,HS.out];exact this)
      have hmm:N-(intOf ((w5.cell? ⟨g,1,none⟩).getD undef)).toNat=N-(i+j+jj):=by rw[HE5.out.1.cells.2.1];simp[intOf];omega
      go_roundw
      case rel=>exact⟨i+j+jj,k+z+ys.length,l++[(k+z,ys)],by omega,by omega,int_eq (by rw[HYS.out];omega),HO5.out,by simp;omega,HE5.out,HB.out.eff HE5.out.2,HRR.out.symm,fun p hp=>by
       rcases zw16.1 hp with hp | hp
       ·exact HAL.out p hp
       ·simp only[zw30,List.not_mem_nil,or_false]at hp
        subst hp;exact⟨by show k+z+ys.length≤n;omega,HYB.out⟩⟩
      case measure=>rw[hmm];omega
end Go.Proofs.YtidnboeihkeljaaGreatDoor.Delta
