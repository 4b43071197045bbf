/- Contracts of package chunk: a chunk is put. -/
import Derived.Test.YtbopblbhjcemaaaGreatDoorF08
set_option maxHeartbeats 16000000
set_option maxRecDepth 100000
set_option linter.all false
open Go.ChangeShapes Go.WideShapes Go.ChangeAt Go.RowKit
namespace Go.Proofs.YtbopblbhjcemaaaGreatDoor.Chk
open Wire
theorem hmxD:Tryz.prog.follows .mixedOrders=true:=by kernel_rfl
def Box (w:World) (B:Nat) (v:Value):Prop:=Blk w B 22 #[v]
theorem Box.cell {w:World} {B:Nat} {v:Value} (h:Box w B v):w.cell? ⟨B,0,none⟩=some v:=Blk.cell h 0
theorem Box.frozen {w:World} {B:Nat} {v:Value} (h:Box w B v):w.frozen? ⟨B,0,none⟩=false:=Blk.frozen h 0
def Held (W w:World) (B:Nat) (v:Value) (zs:List Nat):Prop:=Box w B v∧Wire.Own W w v zs∧Ext W w∧W.heap.size≤B
theorem held_apart {W w:World} {B:Nat} {v:Value} {zs:List Nat} (h:Held W w B v zs) (hp:0<zs.length):v.ownBlock≠some B:=by
 obtain⟨hb,hO,_,_⟩:=h;obtain⟨A,c,rfl,_,_,h3⟩:=own_shape hO;obtain⟨g,rfl,_⟩:=h3 hp;intro e;have e':g=B:=by simpa [Value.ownBlock]using e
 subst e';have h1:=hO.cellAt 0 (by omega);rw[c8_at hp]at h1;have h2:=hb.cell;rw[h1]at h2;cases h2
theorem Held.ext {W w w':World} {B:Nat} {v:Value} {zs:List Nat} (h:Held W w B v zs) (hE:Ext w w'):Held W w' B v zs:=⟨Blk.ext h.1 hE,h.2.1.ext hE,zxt h.2.2.1 hE,h.2.2.2⟩
theorem held_app {W w:World} {B:Nat} {v vx:Value} {zs ys:List Nat} {tx:TypeId} (h:Held W w B v zs) (hp:0<zs.length) (hsrc:Src Tryz.prog 1 tx vx ys.length (c8 ys) w) (hb:zs.length+ys.length≤100000000000):
  ∃v' w',(Builtin.append_ #[22,tx] 22 #[v,vx]).run Tryz.prog w= .ok v' w'∧Wire.Own W w' v' (zs++ys)∧Ext W w'∧Box w' B v:=by
 obtain⟨i0,hi0,hz0,hz1,hz2⟩:=info_parts info8;have hne:=held_apart h hp;obtain⟨hbx,hO,hE,hB⟩:=h;obtain⟨v',w',h1,h2,h3⟩:=run_app_own (P:=Tryz.prog) 22 tx 22 5 i0 (.int .u8 0) 1 1 Tryz.underlying22 hi0 hz0 hz1 hz2 rfl W.heap.size v zs.length (c8 zs) hO vx ys.length (c8 ys) hsrc (by unfold maxLen;omega) (by omega) hE.size;refine⟨v',w',h1,by unfold Wire.Own;rw[List.length_append,c8_app];exact h2,ext_grown hE h3 (own_ge hO),(h3.block B (Blk.lt hbx) (fun e=>hne e.symm)).trans hbx⟩
theorem held_set {W w:World} {B:Nat} {v v':Value} {zs:List Nat} (hO:Wire.Own W w v' zs) (hE:Ext W w) (hbx:Box w B v) (hB:W.heap.size≤B) (hp:0<zs.length) (hv:∃A n c,v= .slice A n c):Held W (w.setCell ⟨B,0,none⟩ v') B v' zs:=by
 have hne:v'.ownBlock≠some B:=by
  obtain⟨A,n,c,rfl⟩:=hv;exact fun e=>by
   obtain⟨A',c',rfl,_,_,h3⟩:=own_shape hO;obtain⟨g,rfl,_⟩:=h3 hp;have e':g=B:=by simpa [Value.ownBlock]using e
   subst e';have h1:=hO.cellAt 0 (by omega);rw[c8_at hp]at h1;have h2:=hbx.cell;rw[h1]at h2;cases h2
 exact⟨Blk.set_ hbx 0 _,World.ownsRow.kept hO (gb_set w B 0 v') (.inr (fun e=>hne e)),ext_set hE hB _,hB⟩
theorem sealC (W w:World) (B:Nat) (A:Option Addr) (c:Nat) (zs:List Nat) (h:Held W w B (.slice A zs.length c) zs) (hz:∀j,zs.getD j 0<256) (hT:Crc.Tab w) (hp:0<zs.length) (hn:zs.length≤1000000):
  Calls Tryz.prog 89 #[.pointer (some ⟨B,0,none⟩)] w fun e w'=>e= .returned (.tuple #[])∧∃A' c',Held W w' B (.slice A' (zs.length+4) c') (zs++fx (crc zs)):=by
 have HSM:Hid (∀w',Ext w w'→Calls Tryz.prog 52 #[.slice A zs.length c] w' fun e w''=>e= .returned (.int .u32 (crc zs:Int))∧w'=w''):=zh (fun w' hE=>Crc.sum A _ _ _ w' (hT.ext hE) ((Wire.Own.bs h.2.1 hz).ext hE) (by omega));have HPF:=zh (fun w'=>putFixed none 0 0 [] (crc zs) (crc_lt zs) w' (Bs.none _ _) (fun _=>⟨rfl,rfl⟩) (Nat.le_refl _) (by omega) (by omega));have hfl:(fx (crc zs)).length=4:=rfl;have HFS:Hid (∀j,(fx (crc zs)).getD j 0<256):=zh (small_mem (fx_mem (crc_lt zs)));have hcl:=crc_lt zs;generalize crc zs=cr at*;have HH:=zh h;clear h hz hT;go_enter Tryz.func89,Tryz.ntmps89;go_wp2_with fail;have HH:=zh (HH.out.ext (zxd (zxr w)));have HW:=zh (zxd (zxr w));refine wp_region_held_drew (S:=fun _=>True) hmxD trivial (fun _=>?_);generalize w.drew=w1 at*;refine wpAnyH_ready (rs:=[0,1]) (by kernel_rfl) (by simp) ?_;refine AllReadyH.cons rfl (fun K hK=>?_) (AllReadyH.cons rfl (fun K hK=>?_) AllReadyH.nil)
 ·have b0:=HH.out.1.cell
  go_simp;refine hK.out _ _ trivial fun _=>?_;clear hK K;clear b0;refine zqO (i:=1) (by kernel_rfl) rfl fun K hK=>?_;have b0:=HH.out.1.cell;go_simp;refine hK.out _ _ trivial fun _=>?_;clear hK K;clear b0;refine zqO (i:=2) (by kernel_rfl) rfl fun K hK=>?_;go_simp;refine(HSM.out _ HW.out).mono ?_;rintro e w2 ⟨rfl,rfl⟩
  (try go_wp2_with fail)
  refine hK.out _ _ trivial fun _=>?_;clear hK K;refine zqO (i:=3) (by kernel_rfl) rfl fun K hK=>?_;go_simp;refine(HPF.out _).mono ?_;rintro e w2 ⟨g,c1,rfl,hc1,hc2,hg,ho,hE⟩;rw[List.nil_append]at ho hc1 ⊢;have HH:=zh (HH.out.ext hE);have HSR:Hid (Src Tryz.prog 1 22 (.slice (some ⟨g,0,none⟩) (fx cr).length c1) (fx cr).length (c8 (fx cr)) w2):=zh (Bs.src (Wire.Own.bs ho HFS.out) Tryz.underlying22 c1);clear ho hE
  (try go_wp2_with fail)
  refine hK.out _ _ trivial fun _=>?_;clear hK K;refine zqO (i:=4) (by kernel_rfl) rfl fun K hK=>?_;obtain⟨v3,w3,hrun,hO3,hE3,hB3⟩:=held_app HH.out hp HSR.out (by rw[hfl];omega);have HRUN:=zh hrun;have HO3:=zh hO3;have HE3:=zh hE3;have HB3:=zh hB3;clear hrun hO3 hE3 hB3;refine wanted_append rfl (.tmp 1) (.tmp 4) 22 22 rfl _ _ rfl rfl HRUN.out ?_;refine hK.out _ _ trivial fun _=>?_;clear hK K;refine zqO (i:=5) (by kernel_rfl) rfl fun K hK=>?_;have b0:=HB3.out.cell;have b1:=HB3.out.frozen;have HS:=zh (held_set HO3.out HE3.out HB3.out HH.out.2.2.2 (by rw[List.length_append];omega) ⟨_,_,_,rfl⟩);obtain⟨A3,c3,rfl,_⟩:=own_shape HO3.out;go_simp;refine hK.out _ _ trivial fun _=>?_;clear hK K;refine wpAnyH_done (by kernel_rfl) ?_ _;go_wp2_with fail
  go_end0
  exact⟨rfl,A3,c3,by have h:=HS.out;rw[List.length_append]at h;exact h⟩
 ·have b0:=HH.out.1.cell
  go_simp;refine hK.out _ _ trivial fun _=>?_;clear hK K;clear b0;refine wpAnyH_ready (rs:=[0,2]) (by kernel_rfl) (by simp) ?_;refine AllReadyH.cons rfl (fun K hK=>?_) (AllReadyH.cons rfl (fun K hK=>?_) AllReadyH.nil)
  ·have b0:=HH.out.1.cell
   go_simp;refine hK.out _ _ trivial fun _=>?_;clear hK K;clear b0;refine zqO (i:=2) (by kernel_rfl) rfl fun K hK=>?_;go_simp;refine(HSM.out _ HW.out).mono ?_;rintro e w2 ⟨rfl,rfl⟩
   (try go_wp2_with fail)
   refine hK.out _ _ trivial fun _=>?_;clear hK K;refine zqO (i:=3) (by kernel_rfl) rfl fun K hK=>?_;go_simp;refine(HPF.out _).mono ?_;rintro e w2 ⟨g,c1,rfl,hc1,hc2,hg,ho,hE⟩;rw[List.nil_append]at ho hc1 ⊢;have HH:=zh (HH.out.ext hE);have HSR:Hid (Src Tryz.prog 1 22 (.slice (some ⟨g,0,none⟩) (fx cr).length c1) (fx cr).length (c8 (fx cr)) w2):=zh (Bs.src (Wire.Own.bs ho HFS.out) Tryz.underlying22 c1);clear ho hE
   (try go_wp2_with fail)
   refine hK.out _ _ trivial fun _=>?_;clear hK K;refine zqO (i:=4) (by kernel_rfl) rfl fun K hK=>?_;obtain⟨v3,w3,hrun,hO3,hE3,hB3⟩:=held_app HH.out hp HSR.out (by rw[hfl];omega);have HRUN:=zh hrun;have HO3:=zh hO3;have HE3:=zh hE3;have HB3:=zh hB3;clear hrun hO3 hE3 hB3;refine wanted_append rfl (.tmp 1) (.tmp 4) 22 22 rfl _ _ rfl rfl HRUN.out ?_;refine hK.out _ _ trivial fun _=>?_;clear hK K;refine zqO (i:=5) (by kernel_rfl) rfl fun K hK=>?_;have b0:=HB3.out.cell;have b1:=HB3.out.frozen;have HS:=zh (held_set HO3.out HE3.out HB3.out HH.out.2.2.2 (by rw[List.length_append];omega) ⟨_,_,_,rfl⟩);obtain⟨A3,c3,rfl,_⟩:=own_shape HO3.out;go_simp;refine hK.out _ _ trivial fun _=>?_;clear hK K;refine wpAnyH_done (by kernel_rfl) ?_ _;go_wp2_with fail
   go_end0
   exact⟨rfl,A3,c3,by have h:=HS.out;rw[List.length_append]at h;exact h⟩
  ·go_simp
   refine(HSM.out _ HW.out).mono ?_;rintro e w2 ⟨rfl,rfl⟩
   (try go_wp2_with fail)
   refine hK.out _ _ trivial fun _=>?_;clear hK K;refine wpAnyH_ready (rs:=[0,3]) (by kernel_rfl) (by simp) ?_;refine AllReadyH.cons rfl (fun K hK=>?_) (AllReadyH.cons rfl (fun K hK=>?_) AllReadyH.nil)
   ·have b0:=HH.out.1.cell
    go_simp;refine hK.out _ _ trivial fun _=>?_;clear hK K;clear b0;refine zqO (i:=3) (by kernel_rfl) rfl fun K hK=>?_;go_simp;refine(HPF.out _).mono ?_;rintro e w2 ⟨g,c1,rfl,hc1,hc2,hg,ho,hE⟩;rw[List.nil_append]at ho hc1 ⊢;have HH:=zh (HH.out.ext hE);have HSR:Hid (Src Tryz.prog 1 22 (.slice (some ⟨g,0,none⟩) (fx cr).length c1) (fx cr).length (c8 (fx cr)) w2):=zh (Bs.src (Wire.Own.bs ho HFS.out) Tryz.underlying22 c1);clear ho hE
    (try go_wp2_with fail)
    refine hK.out _ _ trivial fun _=>?_;clear hK K;refine zqO (i:=4) (by kernel_rfl) rfl fun K hK=>?_;obtain⟨v3,w3,hrun,hO3,hE3,hB3⟩:=held_app HH.out hp HSR.out (by rw[hfl];omega);have HRUN:=zh hrun;have HO3:=zh hO3;have HE3:=zh hE3;have HB3:=zh hB3;clear hrun hO3 hE3 hB3;refine wanted_append rfl (.tmp 1) (.tmp 4) 22 22 rfl _ _ rfl rfl HRUN.out ?_;refine hK.out _ _ trivial fun _=>?_;clear hK K;refine zqO (i:=5) (by kernel_rfl) rfl fun K hK=>?_;have b0:=HB3.out.cell;have b1:=HB3.out.frozen;have HS:=zh (held_set HO3.out HE3.out HB3.out HH.out.2.2.2 (by rw[List.length_append];omega) ⟨_,_,_,rfl⟩);obtain⟨A3,c3,rfl,_⟩:=own_shape HO3.out;go_simp;refine hK.out _ _ trivial fun _=>?_;clear hK K;refine wpAnyH_done (by kernel_rfl) ?_ _;go_wp2_with fail
    go_end0
    exact⟨rfl,A3,c3,by have h:=HS.out;rw[List.length_append]at h;exact h⟩
   ·go_simp
    refine(HPF.out _).mono ?_;rintro e w2 ⟨g,c1,rfl,hc1,hc2,hg,ho,hE⟩;rw[List.nil_append]at ho hc1 ⊢;have HH:=zh (HH.out.ext hE);have HSR:Hid (Src Tryz.prog 1 22 (.slice (some ⟨g,0,none⟩) (fx cr).length c1) (fx cr).length (c8 (fx cr)) w2):=zh (Bs.src (Wire.Own.bs ho HFS.out) Tryz.underlying22 c1);clear ho hE
    (try go_wp2_with fail)
    refine hK.out _ _ trivial fun _=>?_;clear hK K;refine zqO (i:=0) (by kernel_rfl) rfl fun K hK=>?_;have b0:=HH.out.1.cell;go_simp;refine hK.out _ _ trivial fun _=>?_;clear hK K;clear b0;refine zqO (i:=4) (by kernel_rfl) rfl fun K hK=>?_;obtain⟨v3,w3,hrun,hO3,hE3,hB3⟩:=held_app HH.out hp HSR.out (by rw[hfl];omega);have HRUN:=zh hrun;have HO3:=zh hO3;have HE3:=zh hE3;have HB3:=zh hB3;clear hrun hO3 hE3 hB3;refine wanted_append rfl (.tmp 1) (.tmp 4) 22 22 rfl _ _ rfl rfl HRUN.out ?_;refine hK.out _ _ trivial fun _=>?_;clear hK K;refine zqO (i:=5) (by kernel_rfl) rfl fun K hK=>?_;have b0:=HB3.out.cell;have b1:=HB3.out.frozen;have HS:=zh (held_set HO3.out HE3.out HB3.out HH.out.2.2.2 (by rw[List.length_append];omega) ⟨_,_,_,rfl⟩);obtain⟨A3,c3,rfl,_⟩:=own_shape HO3.out;go_simp;refine hK.out _ _ trivial fun _=>?_;clear hK K;refine wpAnyH_done (by kernel_rfl) ?_ _;go_wp2_with fail
    go_end0
    exact⟨rfl,A3,c3,by have h:=HS.out;rw[List.length_append]at h;exact h⟩
theorem app_new {w:World} {A:Option Addr} {n:Nat} {xs ys:List Nat} {vx:Value} {tx:TypeId} (hB:Bs w A n xs) (hsrc:Src Tryz.prog 1 tx vx ys.length (c8 ys) w) (hy:0<ys.length) (hb:n+ys.length≤100000000000):
  ∃A' c' w',(Builtin.append_ #[22,tx] 22 #[.slice A n n,vx]).run Tryz.prog w= .ok (.slice A' (xs++ys).length c') w'∧Wire.Own w w' (.slice A' (xs++ys).length c') (xs++ys)∧Ext w w':=by
 obtain⟨i0,hi0,hz0,hz1,hz2⟩:=info_parts info8;have hxl:=hB.1;obtain⟨v',w',h1,h2,_,h4⟩:=run_app_grow (P:=Tryz.prog) 22 tx 22 5 i0 (.int .u8 0) 1 1 Tryz.underlying22 hi0 hz0 hz1 hz2 rfl A n n (c8 xs) (by rw[c8_len,hxl,Nat.mul_one]) (hB.first _) vx ys.length (c8 ys) hsrc (by omega) (by unfold maxLen;omega) (by omega) w.heap.size (Nat.le_refl _);have hO:Wire.Own w w' v' (xs++ys):=by unfold Wire.Own;rw[List.length_append,c8_app,hxl];exact h2
 obtain⟨A',c',rfl,_⟩:=own_shape hO;exact⟨A',c',w',h1,hO,ext_grown (zxr _) (h4 none) (fun _ h=>by cases h)⟩
def SB (B:Nat) (v:Value) (w:World):Prop:=w.cell? ⟨B,0,none⟩=some v
theorem held_start (w wc:World) (a b:Nat):Held wc ((wc.alloc (.cells #[.int .u8 (a:Int),.int .u8 (b:Int)] 5)).alloc (.cells #[.slice (some ⟨wc.heap.size,0,none⟩) 2 2] 22)) (wc.heap.size+1) (.slice (some ⟨wc.heap.size,0,none⟩) 2 2) [a,b]:=by
 refine⟨Blk.new1 _ _ _ _,?_,zxa (zxa (zxr _) _) _,by omega⟩;have h:Wire.Own wc (wc.alloc (.cells #[.int .u8 (a:Int),.int .u8 (b:Int)] 5)) (.slice (some ⟨wc.heap.size,0,none⟩) 2 2) [a,b]:=
  ⟨rfl,.inr ⟨wc.heap.size,2,_,rfl,Nat.le_refl _,heap_alloc_new wc _,Nat.le_refl _,by unfold maxLen;omega,rfl,rfl⟩⟩
 exact h.ext (zxa (zxr _) _)
def PutPost (w:World) (zs:List Nat) (e:Ending) (w':World):Prop:=∃A c,e= .returned (.slice A zs.length c)∧Wire.Own w w' (.slice A zs.length c) zs∧Ext w w'
theorem put (A A2:Option Addr) (n c n2 c2 kind:Nat) (xs ys:List Nat) (w:World) (hT:Crc.Tab w) (hk:kind<256) (hB:Bs w A n xs) (hnil:A=none→n=0∧c=0) (hn:n≤c) (hc:c≤9223372036854775807) (hN:n≤4000000000)
  (hB2:Bs w A2 n2 ys) (hn2:n2≤c2) (hc2:c2≤9223372036854775807) (hN2:n2≤900000):
  Calls Tryz.prog 50 #[.slice A n c,.int .u8 (kind:Int),.slice A2 n2 c2] w (PutPost w (xs++chunk kind ys)):=by
 have HB:=zh hB;have HB2:=zh hB2;have HT:=zh hT;have HNL:=zh hnil;have HPK:=zh (Lz.pack A2 n2 c2 ys w hB2 (by omega) hn2 hc2);have hyl:ys.length=n2:=hB2.1;have HPB:=zh (Lz.pk_byte hB2.2.1);obtain⟨zs,hzs⟩:∃zs,zs=Lz.pk ys 0 0:=⟨_,rfl⟩;rw[←hzs]at HPK HPB;have HZS:=zh hzs;have HDS:=zh hB2.2.1;have HBL:=zh (body_len ys);have HBS:=zh (body_small hB2.2.1);clear hB hB2 hT hnil hzs;go_enter Tryz.func50,Tryz.ntmps50;go_wp2_with fail;refine(HPK.out).mono ?_;rintro e w1 ⟨v,rfl,hO,hE⟩;have HE:=zh hE;obtain⟨A1,c1,rfl,_⟩:=own_shape hO;have HO:=zh (Wire.Own.bs hO HPB.out);clear hO hE
 go_upto_if 19 with fail
 go_cut [7,8]from 9 to 50 (fun hv bv wx=>hv= .int .u8 (how ys:Int)∧(∃Ab cb,bv= .slice Ab (body ys).length cb∧Bs wx Ab (body ys).length (body ys))∧Ext w wx)
 case first=>
  by_cases hlt:zs.length<n2
  ·have HBO:Hid (how ys=1∧body ys=zs):=zh (by
    have h2:(Lz.pk ys 0 0).length<ys.length:=by rw[←HZS.out,hyl];exact hlt
    refine⟨by unfold how;rw[if_pos h2],by unfold body;rw[if_pos h2,←HZS.out]⟩)
   go_wp2_with fail;go_meet;refine⟨by rw[HBO.out.1];rfl,⟨A1,c1,by rw[HBO.out.2],by rw[HBO.out.2];exact HO.out⟩,HE.out⟩
  ·have HBO:Hid (how ys=0∧body ys=ys):=zh (by
    have h2:¬(Lz.pk ys 0 0).length<ys.length:=by rw[←HZS.out,hyl];exact hlt
    refine⟨by unfold how;rw[if_neg h2],by unfold body;rw[if_neg h2]⟩)
   go_wp2_with fail;go_meet;refine⟨by rw[HBO.out.1];rfl,⟨A2,c2,by rw[HBO.out.2,hyl],by rw[HBO.out.2,hyl];exact HB2.out.ext HE.out⟩,HE.out⟩
 case rest=>
  obtain⟨rfl,⟨Ab,cb,rfl,hBb⟩,hE⟩:=hcut;generalize hwb:wc=wb at*;clear hwb;have HBb:=zh hBb;have HEw:=zh hE;clear hBb hE HPK HPB HZS HE HO;have hhow:=how_le ys;have hbl:=body_len ys;obtain⟨L0,hL0⟩:∃L,L=[kind,how ys]:=⟨_,rfl⟩;obtain⟨L1,hL1⟩:∃L,L=L0++vb ys.length:=⟨_,rfl⟩;obtain⟨L2,hL2⟩:∃L,L=L1++vb (body ys).length:=⟨_,rfl⟩;obtain⟨L3,hL3⟩:∃L,L=L2++body ys:=⟨_,rfl⟩;have HL3:Hid (L3=head kind ys):=zh (by rw[hL3,hL2,hL1,hL0];simp[head,List.append_assoc]);have hv1:=vb_ten (n:=ys.length) (by omega);have hv2:=vb_ten (n:=(body ys).length) (by omega);have HLEN:Hid (L0.length=2∧L1.length=2+(vb ys.length).length∧L2.length=L1.length+(vb (body ys).length).length∧L3.length=L2.length+(body ys).length):=zh ⟨by rw[hL0];rfl,by rw[hL1,List.length_append,hL0];rfl,by rw[hL2,List.length_append],by rw[hL3,List.length_append]⟩;have hp0:0<L0.length∧L0.length≤2:=by have:=HLEN.out;omega
  have hp1:0<L1.length∧L1.length≤12:=by have:=HLEN.out;omega
  have hp2:0<L2.length∧L2.length≤22:=by have:=HLEN.out;omega
  have HSM3:Hid (∀j,L3.getD j 0<256):=zh (by rw[HL3.out];exact small_mem (head_small hk HDS.out));have HL0:=zh hL0;have HL1:=zh hL1;have HL2:=zh hL2;have HL3':=zh hL3;go_upto_region 7 with fail;have HH:=zh (held_start w wb kind (how ys));rw[←HL0.out]at HH;clear hL0 hL1 hL2 hL3;generalize (wb.alloc (.cells #[.int .u8 (kind:Int),.int .u8 (how ys:Int)] 5)).alloc (.cells #[.slice (some ⟨wb.heap.size,0,none⟩) 2 2] 22)=W1 at*;obtain⟨A0,hA0⟩:∃A0,A0=(some ⟨wb.heap.size,0,none⟩:Option Addr):=⟨_,rfl⟩;rw[←hA0]at HH ⊢;clear hA0;generalize wb.heap.size+1=B at*
  go_cut []from 25 to 50 (fun wx=>∃A3 c3,Held wb wx B (.slice A3 L1.length c3) L1)
  case first=>
   obtain⟨vs,hvs⟩:∃vs,vs=vb ys.length:=⟨_,rfl⟩;have HPV:=zh (fun w'=>Wire.put none 0 0 [] n2 (by omega) w' (Bs.none _ _) (fun _=>⟨rfl,rfl⟩) (Nat.le_refl _) (by omega) (by omega));have HVS:Hid (∀j,vs.getD j 0<256):=zh (by rw[hvs];exact vb_byte _);rw[←hyl,←hvs,hyl]at HPV;rw[←hvs]at HL1 hv1;have hp:0<L0.length:=hp0.1;have hwr:IntKind.u64.wrap (n2:Int)=(n2:Int):=by rw[IntKind.wrap_u64];omega
   have HH:=zh (HH.out.ext (zxd (zxr W1)));clear hvs;refine wp_region_held_drew (S:=fun _=>True) hmxD trivial (fun _=>?_);generalize W1.drew=W2 at*
   (refine wpAnyH_take (i:=1) (v:=?_) rfl (by kernel_rfl) (by kernel_rfl) (by kernel_rfl) (fun _ _ _ h=>h) (Or.inl ⟨by rfl,?_⟩) trivial ?_);rotate_left
   ·(intro w' hSw;go_simp;try with_reducible rfl)
   (refine wpAnyH_take (i:=2) (v:=?_) rfl (by kernel_rfl) (by kernel_rfl) (by kernel_rfl) (fun _ _ _ h=>h) (Or.inl ⟨by rfl,?_⟩) trivial ?_);rotate_left
   ·(intro w' hSw;go_simp;try with_reducible rfl)
   (refine wpAnyH_take (i:=3) (v:=?_) rfl (by kernel_rfl) (by kernel_rfl) (by kernel_rfl) (fun _ _ _ h=>h) (Or.inl ⟨by rfl,?_⟩) trivial ?_);rotate_left
   ·(intro w' hSw;go_simp;try with_reducible rfl)
   refine wpAnyH_ready (rs:=[0,4]) (by kernel_rfl) (by simp) ?_;refine AllReadyH.cons rfl (fun K hK=>?_) (AllReadyH.cons rfl (fun K hK=>?_) AllReadyH.nil)
   ·have b0:=HH.out.1.cell
    go_simp;refine hK.out _ _ trivial fun _=>?_;clear hK K;clear b0;refine zqO (i:=4) (by kernel_rfl) rfl fun K hK=>?_;go_simp;refine(HPV.out _).mono ?_;rintro e w2 ⟨g,c1,rfl,hc1,hc2,hg,ho,hE⟩;rw[List.nil_append]at ho hc1 ⊢;have HH:=zh (HH.out.ext hE);have HSR:Hid (Src Tryz.prog 1 22 (.slice (some ⟨g,0,none⟩) vs.length c1) vs.length (c8 vs) w2):=zh (Bs.src (Wire.Own.bs ho HVS.out) Tryz.underlying22 c1);clear ho hE
    (try go_wp2_with fail)
    refine hK.out _ _ trivial fun _=>?_;clear hK K;refine zqO (i:=5) (by kernel_rfl) rfl fun K hK=>?_;obtain⟨v3,w3,hrun,hO3,hE3,hB3⟩:=held_app HH.out hp HSR.out (by omega);have HRUN:=zh hrun;have HO3:=zh hO3;have HE3:=zh hE3;have HB3:=zh hB3;clear hrun hO3 hE3 hB3;refine wanted_append rfl (.tmp 25) (.tmp 29) 22 22 rfl _ _ rfl rfl HRUN.out ?_;refine hK.out _ _ trivial fun _=>?_;clear hK K;refine zqO (i:=6) (by kernel_rfl) rfl fun K hK=>?_;have b0:=HB3.out.cell;have b1:=HB3.out.frozen;have HS:=zh (held_set HO3.out HE3.out HB3.out HH.out.2.2.2 (by rw[List.length_append];omega) ⟨_,_,_,rfl⟩);obtain⟨A3,c3,rfl,_⟩:=own_shape HO3.out;go_simp;refine hK.out _ _ trivial fun _=>?_;clear hK K;refine wpAnyH_done (by kernel_rfl) ?_ _;go_wp2_with fail;go_meet;exact⟨A3,c3,by rw[HL1.out];have h:=HS.out;simp only[List.length_append]at h ⊢;exact h⟩
   ·go_simp
    refine(HPV.out _).mono ?_;rintro e w2 ⟨g,c1,rfl,hc1,hc2,hg,ho,hE⟩;rw[List.nil_append]at ho hc1 ⊢;have HH:=zh (HH.out.ext hE);have HSR:Hid (Src Tryz.prog 1 22 (.slice (some ⟨g,0,none⟩) vs.length c1) vs.length (c8 vs) w2):=zh (Bs.src (Wire.Own.bs ho HVS.out) Tryz.underlying22 c1);clear ho hE
    (try go_wp2_with fail)
    refine hK.out _ _ trivial fun _=>?_;clear hK K;refine zqO (i:=0) (by kernel_rfl) rfl fun K hK=>?_;have b0:=HH.out.1.cell;go_simp;refine hK.out _ _ trivial fun _=>?_;clear hK K;clear b0;refine zqO (i:=5) (by kernel_rfl) rfl fun K hK=>?_;obtain⟨v3,w3,hrun,hO3,hE3,hB3⟩:=held_app HH.out hp HSR.out (by omega);have HRUN:=zh hrun;have HO3:=zh hO3;have HE3:=zh hE3;have HB3:=zh hB3;clear hrun hO3 hE3 hB3;refine wanted_append rfl (.tmp 25) (.tmp 29) 22 22 rfl _ _ rfl rfl HRUN.out ?_;refine hK.out _ _ trivial fun _=>?_;clear hK K;refine zqO (i:=6) (by kernel_rfl) rfl fun K hK=>?_;have b0:=HB3.out.cell;have b1:=HB3.out.frozen;have HS:=zh (held_set HO3.out HE3.out HB3.out HH.out.2.2.2 (by rw[List.length_append];omega) ⟨_,_,_,rfl⟩);obtain⟨A3,c3,rfl,_⟩:=own_shape HO3.out;go_simp;refine hK.out _ _ trivial fun _=>?_;clear hK K;refine wpAnyH_done (by kernel_rfl) ?_ _;go_wp2_with fail;go_meet;exact⟨A3,c3,by rw[HL1.out];have h:=HS.out;simp only[List.length_append]at h ⊢;exact h⟩
  case rest=>
   obtain⟨A3,c3,hH⟩:=hcut;have HH:=zh hH;clear hH;go_upto_region 8 with fail
   go_cut []from 25 to 50 (fun wx=>∃A3 c3,Held wb wx B (.slice A3 L2.length c3) L2)
   case first=>
    obtain⟨vs,hvs⟩:∃vs,vs=vb (body ys).length:=⟨_,rfl⟩;have HPV:=zh (fun w'=>Wire.put none 0 0 [] (body ys).length (by omega) w' (Bs.none _ _) (fun _=>⟨rfl,rfl⟩) (Nat.le_refl _) (by omega) (by omega));have HVS:Hid (∀j,vs.getD j 0<256):=zh (by rw[hvs];exact vb_byte _);rw[←hvs]at HPV HL2 hv2;have hp:0<L1.length:=hp1.1;have hwr:IntKind.u64.wrap ((body ys).length:Int)=((body ys).length:Int):=by rw[IntKind.wrap_u64];omega
    have HH:=zh (HH.out.ext (zxd (zxr _)));clear hvs;refine wp_region_held_drew (S:=fun _=>True) hmxD trivial (fun _=>?_);generalize World.drew _=W2 at*
    (refine wpAnyH_take (i:=1) (v:=?_) rfl (by kernel_rfl) (by kernel_rfl) (by kernel_rfl) (fun _ _ _ h=>h) (Or.inl ⟨by rfl,?_⟩) trivial ?_);rotate_left
    ·(intro w' hSw;go_simp;try with_reducible rfl)
    (refine wpAnyH_take (i:=2) (v:=?_) rfl (by kernel_rfl) (by kernel_rfl) (by kernel_rfl) (fun _ _ _ h=>h) (Or.inl ⟨by rfl,?_⟩) trivial ?_);rotate_left
    ·(intro w' hSw;go_simp;try with_reducible rfl)
    (refine wpAnyH_take (i:=3) (v:=?_) rfl (by kernel_rfl) (by kernel_rfl) (by kernel_rfl) (fun _ _ _ h=>h) (Or.inl ⟨by rfl,?_⟩) trivial ?_);rotate_left
    ·(intro w' hSw;go_simp;try with_reducible rfl)
    refine wpAnyH_ready (rs:=[0,4]) (by kernel_rfl) (by simp) ?_;refine AllReadyH.cons rfl (fun K hK=>?_) (AllReadyH.cons rfl (fun K hK=>?_) AllReadyH.nil)
    ·have b0:=HH.out.1.cell
     go_simp;refine hK.out _ _ trivial fun _=>?_;clear hK K;clear b0;refine zqO (i:=4) (by kernel_rfl) rfl fun K hK=>?_;go_simp;refine(HPV.out _).mono ?_;rintro e w2 ⟨g,c1,rfl,hc1,hc2,hg,ho,hE⟩;rw[List.nil_append]at ho hc1 ⊢;have HH:=zh (HH.out.ext hE);have HSR:Hid (Src Tryz.prog 1 22 (.slice (some ⟨g,0,none⟩) vs.length c1) vs.length (c8 vs) w2):=zh (Bs.src (Wire.Own.bs ho HVS.out) Tryz.underlying22 c1);clear ho hE
     (try go_wp2_with fail)
     refine hK.out _ _ trivial fun _=>?_;clear hK K;refine zqO (i:=5) (by kernel_rfl) rfl fun K hK=>?_;obtain⟨v3,w3,hrun,hO3,hE3,hB3⟩:=held_app HH.out hp HSR.out (by omega);have HRUN:=zh hrun;have HO3:=zh hO3;have HE3:=zh hE3;have HB3:=zh hB3;clear hrun hO3 hE3 hB3;refine wanted_append rfl (.tmp 31) (.tmp 35) 22 22 rfl _ _ rfl rfl HRUN.out ?_;refine hK.out _ _ trivial fun _=>?_;clear hK K;refine zqO (i:=6) (by kernel_rfl) rfl fun K hK=>?_;have b0:=HB3.out.cell;have b1:=HB3.out.frozen;have HS:=zh (held_set HO3.out HE3.out HB3.out HH.out.2.2.2 (by rw[List.length_append];omega) ⟨_,_,_,rfl⟩);obtain⟨A3,c3,rfl,_⟩:=own_shape HO3.out;go_simp;refine hK.out _ _ trivial fun _=>?_;clear hK K;refine wpAnyH_done (by kernel_rfl) ?_ _;go_wp2_with fail;go_meet;exact⟨A3,c3,by rw[HL2.out];have h:=HS.out;simp only[List.length_append]at h ⊢;exact h⟩
    ·go_simp
     refine(HPV.out _).mono ?_;rintro e w2 ⟨g,c1,rfl,hc1,hc2,hg,ho,hE⟩;rw[List.nil_append]at ho hc1 ⊢;have HH:=zh (HH.out.ext hE);have HSR:Hid (Src Tryz.prog 1 22 (.slice (some ⟨g,0,none⟩) vs.length c1) vs.length (c8 vs) w2):=zh (Bs.src (Wire.Own.bs ho HVS.out) Tryz.underlying22 c1);clear ho hE
     (try go_wp2_with fail)
     refine hK.out _ _ trivial fun _=>?_;clear hK K;refine zqO (i:=0) (by kernel_rfl) rfl fun K hK=>?_;have b0:=HH.out.1.cell;go_simp;refine hK.out _ _ trivial fun _=>?_;clear hK K;clear b0;refine zqO (i:=5) (by kernel_rfl) rfl fun K hK=>?_;obtain⟨v3,w3,hrun,hO3,hE3,hB3⟩:=held_app HH.out hp HSR.out (by omega);have HRUN:=zh hrun;have HO3:=zh hO3;have HE3:=zh hE3;have HB3:=zh hB3;clear hrun hO3 hE3 hB3;refine wanted_append rfl (.tmp 31) (.tmp 35) 22 22 rfl _ _ rfl rfl HRUN.out ?_;refine hK.out _ _ trivial fun _=>?_;clear hK K;refine zqO (i:=6) (by kernel_rfl) rfl fun K hK=>?_;have b0:=HB3.out.cell;have b1:=HB3.out.frozen;have HS:=zh (held_set HO3.out HE3.out HB3.out HH.out.2.2.2 (by rw[List.length_append];omega) ⟨_,_,_,rfl⟩);obtain⟨A3,c3,rfl,_⟩:=own_shape HO3.out;go_simp;refine hK.out _ _ trivial fun _=>?_;clear hK K;refine wpAnyH_done (by kernel_rfl) ?_ _;go_wp2_with fail;go_meet;exact⟨A3,c3,by rw[HL2.out];have h:=HS.out;simp only[List.length_append]at h ⊢;exact h⟩
   case rest=>
    obtain⟨A4,c4,hH⟩:=hcut;have HH:=zh hH;clear hH;have hp:0<L2.length:=hp2.1;have HSR:Hid (Src Tryz.prog 1 22 (.slice Ab (body ys).length cb) (body ys).length (c8 (body ys)) wc):=zh (Bs.src (HBb.out.ext HH.out.2.2.1) Tryz.underlying22 cb);obtain⟨v3,w3,hrun,hO3,hE3,hB3⟩:=held_app HH.out hp HSR.out (by omega);have HRUN:=zh hrun;have HS:=zh (held_set hO3 hE3 hB3 HH.out.2.2.2 (by rw[List.length_append];omega) ⟨_,_,_,rfl⟩);obtain⟨A3,c3,rfl,_⟩:=own_shape hO3;rw[←HL3'.out]at HS HRUN;have b0:=HH.out.1.cell;have b1:=hB3.cell;have b2:=hB3.frozen;clear hrun hO3 hE3 hB3;go_upto_region 10 with (first | (at_builtin;refine wpList_of_append rfl (.tmp 37) (.tmp 38) 22 22 rfl _ _ rfl rfl HRUN.out ?_))
    clear HRUN b0 b1 b2 HH;generalize w3.setCell ⟨B,0,none⟩ (.slice A3 L3.length c3)=W3 at*;go_wp2_with fail;refine(sealC wb W3 B A3 c3 L3 HS.out HSM3.out (HT.out.ext (zxt HEw.out HS.out.2.2.1)) (by have:=HLEN.out;omega) (by have:=HLEN.out;omega)).mono ?_;rintro e W4 ⟨rfl,A5,c5,hH⟩;have hcl:(chunk kind ys).length=L3.length+4:=by rw[chunk_len,←HL3.out]
    have hch:L3++fx (crc L3)=chunk kind ys:=by unfold chunk;rw[HL3.out]
    rw[hch,←hcl]at hH;have HH:=zh hH;have hcp:=chunk_pos kind ys;have hcs:(chunk kind ys).length≤1000000:=by have:=HLEN.out;omega
    have HCS:Hid (∀j,(chunk kind ys).getD j 0<256):=zh (small_mem (chunk_small hk HDS.out));generalize chunk kind ys=ch at*;clear hH hcl hch;go_upto_region 11 with fail;have HX0:=zh (show SB B (.slice A5 ch.length c5) (World.drew _)from(HH.out.ext (zxd (zxr _))).1.cell);have HH:=zh (HH.out.ext (zxd (zxr _)));refine wp_region_held_drew (S:=SB B (.slice A5 ch.length c5)) hmxD HX0.out (fun _=>?_);generalize World.drew _=WZ at*;have HEZ:=zh (zxt HEw.out HH.out.2.2.1);have HSR9:Hid (Src Tryz.prog 1 22 (.slice A5 ch.length c5) ch.length (c8 ch) WZ):=zh (Bs.src (Wire.Own.bs HH.out.2.1 HCS.out) Tryz.underlying22 c5);have hxl:xs.length=n:=HB.out.1;obtain⟨A9,c9,W9,hrun,hO9,hE9⟩:=app_new (HB.out.ext HEZ.out) HSR9.out (by omega) (by omega);have HRUN:=zh hrun;have HE9:=zh hE9;have HE0:=zh (zxt HEZ.out hE9);have HO9:Hid (Wire.Own w W9 (.slice A9 (xs++ch).length c9) (xs++ch)):=zh (Com.own_low hO9 HEZ.out.size);clear hrun hO9 hE9 hxl;rcases A with _ | a
    ·obtain⟨rfl,rfl⟩:=HNL.out rfl
     (refine zqK (i:=0) (v:=?_) rfl (Or.inl ⟨by rfl,?_⟩) HX0.out ?_);rotate_left
     ·(intro w' hSw;go_simp;try with_reducible rfl)
     try simp only[Act.put,zzA,zzB,zzC]
     (refine zqK (i:=1) (v:=?_) rfl (Or.inl ⟨by rfl,?_⟩) HX0.out ?_);rotate_left
     ·(intro w' hSw;go_simp;try with_reducible rfl)
     try simp only[Act.put,zzA,zzB,zzC]
     (refine zqK (i:=2) (v:=?_) rfl (Or.inl ⟨by rfl,?_⟩) HX0.out ?_);rotate_left
     ·(intro w' hSw;go_simp;try with_reducible rfl)
     try simp only[Act.put,zzA,zzB,zzC]
     (refine zqK (i:=3) (v:=?_) rfl (Or.inl ⟨by rfl,?_⟩) HX0.out ?_);rotate_left
     ·(intro w' hSw;go_simp;try with_reducible rfl)
     try simp only[Act.put,zzA,zzB,zzC]
     (refine zqK (i:=4) (v:=?_) rfl (Or.inl ⟨by rfl,?_⟩) HX0.out ?_);rotate_left
     ·(intro w' hSw;go_simp;try with_reducible rfl)
     try simp only[Act.put,zzA,zzB,zzC]
     (refine zqK (i:=5) (v:=?_) rfl (Or.inl ⟨by rfl,?_⟩) HX0.out ?_);rotate_left
     ·(intro w' hSw;go_simp;try with_reducible rfl)
     try simp only[Act.put,zzA,zzB,zzC]
     (refine zqK (i:=6) (v:=?_) rfl (Or.inl ⟨by rfl,?_⟩) HX0.out ?_);rotate_left
     ·(intro w' hSw;have hsw:w'.cell? ⟨B,0,none⟩=some (.slice A5 ch.length c5):=hSw;go_simp;try with_reducible rfl)
     try simp only[Act.put,zzA,zzB,zzC]
     refine zqO (i:=7) (by kernel_rfl) rfl fun K hK=>?_;refine wanted_append rfl (.tmp 47) (.tmp 48) 22 22 rfl (.slice none 0 0) (.slice A5 ch.length c5) rfl rfl HRUN.out ?_;refine hK.out _ _ (kc HE9.out HX0.out) (fun _=>?_);clear hK K
     (refine zqK (i:=8) (v:=?_) rfl (Or.inl ⟨by rfl,?_⟩) (kc HE9.out HX0.out) ?_);rotate_left
     ·(intro w' hSw;go_simp;try with_reducible rfl)
     try simp only[Act.put,zzA,zzB,zzC]
     refine wpAnyH_done (by kernel_rfl) ?_ _;go_wp2_with fail;go_ret;exact⟨A9,c9,by rw[List.length_append];rfl,HO9.out,HE0.out⟩
    ·have hz:(0:Int)≤(n:Int):=by omega
     (refine zqK (i:=0) (v:=?_) rfl (Or.inl ⟨by rfl,?_⟩) HX0.out ?_);rotate_left
     ·(intro w' hSw;go_simp;try with_reducible rfl)
     try simp only[Act.put,zzA,zzB,zzC]
     (refine zqK (i:=1) (v:=?_) rfl (Or.inl ⟨by rfl,?_⟩) HX0.out ?_);rotate_left
     ·(intro w' hSw;go_simp;try with_reducible rfl)
     try simp only[Act.put,zzA,zzB,zzC]
     (refine zqK (i:=2) (v:=?_) rfl (Or.inl ⟨by rfl,?_⟩) HX0.out ?_);rotate_left
     ·(intro w' hSw;go_simp;try with_reducible rfl)
     try simp only[Act.put,zzA,zzB,zzC]
     (refine zqK (i:=3) (v:=?_) rfl (Or.inl ⟨by rfl,?_⟩) HX0.out ?_);rotate_left
     ·(intro w' hSw;go_simp;try with_reducible rfl)
     try simp only[Act.put,zzA,zzB,zzC]
     (refine zqK (i:=4) (v:=?_) rfl (Or.inl ⟨by rfl,?_⟩) HX0.out ?_);rotate_left
     ·(intro w' hSw;go_simp;try with_reducible rfl)
     try simp only[Act.put,zzA,zzB,zzC]
     (refine zqK (i:=5) (v:=?_) rfl (Or.inl ⟨by rfl,?_⟩) HX0.out ?_);rotate_left
     ·(intro w' hSw;go_simp;try with_reducible rfl)
     try simp only[Act.put,zzA,zzB,zzC]
     (refine zqK (i:=6) (v:=?_) rfl (Or.inl ⟨by rfl,?_⟩) HX0.out ?_);rotate_left
     ·(intro w' hSw;have hsw:w'.cell? ⟨B,0,none⟩=some (.slice A5 ch.length c5):=hSw;go_simp;try with_reducible rfl)
     try simp only[Act.put,zzA,zzB,zzC]
     refine zqO (i:=7) (by kernel_rfl) rfl fun K hK=>?_;refine wanted_append rfl (.tmp 47) (.tmp 48) 22 22 rfl (.slice (some a) n n) (.slice A5 ch.length c5) rfl rfl HRUN.out ?_;refine hK.out _ _ (kc HE9.out HX0.out) (fun _=>?_);clear hK K
     (refine zqK (i:=8) (v:=?_) rfl (Or.inl ⟨by rfl,?_⟩) (kc HE9.out HX0.out) ?_);rotate_left
     ·(intro w' hSw;go_simp;try with_reducible rfl)
     try simp only[Act.put,zzA,zzB,zzC]
     refine wpAnyH_done (by kernel_rfl) ?_ _;go_wp2_with fail;go_ret;exact⟨A9,c9,by rw[List.length_append];rfl,HO9.out,HE0.out⟩
end Go.Proofs.YtbopblbhjcemaaaGreatDoor.Chk
