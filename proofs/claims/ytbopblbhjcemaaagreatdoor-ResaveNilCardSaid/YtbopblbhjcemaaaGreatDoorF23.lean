
import Derived.Test.YtbopblbhjcemaaaGreatDoorFilW
set_option maxHeartbeats 16000000
set_option maxRecDepth 100000
set_option linter.all false
open Go.ChangeShapes Go.WideShapes Go.ChangeAt Go.RowKit
namespace Go.Proofs.YtbopblbhjcemaaaGreatDoor.Fil
open Wire
open Rec
open Trk (Sl Tv Tk TkV mayT encT)
open Log (Hv Ev cH cS cV mayH putL encH RSt nx va pN pI pF)
theorem bs_drop {w:World} {b o n:Nat} {xs:List Nat} (h:Bs w (some ⟨b,o,none⟩) n xs) (p m:Nat) (hm:p+m=n):Bs w (some ⟨b,o+p,none⟩) m (xs.drop p):=by
  refine⟨by rw[zw1,h.1];omega,fun j=>?_,fun hp=>?_⟩
  · rw[zw5,List.getElem?_drop,←zw5];exact h.2.1 _
  · obtain⟨b',o',e,hb,hc⟩:=h.2.2 (by omega)
    cases e
    refine⟨b,o+p,rfl,hb,fun j hj=>?_⟩;rw[zw5,List.getElem?_drop,←zw5,Nat.add_assoc];exact hc (p+j) (by omega)
theorem fixed_any {ys:List Nat} (hl:4≤ys.length):va pF 0 (some ys)=be (ys.take 4):=by
  simp[va,pF,hl]
theorem around_any (b D : Nat) (o : Ob5) (xs : List Nat) (cs : Array Value) (at_ : Nat) (w : World) (h : OW b D o xs w cs at_) (hm : be (xs.drop (xs.length - 4)) = Chk.crc (xs.take (xs.length - 4)) → xs.take 4 = [82, 77, 67, 72]) :
    Calls Tryz.prog 54 #[.pointer (some ⟨o.O,0,none⟩)] w fun e w'=>if be (xs.drop (xs.length-4))=Chk.crc (xs.take (xs.length-4))then Stp b D o xs cs 4 w e w' else e= .panicked [{v:= .iface 87 (.agg #[.int .i64 5]),recovered:=false}]∧Ext w w':=by
  have HW:=zh h;have hxl:xs.length=o.n:=h.bytes.1;rw[hxl];obtain⟨O,F,bo,bf,be_,q,n,c⟩:=o;simp only at hxl ⊢;have HNC:=zh h.nc;obtain⟨u,hu⟩:∃u,n=u+4:=⟨n-4,by have:=h.nc.2.2.1;simp only at this;omega⟩;have hue:n-4=u:=by omega
  rw[hxl,hue]at hm;rw[hue];have HM:=zh hm;have hun:(n:Int)-4=(u:Int):=by omega
  have HU:=zh hu;have HOF:=zh (fun(w':World) (e:Ext w w')=>Log.of_st (some ⟨q,u,none⟩) 4 (c-u) (xs.drop u) w' (by have:=bs_drop (h.bytes.ext e) u 4 (by simp only;omega);rwa [Nat.zero_add]at this) (fun h=>by cases h) (by omega));have HSM:=zh (fun(w':World) (e:Ext w w')=>Crc.sum (some ⟨q,0,none⟩) u c (xs.take u) w' (h.tab.ext e) ((h.bytes.ext e).take (by simp only;omega)) (by have:=h.nc.2.2.2;simp only at this;omega));have HFV:Hid (va pF 0 (some (xs.drop u))=be (xs.drop u)∧be (xs.drop u)<4294967296):=zh (by
    have hl:(xs.drop u).length=4:=by rw[zw1,hxl];omega
    refine⟨?_,Chk.be_lt (fun c hc=>mem_small h.bytes.2.1 c (List.mem_of_mem_drop hc)) (by omega)⟩;rw[fixed_any (by omega),List.take_of_length_le (by omega)])
  have HCV:Hid (xs.take 4=[82,77,67,72]→∀(W:World) (cc:Nat),Ext w W→(convert 22 9 (.slice (some ⟨q,0,none⟩) 4 cc)).run Tryz.prog W= .ok (.string ⟨#[82,77,67,72]⟩) W):=zh (fun hm W cc e=>by
    have h4:=(h.bytes.ext e).take (m:=4) (by simp only;omega);rw[hm]at h4;exact h4.conv 22 5 9 Tryz.underlying22 Tryz.underlying5 Tryz.underlying9 cc)
  clear h hm hxl hue hu;obtain⟨hc1,hc2,hc3,hc4⟩:=HNC.out;simp only at hc1 hc2 hc3 hc4;have hue:=HU.out;have hwu:wrap64 (u:Int)=(u:Int):=IntWalk.wrap64_in _ (by omega);have hcu:¬c=u:=by omega
  have hnu:n-u=4:=by omega
  have y3:(u:Int)≤(c:Int):=by omega
  have y4:(4:Int)≤(c:Int):=by omega
  clear hue hc1 hc2 hc3 hc4;have y1:(0:Int)≤(u:Int):=by omega
  have y2:(u:Int)≤(n:Int):=by have:=HU.out;omega
  by_cases hsum:be (xs.drop u)=Chk.crc (xs.take u)
  · simp only[if_pos hsum]
    have HM4:=zh (HM.out hsum);have hbt:((be (xs.drop u):Int)==((Crc.moreW 0#32 (xs.take u)).toNat:Int))=true:=beq_iff_eq.2 (by rw[hsum];rfl);replace hbt:=zh hbt;clear hsum;have f0:=HW.out.op.cell 0;have f1:=HW.out.fl.cell 0;rw[HW.out.cell]at f1;simp only[zzD,zzE,zzF]at f0;go_enter Tryz.func54,Tryz.ntmps54;go_upto_region 2 with fail;clear f0 f1;have HE:=zh (zxd (zxr w));have HW1:Hid (w.heap.size=w.drew.heap.size):=zh rfl;refine zw38 (S:=fun _=>True) hmxF trivial (fun _=>?_);generalize w.drew=w1 at*
    iterate 6
     refine zqU (v:=?_) trivial rfl ?_ ?_;rotate_left
     · intro w' hSw;go_simp;try with_reducible rfl
     (try simp only[Act.put,zzA,zzB,zzC])
    refine zqO (i:=3) (by kernel_rfl) rfl fun K hK=>?_;go_simp;refine(HOF.out _ HE.out).mono ?_;rintro e w2 ⟨g,A',c',rfl,hg,hS,hE,_⟩;replace HE:=zh (zxt HE.out hE);have HR:=zh hS;have HG:=zh hg;clear hS hE hg
    (try go_wp2_with fail)
    refine hK.out _ _ trivial fun _=>?_;clear hK K
    (try simp only[Act.put,zzA,zzB,zzC])
    refine zqO (i:=4) (by kernel_rfl) rfl fun K hK=>?_;go_simp;refine(Log.fixed_st g 4 c' A' _ _ _ HR.out).mono ?_;rintro e w3 ⟨rfl,_,_,hG⟩;replace HE:=zh (ext_grown HE.out hG (fun q e=>by cases e;have:=HG.out;have:=HW1.out;omega));rw[HFV.out.1];clear hG HR
    (try go_wp2_with fail)
    refine hK.out _ _ trivial fun _=>?_;clear hK K
    (try simp only[Act.put,zzA,zzB,zzC])
    refine zqO (i:=8) (by kernel_rfl) rfl fun K hK=>?_;go_simp;refine(HSM.out _ HE.out).mono ?_;rintro e w4 ⟨rfl,rfl⟩
    (try go_wp2_with fail)
    refine hK.out _ _ trivial fun _=>?_;clear hK K
    (try simp only[Act.put,zzA,zzB,zzC])
    (refine zqU (v:=?_) trivial rfl ?_ ?_);rotate_left
    · intro w' hSw;go_simp;try with_reducible rfl
    (try simp only[Act.put,zzA,zzB,zzC])
    refine zqO (i:=10) (by kernel_rfl) rfl fun K hK=>?_;go_simp;rw[hbt.out];refine(must_ok _ _).mono ?_;rintro e w5 ⟨rfl,rfl⟩
    (try go_wp2_with fail)
    refine hK.out _ _ trivial fun _=>?_;clear hK K
    (try simp only[Act.put,zzA,zzB,zzC])
    refine zw39 (by kernel_rfl) ?_ _;have HX:=zh (HW.out.ext HE.out);have f0:=HX.out.op.cell 1;have f1:=HX.out.op.frozen 1;simp only[zzD,zzE,zzF]at f0;have hcv:=fun cc=>HCV.out HM4.out w3 cc HE.out;go_wp2_with fail;refine(must_ok _ _).mono ?_;rintro e w5 ⟨rfl,rfl⟩;have HMV:=zh (HX.out.move 4);have HK:=zh ((Kp.ext HE.out).trans (HX.out.kmove 1 (.int .i64 ((4:Nat):Int))));go_wp2_with fail
    go_end0
    exact⟨rfl,HMV.out,HK.out⟩
  · simp only[if_neg hsum]
    have hbt:((be (xs.drop u):Int)==((Crc.moreW 0#32 (xs.take u)).toNat:Int))=false:=zw12.2 (fun h=>hsum (Int.ofNat_inj.1 h));replace hbt:=zh hbt;clear hsum;have f0:=HW.out.op.cell 0;have f1:=HW.out.fl.cell 0;rw[HW.out.cell]at f1;simp only[zzD,zzE,zzF]at f0;go_enter Tryz.func54,Tryz.ntmps54;go_upto_region 2 with fail;clear f0 f1;have HE:=zh (zxd (zxr w));have HW1:Hid (w.heap.size=w.drew.heap.size):=zh rfl;refine zw38 (S:=fun _=>True) hmxF trivial (fun _=>?_);generalize w.drew=w1 at*
    iterate 6
     refine zqU (v:=?_) trivial rfl ?_ ?_;rotate_left
     · intro w' hSw;go_simp;try with_reducible rfl
     (try simp only[Act.put,zzA,zzB,zzC])
    refine zqO (i:=3) (by kernel_rfl) rfl fun K hK=>?_;go_simp;refine(HOF.out _ HE.out).mono ?_;rintro e w2 ⟨g,A',c',rfl,hg,hS,hE,_⟩;replace HE:=zh (zxt HE.out hE);have HR:=zh hS;have HG:=zh hg;clear hS hE hg
    (try go_wp2_with fail)
    refine hK.out _ _ trivial fun _=>?_;clear hK K
    (try simp only[Act.put,zzA,zzB,zzC])
    refine zqO (i:=4) (by kernel_rfl) rfl fun K hK=>?_;go_simp;refine(Log.fixed_st g 4 c' A' _ _ _ HR.out).mono ?_;rintro e w3 ⟨rfl,_,_,hG⟩;replace HE:=zh (ext_grown HE.out hG (fun q e=>by cases e;have:=HG.out;have:=HW1.out;omega));rw[HFV.out.1];clear hG HR
    (try go_wp2_with fail)
    refine hK.out _ _ trivial fun _=>?_;clear hK K
    (try simp only[Act.put,zzA,zzB,zzC])
    refine zqO (i:=8) (by kernel_rfl) rfl fun K hK=>?_;go_simp;refine(HSM.out _ HE.out).mono ?_;rintro e w4 ⟨rfl,rfl⟩
    (try go_wp2_with fail)
    refine hK.out _ _ trivial fun _=>?_;clear hK K
    (try simp only[Act.put,zzA,zzB,zzC])
    (refine zqU (v:=?_) trivial rfl ?_ ?_);rotate_left
    · intro w' hSw;go_simp;try with_reducible rfl
    (try simp only[Act.put,zzA,zzB,zzC])
    refine zqO (i:=10) (by kernel_rfl) rfl fun K hK=>?_;go_simp;rw[hbt.out];refine(must_bad _ _).mono ?_;rintro e w5 ⟨rfl,rfl⟩
    (try go_wp2_with fail)
    exact⟨rfl,rfl,HE.out⟩
open Log (Hv Ev cH cS cV mayH putL encH RSt nx va pN pI pF thL OwnR_mono' OwnR_keep)
theorem Kp.own {α:Type} {b D:Nat} {w w':World} {e:TypeId} {k:Nat} {f:α→List Value} {v:Value} {xs:List α} (h:Kp b D w w') (hO:OwnR D w e k f v xs):OwnR D w' e k f v xs:=
  OwnR_keep hO (fun g h1 h2=>h.block g h2 (.inr h1))
section
variable {b D : Nat} {o : Ob5} {xs : List Nat} {w : World} {at_ : Nat} {bv : Value} {x0 : Hv} {sv0 lv : Value} {N K : Int} {t : Tv} {ta te : Int} {pv : Value} {ia : Int}
theorem OW.header (h : OW b D o xs w (cFl bv x0 sv0 lv N K t ta te pv ia) at_) (x : Hv) (sv : Value) :
    ∃w',w'=((((((w.setCell ⟨o.F,1,none⟩ (.int .i64 x.w)).setCell ⟨o.F,2,none⟩ (.int .i64 x.h)).setCell ⟨o.F,3,none⟩ (.int .i64 x.players)).setCell ⟨o.F,4,none⟩ (.int .u32 (x.seed:Int))).setCell ⟨o.F,5,none⟩ (.string x.tiles)).setCell ⟨o.F,6,none⟩ sv)∧OW b D o xs w' (cFl bv x sv lv N K t ta te pv ia) at_∧Kp b D w w':=by
  have h1:=h.file 1 (by decide) (.int .i64 x.w) rfl;have h2:=h1.file 2 (by decide) (.int .i64 x.h) rfl;have h3:=h2.file 3 (by decide) (.int .i64 x.players) rfl;have h4:=h3.file 4 (by decide) (.int .u32 (x.seed:Int)) rfl;have h5:=h4.file 5 (by decide) (.string x.tiles) rfl;have h6:=h5.file 6 (by decide) sv rfl;exact⟨_,rfl,h6,(((((h.kfile 1 _).trans (h1.kfile 2 _)).trans (h2.kfile 3 _)).trans (h3.kfile 4 _)).trans (h4.kfile 5 _)).trans (h5.kfile 6 _)⟩
theorem OW.track (h : OW b D o xs w (cFl bv x0 sv0 lv N K t ta te pv ia) at_) (t' : Tv) :
    ∃w',w'=(((((w.setCell ⟨o.F,10,none⟩ (.slice t'.s0.A t'.s0.n t'.s0.c)).setCell ⟨o.F,11,none⟩ (.slice t'.s1.A t'.s1.n t'.s1.c)).setCell ⟨o.F,12,none⟩ (.slice t'.s2.A t'.s2.n t'.s2.c)).setCell ⟨o.F,13,none⟩ (.slice t'.s3.A t'.s3.n t'.s3.c)).setCell ⟨o.F,14,none⟩ (.slice t'.sm.A t'.sm.n t'.sm.c))∧OW b D o xs w' (cFl bv x0 sv0 lv N K t' ta te pv ia) at_∧Kp b D w w':=by
  have h1:=h.file 10 (by decide) (.slice t'.s0.A t'.s0.n t'.s0.c) rfl;have h2:=h1.file 11 (by decide) (.slice t'.s1.A t'.s1.n t'.s1.c) rfl;have h3:=h2.file 12 (by decide) (.slice t'.s2.A t'.s2.n t'.s2.c) rfl;have h4:=h3.file 13 (by decide) (.slice t'.s3.A t'.s3.n t'.s3.c) rfl;have h5:=h4.file 14 (by decide) (.slice t'.sm.A t'.sm.n t'.sm.c) rfl;exact⟨_,rfl,h5,((((h.kfile 10 _).trans (h1.kfile 11 _)).trans (h2.kfile 12 _)).trans (h3.kfile 13 _)).trans (h4.kfile 14 _)⟩
end
theorem foot_ok (b D : Nat) (o : Ob5) (xs : List Nat) (cs : Array Value) (at_ ia : Nat) (w : World) (h : OW b D o xs w cs at_) (hat : at_ + 8 = o.n) (hcs : cs[19]? = some (.int .i64 (ia : Int))) (hi : ia < 4294967296) (hf : (xs.drop at_).take 4 = fx ia) :
    Calls Tryz.prog 71 #[.pointer (some ⟨o.O,0,none⟩)] w (Stp b D o xs cs at_ w):=by
  have HW:=zh h;have hxl:xs.length=o.n:=h.bytes.1;have HCS:=zh hcs;obtain⟨O,F,bo,bf,be_,q,n,c⟩:=o;simp only at hxl hat ⊢;have HNC:=zh h.nc;have HOF:=zh (fun(w':World) (e:Ext w w')=>Log.of_st (some ⟨q,at_,none⟩) 8 (c-at_) (xs.drop at_) w' (by have:=bs_drop (h.bytes.ext e) at_ 8 (by simp only;omega);rwa [Nat.zero_add]at this) (fun h=>by cases h) (by omega));have HFV:Hid (va pF 0 (some (xs.drop at_))=ia):=zh (by
    rw[fixed_any (by rw[zw1];omega),hf,be_fx hi])
  obtain⟨hc1,hc2,hc3,hc4⟩:=HNC.out;simp only at hc1 hc2 hc3 hc4;have hn8:(n:Int)-8=(at_:Int):=by omega
  have hwu:wrap64 (at_:Int)=(at_:Int):=IntWalk.wrap64_in _ (by omega);have hwi:wrap64 (ia:Int)=(ia:Int):=IntWalk.wrap64_in _ (by omega);have hwi2:IntKind.i64.wrap (ia:Int)=(ia:Int):=IntWalk.i64_in _ (by omega);have hcu:¬c=at_:=by omega
  have hnu:n-at_=8:=by omega
  have y1:(0:Int)≤(at_:Int):=by omega
  have y2:(at_:Int)≤(n:Int):=by omega
  clear h hf hxl hcs hc1 hc2 hc3 hc4 hat hi;have f0:=HW.out.op.cell 0;have f2:=HW.out.op.cell 1;have f1:=HW.out.fl.cell 0;rw[HW.out.cell]at f1;simp only[zzD,zzE,zzF]at f0 f2;go_enter Tryz.func71,Tryz.ntmps71;go_wp2_with fail;refine(must_ok _ _).mono ?_;rintro e w0 ⟨rfl,rfl⟩;clear f0 f1 f2 hn8;have HX:=zh (HW.out.ext (zxd (zxr w)));have HE:=zh (zxd (zxr w));have HW1:Hid (w.heap.size=w.drew.heap.size):=zh rfl;have HS:=zh (And.intro (HX.out.op.cell 0) (And.intro (HX.out.op.cell 1) ((HX.out.fl.cell 19).trans HCS.out)));simp only[zzD,zzE,zzF]at HS;go_upto_region 2 with fail;refine zw38 (S:=fun W=>W.cell? ⟨O,0,none⟩=some (.pointer (some ⟨F,0,none⟩))∧W.cell? ⟨O,1,none⟩=some (.int .i64 (at_:Int))∧W.cell? ⟨F,19,none⟩=some (.int .i64 (ia:Int))) hmxF HS.out (fun _=>?_);generalize w.drew=w1 at*
  iterate 13
   refine zqT (v:=?_) HS.out rfl ?_ ?_;rotate_left
   · intro w' hSw;obtain⟨s0,s1,s2⟩:=hSw;go_simp;try with_reducible rfl
   (try simp only[Act.put,zzA,zzB,zzC])
  refine zqO (i:=6) (by kernel_rfl) rfl fun K hK=>?_;go_simp;refine(HOF.out _ HE.out).mono ?_;rintro e w2 ⟨g,A',c',rfl,hg,hS,hE,_⟩;replace HE:=zh (zxt HE.out hE);replace HX:=zh (HX.out.ext hE);have HR:=zh hS;have HG:Hid (w.heap.size≤g):=zh (by have:=HW1.out;omega);clear hS hE hg;have HS:=zh (And.intro (HX.out.op.cell 0) (And.intro (HX.out.op.cell 1) ((HX.out.fl.cell 19).trans HCS.out)));simp only[zzD,zzE,zzF]at HS
  (try go_wp2_with fail)
  refine hK.out _ _ HS.out fun _=>?_;clear hK K
  (try simp only[Act.put,zzA,zzB,zzC])
  refine zqO (i:=7) (by kernel_rfl) rfl fun K hK=>?_;go_simp;refine(Log.fixed_st g 8 c' A' _ _ _ HR.out).mono ?_;rintro e w3 ⟨rfl,_,_,hG⟩;have hE2:Ext w w3:=ext_grown HE.out hG (fun q e=>by cases e;exact HG.out);replace HE:=zh hE2;replace HX:=zh (HW.out.ext hE2);rw[HFV.out];clear hG HR hE2;have HS:=zh (And.intro (HX.out.op.cell 0) (And.intro (HX.out.op.cell 1) ((HX.out.fl.cell 19).trans HCS.out)));simp only[zzD,zzE,zzF]at HS
  (try go_wp2_with fail)
  refine hK.out _ _ HS.out fun _=>?_;clear hK K
  (try simp only[Act.put,zzA,zzB,zzC])
  iterate 2
   refine zqT (v:=?_) HS.out rfl ?_ ?_;rotate_left
   · intro w' hSw;obtain⟨s0,s1,s2⟩:=hSw;go_simp;try with_reducible rfl
   (try simp only[Act.put,zzA,zzB,zzC])
  refine zqO (i:=17) (by kernel_rfl) rfl fun K hK=>?_;go_simp;refine(must_ok _ _).mono ?_;rintro e w5 ⟨rfl,rfl⟩
  (try go_wp2_with fail)
  refine hK.out _ _ HS.out fun _=>?_;clear hK K
  (try simp only[Act.put,zzA,zzB,zzC])
  refine zw39 (by kernel_rfl) ?_ _;go_wp2_with fail
  go_end0
  exact⟨rfl,HX.out,Kp.ext HE.out⟩
theorem s1_ok (b D : Nat) (o : Ob5) (xs : List Nat) (at_ : Nat) (x0 : Hv) (sv0 lv : Value) (N K : Int) (t : Tv) (ta te : Int) (pv : Value) (ia : Int) (zs : List Nat) (next : Nat) (x : Hv) (w : World)
    (h:OW b D o xs w (cFl (.slice (some ⟨o.q,0,none⟩) o.n o.c) x0 sv0 lv N K t ta te pv ia) at_) (ht:Chk.takeAt xs (at_:Int) 2097152= .ok 1 zs next) (hz:0<zs.length) (hzl:zs.length≤1000000) (hx:thL zs=some x):
    Calls Tryz.prog 55 #[.pointer (some ⟨o.bo,0,none⟩),.pointer (some ⟨o.bf,0,none⟩),.pointer (some ⟨o.be,0,none⟩)] w fun e w'=>∃sv,Stp b D o xs (cFl (.slice (some ⟨o.q,0,none⟩) o.n o.c) x sv lv N K t ta te pv ia) next w e w'∧OwnR D w' 110 3 cS sv x.starts:=by
  have HW:=zh h;have HTK:=zh (fun(w':World) (e:Ext w w')=>take_ok b D o xs _ at_ 1 zs next w' (h.ext e) ht hz);have HTH:=zh (fun(w':World) (g' o' c':Nat) (hB:Bs w' (some ⟨g',o',none⟩) zs.length zs)=>Log.takeHeader_st (some ⟨g',o',none⟩) zs.length c' zs w' hB (fun h=>by cases h) hzl);obtain⟨xw,xh,xp,xs5,xt,us⟩:=x;unfold Log.ThPost at HTH;simp only[hx,cH]at HTH;obtain⟨O,F,bo,bf,be_,q,n,c⟩:=o;simp only at HTK ⊢;obtain⟨nz,hnz⟩:∃q,zs.length=q:=⟨_,rfl⟩;rw[hnz]at HTK HTH;clear h ht hz hzl hx hnz;go_enter Tryz.func55,Tryz.ntmps55;go_upto_region 0 with fail;have HX:=zh (HW.out.ext (zxd (zxr w)));have HE:=zh (zxd (zxr w));have HS:=zh (And.intro (HX.out.bo.cell 0) (HX.out.bf.cell 0));simp only[zzD,zzE,zzF]at HS;refine zw38 (S:=fun W=>W.cell? ⟨bo,0,none⟩=some (.pointer (some ⟨O,0,none⟩))∧W.cell? ⟨bf,0,none⟩=some (.pointer (some ⟨F,0,none⟩))) hmxF HS.out (fun _=>?_);generalize w.drew=w1 at*
  iterate 2
   refine zqT (v:=?_) HS.out rfl ?_ ?_;rotate_left
   · intro w' hSw;obtain⟨s0,s1⟩:=hSw;go_simp;try with_reducible rfl
   (try simp only[Act.put,zzA,zzB,zzC])
  refine zqO (i:=2) (by kernel_rfl) rfl fun K hK=>?_;go_simp;refine(HTK.out _ HE.out).mono ?_;rintro e w2 ⟨g',o',c',rfl,hB,hD,hX,hK⟩;have HX:=zh hX;have HK:=zh ((Kp.ext HE.out).trans hK);have HB:=zh hB;have HD:=zh hD;clear hB hD hX hK;have HS:=zh (And.intro (HX.out.bo.cell 0) (HX.out.bf.cell 0));simp only[zzD,zzE,zzF]at HS
  (try go_wp2_with fail)
  refine hK.out _ _ HS.out fun _=>?_;clear hK K
  (try simp only[Act.put,zzA,zzB,zzC])
  refine zqO (i:=3) (by kernel_rfl) rfl fun K hK=>?_;go_simp;refine(HTH.out _ g' o' c' HB.out).mono ?_;rintro e w3 ⟨hE,sv,rfl,hO⟩;have hd:=HX.out.high.2.2.2.2.2.2;replace HX:=zh (HX.out.ext hE);replace HK:=zh (HK.out.trans (Kp.ext hE));obtain⟨As,ns,cs5,hsv⟩:∃As ns cs5,sv= .slice As ns cs5:=by obtain⟨a1,a2,e,_⟩:=hO.shape;exact⟨a1,_,a2,e⟩
  subst hsv;have HO:=zh (OwnR_mono' hO hd);clear hO hE hd;have HS:=zh (And.intro (HX.out.bo.cell 0) (HX.out.bf.cell 0));simp only[zzD,zzE,zzF]at HS
  (try go_wp2_with fail)
  refine hK.out _ _ HS.out fun _=>?_;clear hK K
  (try simp only[Act.put,zzA,zzB,zzC])
  iterate 6
   refine zqT (v:=?_) HS.out rfl ?_ ?_;rotate_left
   · intro w' hSw;obtain⟨s0,s1⟩:=hSw;go_simp;try with_reducible rfl
   (try simp only[Act.put,zzA,zzB,zzC])
  refine zqO (i:=10) (by kernel_rfl) rfl fun K hK=>?_;obtain⟨w4,hw4,hh1,hh2⟩:=HX.out.header ⟨xw,xh,xp,xs5,xt,us⟩ (.slice As ns cs5);have HH:=zh (And.intro hh1 hh2);clear hh1 hh2;simp only at hw4;replace hw4:=zh hw4;have z1:=HX.out.fl.frozen 1;have z2:=HX.out.fl.frozen 2;have z3:=HX.out.fl.frozen 3;have z4:=HX.out.fl.frozen 4;have z5:=HX.out.fl.frozen 5;have z6:=HX.out.fl.frozen 6;have c1:=HX.out.fl.cell 1;have c2:=HX.out.fl.cell 2;have c3:=HX.out.fl.cell 3;have c4:=HX.out.fl.cell 4;have c5:=HX.out.fl.cell 5;have c6:=HX.out.fl.cell 6;simp only[cFl,zzD,zzE,zzF]at c1 c2 c3 c4 c5 c6;go_simp;rw[←hw4.out];clear hw4;replace HX:=zh HH.out.1;replace HO:=zh (HH.out.2.own HO.out);replace HK:=zh (HK.out.trans HH.out.2);clear z1 c1 z2 c2 z3 c3 z4 c4 z5 c5 z6 c6 HH;have HS:=zh (And.intro (HX.out.bo.cell 0) (HX.out.bf.cell 0));simp only[zzD,zzE,zzF]at HS;refine hK.out _ _ HS.out fun _=>?_;clear hK K
  (try simp only[Act.put,zzA,zzB,zzC])
  refine zqO (i:=11) (by kernel_rfl) rfl fun K hK=>?_;obtain⟨ev,hbe⟩:=HX.out.be;have b0:=hbe.cell 0;have b1:=hbe.frozen 0;simp only[zzD,zzE,zzF]at b0;have HR:=zh (HX.out.err 0);have HKE:=zh (HX.out.kerr 0 (.int .i64 0));go_simp;replace HX:=zh HR.out.1;have HBE:=zh HR.out.2;replace HO:=zh (HKE.out.own HO.out);replace HK:=zh (HK.out.trans HKE.out);clear b0 b1 hbe HR HKE;have HS:=zh (And.intro (HX.out.bo.cell 0) (HX.out.bf.cell 0));simp only[zzD,zzE,zzF]at HS;refine hK.out _ _ HS.out fun _=>?_;clear hK K
  (try simp only[Act.put,zzA,zzB,zzC])
  refine zw39 (by kernel_rfl) ?_ _;have b0:=HBE.out.cell 0;simp only[zzD,zzE,zzF]at b0;go_wp2_with fail;refine(must_ok _ _).mono ?_;rintro e w5 ⟨rfl,rfl⟩;go_wp2_with fail
  go_end0
  exact⟨_,⟨rfl,HX.out,HK.out⟩,HO.out⟩
open Log (Ev cV pacedB encV putL eachI)
theorem held_more {P:Program} {ops:Array Oper} {Q:Exit→Act→World→Prop} {md:Region.Mode} {S S':World→Prop} (h:∀W,S' W→S W):∀(fuel:Nat) (listed:Array Bool) (a:Act) (w:World),wpAnyH P md ops Q S' fuel listed a w→wpAnyH P md ops Q S fuel listed a w
 | 0,_,_,_,k=>k
 | fuel+1,_,_,_,k=>⟨k.1,fun i hi=>wpOp_mono (fun a' w' q=>⟨h _ q.1,held_more h fuel _ a' w' q.2⟩) (k.2 i hi)⟩
def folB (t:Int):Nat→List Ev→Bool
 | s,[]=>decide (s<32)
 | s,e::l=> !decide (t<e.tick) && folB t (if e.tick=t then s+1 else s) l
def fols (n:Int) (l:List Ev) (t:Int):Bool:=decide (0≤t∧t<n) && folB t 0 l
def Sofar (l:List Ev) (last:Int) (each:Nat):Prop:=0≤last∧(∀e∈l,e.tick≤last)∧(l.filter (fun e=>decide (e.tick=last))).length=each∧((l=[]∧last=0)∨∃e∈l,e.tick=last)
theorem folB_eq (t:Int):∀(l:List Ev) (s:Nat),folB t s l=decide ((∀e∈l,e.tick≤t)∧s+(l.filter (fun e=>decide (e.tick=t))).length<32)
 | [],s=>by simp[folB]
 | e::l,s=>by
  rw[folB,folB_eq t l];by_cases h1:t<e.tick
  ·rw[zw15 h1,Bool.not_true,zw51,eq_comm,decide_eq_false_iff_not]
   intro h;have:=h.1 e List.mem_cons_self;omega
  ·rw[zw14 h1,Bool.not_false,zw50]
   by_cases h2:e.tick=t
   ·rw[if_pos h2,List.filter_cons_of_pos (by simpa using h2),zw3]
    congr 1
    rw[List.forall_mem_cons];exact propext ⟨fun h=>⟨⟨by omega,h.1⟩,by omega⟩,fun h=>⟨h.1.2,by omega⟩⟩
   ·rw[if_neg h2,List.filter_cons_of_neg (by simpa using h2)]
    congr 1
    rw[List.forall_mem_cons];exact propext ⟨fun h=>⟨⟨by omega,h.1⟩,h.2⟩,fun h=>⟨h.1.2,h.2⟩⟩
theorem fols_paced {l:List Ev} {last n t:Int} {each:Nat} (h:Sofar l last each):fols n l t=decide (last≤t∧t<n∧eachI last each t≤32):=by
 obtain⟨h0,h1,h2,h3⟩:=h;unfold fols;rw[folB_eq,←Bool.decide_and]
 congr 1
 have hl:0≤t→((∀e∈l,e.tick≤t)↔last≤t):=fun ht=>by
  constructor
  ·intro h
   rcases h3 with ⟨_,h3⟩ | ⟨e,he,h3⟩
   ·omega
   ·have:=h e he;omega
  ·intro h e he;have:=h1 e he;omega
 by_cases ht:t=last
 ·subst ht
  have he:eachI t each t=each+1:=by simp[eachI]
  rw[he,h2];exact propext ⟨fun h=>⟨by omega,h.1.2,by omega⟩,fun h=>⟨⟨h0,h.2.1⟩,h1,by omega⟩⟩
 ·have he:eachI last each t=1:=by simp[eachI,ht]
  rw[he];refine propext ⟨fun h=>⟨(hl h.1.1).1 h.2.1,h.1.2,by omega⟩,fun h=>⟨⟨by omega,h.2.1⟩,(hl (by omega)).2 h.1,?_⟩⟩;have:l.filter (fun e=>decide (e.tick=t))=[]:=by
   refine List.filter_eq_nil_iff.2 (fun e he=>?_);have:=h1 e he;simp only[zw49];omega
  rw[this];simp
theorem sofar_nil:Sofar [] 0 0:=⟨by omega,fun e h=>(by cases h),rfl,.inl ⟨rfl,rfl⟩⟩
theorem sofar_snoc {l:List Ev} {last:Int} {each:Nat} {x:Ev} (h:Sofar l last each) (hx:last≤x.tick):Sofar (l++[x]) x.tick (eachI last each x.tick):=by
 obtain⟨h0,h1,h2,h3⟩:=h;refine⟨by omega,fun e he=>?_,?_,.inr ⟨x,by simp,rfl⟩⟩
 ·rcases zw16.1 he with he | he
  ·have:=h1 e he;omega
  ·rw[zw52]at he;rw[he];omega
 ·rw[List.filter_append,zw0,List.filter_cons_of_pos (by simp),List.filter_nil,zw27]
  by_cases ht:x.tick=last
  ·rw[ht,h2];simp[eachI]
  ·have:l.filter (fun e=>decide (e.tick=x.tick))=[]:=by
    refine List.filter_eq_nil_iff.2 (fun e he=>?_);have:=h1 e he;simp only[zw49];omega
   rw[this];simp[eachI,ht]
theorem rfollows (A:Option Addr) (m c:Nat) (l:List Ev) (x:Ev) (n:Int) (w:World) (hB:RowR w A m 7 cV l) (hm:m≤1000000):
  Calls Tryz.prog 108 #[.slice A m c,.agg (cV x).toArray,.int .i64 n] w fun e w'=>e= .returned (.bool (fols n l x.tick))∧Ext w w':=by
 obtain⟨t,x1,x2,x3,x4,x5,x6⟩:=x;simp only[cV];generalize hR:fols n l t=R;replace hR:=zh hR;have HB:=zh hB;have HLEN:=zh hB.1;clear hB;have HE0:=zh (zxa (zxr w) (.cells #[.int .i64 t,.int .u8 (x1:Int),.int .u8 (x2:Int),.int .u16 (x3:Int),.int .u16 (x4:Int),.int .u16 (x5:Int),.int .u8 (x6:Int)] 175));have HH0:=zh (Blk.new w 175 #[.int .i64 t,.int .u8 (x1:Int),.int .u8 (x2:Int),.int .u16 (x3:Int),.int .u16 (x4:Int),.int .u16 (x5:Int),.int .u8 (x6:Int)]);go_enter Tryz.func108,Tryz.ntmps108;go_upto_region 1 with fail;obtain⟨w0,hw0⟩:∃q,q=w.alloc (.cells #[.int .i64 t,.int .u8 (x1:Int),.int .u8 (x2:Int),.int .u16 (x3:Int),.int .u16 (x4:Int),.int .u16 (x5:Int),.int .u8 (x6:Int)] 175):=⟨_,rfl⟩;rw[←hw0]at HE0 HH0 ⊢;clear hw0;generalize w.heap.size=hb at*;have p0:=HH0.out.cell 0;simp only[List.getElem?_toArray,List.getElem?_cons_zero]at p0;by_cases g1:t<0
 ·have HRF:Hid (R=false):=zh (by rw[←hR.out,fols,zw14 (by omega),zw51])
  go_wp2_with fail;go_ret;exact⟨by rw[HRF.out];rfl,HE0.out⟩
 by_cases g2:n≤t
 ·have HRF:Hid (R=false):=zh (by rw[←hR.out,fols,zw14 (by omega),zw51])
  go_wp2_with fail;go_ret;exact⟨by rw[HRF.out];rfl,HE0.out⟩
 have HRR:Hid (R=folB t 0 (l.drop 0)):=zh (by rw[←hR.out,fols,zw15 (show 0≤t∧t<n by omega),zw50,zw28]);go_wp2_with fail;clear p0
 go_loopg [7,8] m (fun gh sv iv wr=>∃(k s:Nat),k+gh=m∧iv= .int .i64 (k:Int)∧sv= .int .i64 (s:Int)∧s≤k∧R=folB t s (l.drop k)∧Ext w0 wr)
 case atStart=>exact⟨0,0,by omega,rfl,rfl,by omega,HRR.out,zxr _⟩
 case round=>
  obtain⟨k,s,hk,rfl,rfl,hs,hRk,hE⟩:=hrel;obtain⟨wi,rfl⟩:∃wi:World,wi=wr:=⟨_,rfl⟩;obtain⟨gh,rfl⟩:∃gh:Nat,gh=gk:=⟨_,rfl⟩;have HE:=zh hE;have HRK:=zh hRk;have y1:(0:Int)≤(k:Int):=by omega
  have p0:=(HH0.out.ext hE).cell 0;simp only[List.getElem?_toArray,List.getElem?_cons_zero]at p0;clear hE hRk HRR;by_cases hlt:k<m
  ·have y2:(k:Int)<(m:Int):=by omega
   have hke:k<l.length:=by rw[HLEN.out];exact hlt
   obtain⟨b,o,rfl,hbw,hc⟩:=HB.out.2 (by omega);have a0:=kc (zxt HE0.out HE.out) (hc k hke 0 (by omega));have hd:l.drop k=l[k]::l.drop (k+1):=zw20 hke;generalize l[k]=u at a0 hd;have HR1:Hid (R=(!decide (t<u.tick) && folB t (if u.tick=t then s+1 else s) (l.drop (k+1)))):=zh (by rw[HRK.out,hd,folB]);obtain⟨q,q1,q2,q3,q4,q5,q6⟩:=u;simp only[cV,Nat.add_zero,List.getElem?_cons_zero]at a0 HR1;clear hc hd hke;by_cases h1:t<q
   ·have HRF:Hid (R=false):=zh (by rw[HR1.out,zw15 h1,Bool.not_true,zw51])
    go_wp2_with fail
    (refine wp_still (by kernel_rfl) (by kernel_rfl) ?_;repeat still_step);refine wpStill_nil ?_;go_wp2_with fail;go_ret;exact⟨by rw[HRF.out];rfl,zxt HE0.out (zxd HE.out)⟩
   ·replace HR1:Hid (R=folB t (if q=t then s+1 else s) (l.drop (k+1))):=zh (by rw[HR1.out,zw14 h1,Bool.not_false,zw50])
    go_wp2_with fail
    (refine wp_still (by kernel_rfl) (by kernel_rfl) ?_;repeat still_step);refine wpStill_nil ?_;by_cases h2:q=t
    ·have HR2:Hid (R=folB t (s+1) (l.drop (k+1))):=zh (by rw[HR1.out,if_pos h2])
     have h2':(q==t)=true:=beq_iff_eq.2 h2;go_wp2_with fail
     (refine wp_still (by kernel_rfl) (by kernel_rfl) ?_;repeat still_step);refine wpStill_nil ?_;go_wp2_with fail
     go_roundg (gh-1)
     case measure=>omega
     case rel=>exact⟨k+1,s+1,by omega,by go_num,by go_num,by omega,HR2.out,zxd (zxd HE.out)⟩
    ·have HR2:Hid (R=folB t s (l.drop (k+1))):=zh (by rw[HR1.out,if_neg h2])
     have h2':(q==t)=false:=zw12.2 h2;go_wp2_with fail
     (refine wp_still (by kernel_rfl) (by kernel_rfl) ?_;repeat still_step);refine wpStill_nil ?_;go_wp2_with fail
     go_roundg (gh-1)
     case measure=>omega
     case rel=>exact⟨k+1,s,by omega,by go_num,rfl,by omega,HR2.out,zxd (zxd HE.out)⟩
  ·obtain rfl:gh=0:=by omega
   have y2:¬(k:Int)<(m:Int):=by omega
   by_cases h3:s<32
   ·have h3':(s:Int)<32:=by omega
    have HRF:Hid (R=true):=zh (by rw[HRK.out,zw21 (by rw[HLEN.out];omega),folB];exact zw15 h3);go_wp2_with fail;go_ret;exact⟨by rw[HRF.out];rfl,zxt HE0.out HE.out⟩
   ·have h3':¬(s:Int)<32:=by omega
    have HRF:Hid (R=false):=zh (by rw[HRK.out,zw21 (by rw[HLEN.out];omega),folB];exact zw14 h3);go_wp2_with fail;go_ret;exact⟨by rw[HRF.out];rfl,zxt HE0.out HE.out⟩
end Go.Proofs.YtbopblbhjcemaaaGreatDoor.Fil
