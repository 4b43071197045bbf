/- Contracts of package file: the steps that read the span, the log, the track. -/
import Derived.Test.YtbopblbhjcemaaaGreatDoorF23
set_option maxHeartbeats 16000000
set_option maxRecDepth 100000
set_option linter.all false
open Go.ChangeShapes Go.WideShapes Go.ChangeAt Go.RowKit
namespace Go.Proofs.YtbopblbhjcemaaaGreatDoor.Fil
open Wire
open Rec
open Trk (Sl Tv Tk TkV mayT encT takeT NewT TuPost)
open Log (Hv Ev En cH cS cV mayH putL encH RSt nx va pN pI pF thL takeL OwnR_mono' OwnR_keep)
section
variable {b D : Nat} {o : Ob5} {xs : List Nat} {w : World} {at_ : Nat} {bv : Value} {x0 : Hv} {sv0 lv : Value} {N K : Int} {t : Tv} {ta te : Int} {pv : Value} {ia : Int}
theorem OW.setN (h:OW b D o xs w (cFl bv x0 sv0 lv N K t ta te pv ia) at_) (n:Int):∃w',w'=w.setCell ⟨o.F,8,none⟩ (.int .i64 n)∧OW b D o xs w' (cFl bv x0 sv0 lv n K t ta te pv ia) at_∧Kp b D w w':=⟨_,rfl,h.file 8 (by decide) _ rfl,h.kfile 8 _⟩
theorem OW.setK (h:OW b D o xs w (cFl bv x0 sv0 lv N K t ta te pv ia) at_) (n:Int):∃w',w'=w.setCell ⟨o.F,9,none⟩ (.int .i64 n)∧OW b D o xs w' (cFl bv x0 sv0 lv N n t ta te pv ia) at_∧Kp b D w w':=⟨_,rfl,h.file 9 (by decide) _ rfl,h.kfile 9 _⟩
theorem OW.setL (h:OW b D o xs w (cFl bv x0 sv0 lv N K t ta te pv ia) at_) (v:Value):∃w',w'=w.setCell ⟨o.F,7,none⟩ v∧OW b D o xs w' (cFl bv x0 sv0 v N K t ta te pv ia) at_∧Kp b D w w':=⟨_,rfl,h.file 7 (by decide) _ rfl,h.kfile 7 _⟩
theorem OW.setA (h:OW b D o xs w (cFl bv x0 sv0 lv N K t ta te pv ia) at_) (n:Int):∃w',w'=w.setCell ⟨o.F,16,none⟩ (.int .i64 n)∧OW b D o xs w' (cFl bv x0 sv0 lv N K t n te pv ia) at_∧Kp b D w w':=⟨_,rfl,h.file 16 (by decide) _ rfl,h.kfile 16 _⟩
theorem OW.setE (h:OW b D o xs w (cFl bv x0 sv0 lv N K t ta te pv ia) at_) (n:Int):∃w',w'=w.setCell ⟨o.F,17,none⟩ (.int .i64 n)∧OW b D o xs w' (cFl bv x0 sv0 lv N K t ta n pv ia) at_∧Kp b D w w':=⟨_,rfl,h.file 17 (by decide) _ rfl,h.kfile 17 _⟩
theorem OW.setP (h:OW b D o xs w (cFl bv x0 sv0 lv N K t ta te pv ia) at_) (v:Value):∃w',w'=w.setCell ⟨o.F,18,none⟩ v∧OW b D o xs w' (cFl bv x0 sv0 lv N K t ta te v ia) at_∧Kp b D w w':=⟨_,rfl,h.file 18 (by decide) _ rfl,h.kfile 18 _⟩
theorem OW.setI (h:OW b D o xs w (cFl bv x0 sv0 lv N K t ta te pv ia) at_) (n:Int):∃w',w'=w.setCell ⟨o.F,19,none⟩ (.int .i64 n)∧OW b D o xs w' (cFl bv x0 sv0 lv N K t ta te pv n) at_∧Kp b D w w':=⟨_,rfl,h.file 19 (by decide) _ rfl,h.kfile 19 _⟩
theorem OW.err' (h:OW b D o xs w (cFl bv x0 sv0 lv N K t ta te pv ia) at_):∃w',w'=w.setCell ⟨o.be,0,none⟩ (.int .i64 0)∧(OW b D o xs w' (cFl bv x0 sv0 lv N K t ta te pv ia) at_∧Blk w' o.be 23 #[.int .i64 0])∧Kp b D w w':=⟨_,rfl,h.err 0,h.kerr 0 _⟩
end
theorem s2_ok (b D : Nat) (o : Ob5) (xs : List Nat) (at_ : Nat) (x0 : Hv) (sv0 lv : Value) (N0 K0 : Int) (t : Tv) (ta te : Int) (pv : Value) (ia : Int) (n k : Nat) (next : Nat) (w : World)
    (h:OW b D o xs w (cFl (.slice (some ⟨o.q,0,none⟩) o.n o.c) x0 sv0 lv N0 K0 t ta te pv ia) at_) (ht:Chk.takeAt xs (at_:Int) 2097152= .ok 2 (vb n++vb k) next) (hn:n≤4096) (hk:1≤k∧k≤256):
    Calls Tryz.prog 58 #[.pointer (some ⟨o.bo,0,none⟩),.pointer (some ⟨o.bf,0,none⟩)] w (Stp b D o xs (cFl (.slice (some ⟨o.q,0,none⟩) o.n o.c) x0 sv0 lv n k t ta te pv ia) next w):=by
  have hzl:(vb n++vb k).length≤20∧0<(vb n++vb k).length:=by
    rw[zw0];have:=vb_ten (n:=n) (by omega);have:=vb_ten (n:=k) (by omega);have:=vb_pos n;omega
  have HW:=zh h;have HTK:=zh (take_ok b D o xs _ at_ 2 (vb n++vb k) next w h ht hzl.2);have HOF:=zh (fun(w':World) (g' o' c':Nat) (hB:Bs w' (some ⟨g',o',none⟩) (vb n++vb k).length (vb n++vb k))=>Log.of_st (some ⟨g',o',none⟩) (vb n++vb k).length c' (vb n++vb k) w' hB (fun h=>by cases h) (by omega));have HV1:Hid (va pI 0 (some (vb n++vb k))=n∧nx pI (some (vb n++vb k))=some (vb k)):=zh (by
    have:=Log.pI_put (m:=n) (by omega) (vb k);simp[va,nx,this])
  have HV2:Hid (va pI 0 (some (vb k))=k∧nx pI (some (vb k))=some []):=zh (by
    have:=Log.pI_put (m:=k) (by omega) [];rw[zw18]at this;simp[va,nx,this])
  obtain⟨O,F,bo,bf,be_,q,n0,c0⟩:=o;simp only at HTK ⊢;obtain⟨nz,hnz⟩:∃q,(vb n++vb k).length=q:=⟨_,rfl⟩;rw[hnz]at HTK HOF;have HNZ:Hid (nz≤20):=zh (by omega);have f0:=HW.out.bo.cell 0;simp only[zzD,zzE,zzF]at f0;have y1:(n:Int)≤4096:=by omega
  have y2:(1:Int)≤(k:Int):=by omega
  have y3:(k:Int)≤256:=by omega
  clear h ht hzl hnz;generalize vb n++vb k=zz at*;go_enter Tryz.func58,Tryz.ntmps58;go_wp2_with fail;refine(HTK.out).mono ?_;rintro e w1 ⟨g',o',c',rfl,hB,hD,hX,hK⟩;have HX:=zh hX;have HK:=zh hK;have HB:=zh hB;clear hB hD hX hK HTK f0 HW;go_wp2_with fail;refine(HOF.out _ g' o' c' HB.out).mono ?_;rintro e w2 ⟨g,A',c1,rfl,hg,hS,hE,_⟩;have HE:=zh hE;have HR:=zh hS;have HG:=zh hg;clear hE hS hg HOF HB;go_wp2_with fail;refine(Log.int_st g nz c1 A' _ _ _ HR.out).mono ?_;rintro e w3 ⟨rfl,_,hS,hG⟩;rw[HV1.out.2]at hS;rw[HV1.out.1];replace HE:=zh (ext_grown HE.out hG (fun q e=>by cases e;exact HG.out));replace HR:=zh hS;clear hS hG;go_wp2_with fail;refine(Log.int_st g nz c1 A' _ _ _ HR.out).mono ?_;rintro e w4 ⟨rfl,_,hS,hG⟩;rw[HV2.out.2]at hS;rw[HV2.out.1];replace HE:=zh (ext_grown HE.out hG (fun q e=>by cases e;exact HG.out));replace HR:=zh hS;clear hS hG;go_wp2_with fail;refine(Log.end_st g nz c1 A' _ _ _ HR.out).mono ?_;rintro e w5 ⟨x5,rfl,hx5,hE5⟩;obtain rfl:=hx5.2 rfl;replace HE:=zh (zxt HE.out hE5);replace HR:=zh (HR.out.ext hE5);clear hx5 hE5;go_wp2_with fail;refine(Log.end_st g nz c1 A' _ _ _ HR.out).mono ?_;rintro e w6 ⟨x6,rfl,hx6,hE6⟩;obtain rfl:=hx6.2 rfl;replace HE:=zh (zxt HE.out hE6);clear hx6 hE6 HR;go_wp2_with fail;refine(must_ok _ _).mono ?_;rintro e w7 ⟨rfl,rfl⟩;go_wp2_with fail;refine(must_ok _ _).mono ?_;rintro e w7 ⟨rfl,rfl⟩;replace HX:=zh (HX.out.ext (zxd HE.out));replace HK:=zh (HK.out.trans (Kp.ext (zxd HE.out)));clear HE HG;go_upto_region 4 with fail;have HS:=zh (HX.out.bf.cell 0)
  simp only[zzD,zzE,zzF]at HS;refine zw38 (S:=fun W=>W.cell? ⟨bf,0,none⟩=some (.pointer (some ⟨F,0,none⟩))) hmxF HS.out (fun _=>?_);generalize w6.drew=wd at*
  iterate 7
   refine zqT (v:=?_) HS.out rfl ?_ ?_;rotate_left
   · intro w' hSw;have s0:=hSw;go_simp;try with_reducible rfl
   (try simp only[Act.put,zzA,zzB,zzC])
  refine zqO (i:=7) (by kernel_rfl) rfl fun K hK=>?_;obtain⟨w9,hw9,hh1,hh2⟩:=HX.out.setN (n:Int);have HH:=zh (And.intro hh1 hh2);clear hh1 hh2
  try simp only at hw9
  replace hw9:=zh hw9;have z8:=HX.out.fl.frozen 8;have c8:=HX.out.fl.cell 8;simp only[cFl,zzD,zzE,zzF]at c8;go_simp;rw[←hw9.out];clear hw9;replace HX:=zh HH.out.1;replace HK:=zh (HK.out.trans HH.out.2);clear z8 c8 HH;have HS:=zh (HX.out.bf.cell 0);simp only[zzD,zzE,zzF]at HS;skip;refine hK.out _ _ HS.out fun _=>?_;clear hK K
  (try simp only[Act.put,zzA,zzB,zzC])
  iterate 3
   refine zqT (v:=?_) HS.out rfl ?_ ?_;rotate_left
   · intro w' hSw;have s0:=hSw;go_simp;try with_reducible rfl
   (try simp only[Act.put,zzA,zzB,zzC])
  refine zqO (i:=11) (by kernel_rfl) rfl fun K hK=>?_;obtain⟨w9,hw9,hh1,hh2⟩:=HX.out.setK (k:Int);have HH:=zh (And.intro hh1 hh2);clear hh1 hh2
  try simp only at hw9
  replace hw9:=zh hw9;have z9:=HX.out.fl.frozen 9;have c9:=HX.out.fl.cell 9;simp only[cFl,zzD,zzE,zzF]at c9;go_simp;rw[←hw9.out];clear hw9;replace HX:=zh HH.out.1;replace HK:=zh (HK.out.trans HH.out.2);clear z9 c9 HH;have HS:=zh (HX.out.bf.cell 0);simp only[zzD,zzE,zzF]at HS;skip;refine hK.out _ _ HS.out fun _=>?_;clear hK K
  (try simp only[Act.put,zzA,zzB,zzC])
  refine zw39 (by kernel_rfl) ?_ _;go_wp2_with fail
  go_end0
  exact⟨rfl,HX.out,HK.out⟩
theorem s3_ok (b D : Nat) (o : Ob5) (xs : List Nat) (at_ : Nat) (x0 : Hv) (sv0 lv : Value) (N K : Int) (t : Tv) (ta te : Int) (pv : Value) (ia : Int) (zs : List Nat) (next : Nat) (es : List En) (w : World)
    (h:OW b D o xs w (cFl (.slice (some ⟨o.q,0,none⟩) o.n o.c) x0 sv0 lv N K t ta te pv ia) at_) (ht:Chk.takeAt xs (at_:Int) 2097152= .ok 3 zs next) (hz:0<zs.length) (hzl:zs.length≤1000000) (hx:takeL N zs=some es):
    Calls Tryz.prog 62 #[.pointer (some ⟨o.bo,0,none⟩),.pointer (some ⟨o.bf,0,none⟩),.pointer (some ⟨o.be,0,none⟩)] w fun e w'=>∃v,Stp b D o xs (cFl (.slice (some ⟨o.q,0,none⟩) o.n o.c) x0 sv0 v N K t ta te pv ia) next w e w'∧OwnR D w' 116 7 cV v (es.map En.ev):=by
  have HW:=zh h;have HTK:=zh (fun(w':World) (e:Ext w w')=>take_ok b D o xs _ at_ 3 zs next w' (h.ext e) ht hz);have HTH:=zh (fun(w':World) (g' o' c':Nat) (hB:Bs w' (some ⟨g',o',none⟩) zs.length zs)=>Log.take_st (some ⟨g',o',none⟩) zs.length c' zs N w' hB (fun h=>by cases h) hzl);unfold Log.TkPost at HTH;simp only[hx]at HTH;generalize es.map En.ev=evs at*;obtain⟨O,F,bo,bf,be_,q,n,c⟩:=o;simp only at HTK ⊢;obtain⟨nz,hnz⟩:∃q,zs.length=q:=⟨_,rfl⟩;rw[hnz]at HTK HTH;clear h ht hz hzl hx hnz;go_enter Tryz.func62,Tryz.ntmps62;go_upto_region 0 with fail;have HX:=zh (HW.out.ext (zxd (zxr w)));have HE:=zh (zxd (zxr w));have HS:=zh (And.intro (HX.out.bo.cell 0) (And.intro (HX.out.bf.cell 0) (HX.out.fl.cell 8)));simp only[cFl,zzD,zzE,zzF]at HS;refine zw38 (S:=fun W=>W.cell? ⟨bo,0,none⟩=some (.pointer (some ⟨O,0,none⟩))∧W.cell? ⟨bf,0,none⟩=some (.pointer (some ⟨F,0,none⟩))∧W.cell? ⟨F,8,none⟩=some (.int .i64 N)) hmxF HS.out (fun _=>?_);generalize w.drew=w1 at*
  iterate 7
   refine zqT (v:=?_) HS.out rfl ?_ ?_;rotate_left
   · intro w' hSw;obtain⟨s0,s1,s2⟩:=hSw;go_simp;try with_reducible rfl
   (try simp only[Act.put,zzA,zzB,zzC])
  refine zqO (i:=2) (by kernel_rfl) rfl fun K hK=>?_;go_simp;refine(HTK.out _ HE.out).mono ?_;rintro e w2 ⟨g',o',c',rfl,hB,hD,hX,hK⟩;have HX:=zh hX;have HK:=zh ((Kp.ext HE.out).trans hK);have HB:=zh hB;clear hB hD hX hK;have HS:=zh (And.intro (HX.out.bo.cell 0) (And.intro (HX.out.bf.cell 0) (HX.out.fl.cell 8)));simp only[cFl,zzD,zzE,zzF]at HS
  (try go_wp2_with fail)
  refine hK.out _ _ HS.out fun _=>?_;clear hK K
  (try simp only[Act.put,zzA,zzB,zzC])
  refine zqO (i:=8) (by kernel_rfl) rfl fun K hK=>?_;go_simp;refine(HTH.out _ g' o' c' HB.out).mono ?_;rintro e w3 ⟨hE,sv,rfl,hO⟩;have hd:=HX.out.high.2.2.2.2.2.2;replace HX:=zh (HX.out.ext hE);replace HK:=zh (HK.out.trans (Kp.ext hE));obtain⟨As,ns,cs5,hsv⟩:∃As ns cs5,sv= .slice As ns cs5:=by obtain⟨a1,a2,e,_⟩:=hO.shape;exact⟨a1,_,a2,e⟩
  subst hsv;have HO:=zh (OwnR_mono' hO hd);clear hO hE hd;have HS:=zh (And.intro (HX.out.bo.cell 0) (And.intro (HX.out.bf.cell 0) (HX.out.fl.cell 8)));simp only[cFl,zzD,zzE,zzF]at HS
  (try go_wp2_with fail)
  refine hK.out _ _ HS.out fun _=>?_;clear hK K
  (try simp only[Act.put,zzA,zzB,zzC])
  iterate 6
   refine zqT (v:=?_) HS.out rfl ?_ ?_;rotate_left
   · intro w' hSw;obtain⟨s0,s1,s2⟩:=hSw;go_simp;try with_reducible rfl
   (try simp only[Act.put,zzA,zzB,zzC])
  refine zqO (i:=15) (by kernel_rfl) rfl fun K hK=>?_;obtain⟨w9,hw9,hh1,hh2⟩:=HX.out.setL (.slice As ns cs5);have HH:=zh (And.intro hh1 hh2);clear hh1 hh2
  try simp only at hw9
  replace hw9:=zh hw9;have z7:=HX.out.fl.frozen 7;have c7:=HX.out.fl.cell 7;simp only[cFl,zzD,zzE,zzF]at c7;go_simp;rw[←hw9.out];clear hw9;replace HX:=zh HH.out.1;replace HK:=zh (HK.out.trans HH.out.2);replace HO:=zh (HH.out.2.own HO.out);clear z7 c7 HH;have HS:=zh (And.intro (HX.out.bo.cell 0) (And.intro (HX.out.bf.cell 0) (HX.out.fl.cell 8)));simp only[cFl,zzD,zzE,zzF]at HS;skip;refine hK.out _ _ HS.out fun _=>?_;clear hK K
  (try simp only[Act.put,zzA,zzB,zzC])
  refine zqO (i:=16) (by kernel_rfl) rfl fun K hK=>?_;obtain⟨ev,hbe⟩:=HX.out.be;have b0:=hbe.cell 0;have b1:=hbe.frozen 0;simp only[zzD,zzE,zzF]at b0;obtain⟨w9,hw9,hh1,hh2⟩:=HX.out.err';have HH:=zh (And.intro hh1 hh2);clear hh1 hh2
  try simp only at hw9
  replace hw9:=zh hw9;go_simp;rw[←hw9.out];clear hw9 b0 b1 hbe;replace HX:=zh HH.out.1.1;have HBE:=zh HH.out.1.2;replace HK:=zh (HK.out.trans HH.out.2);replace HO:=zh (HH.out.2.own HO.out);clear HH;have HS:=zh (And.intro (HX.out.bo.cell 0) (And.intro (HX.out.bf.cell 0) (HX.out.fl.cell 8)));simp only[cFl,zzD,zzE,zzF]at HS;refine hK.out _ _ HS.out fun _=>?_;clear hK K
  (try simp only[Act.put,zzA,zzB,zzC])
  refine zw39 (by kernel_rfl) ?_ _;have b0:=HBE.out.cell 0;simp only[zzD,zzE,zzF]at b0;go_wp2_with fail;refine(must_ok _ _).mono ?_;rintro e w5 ⟨rfl,rfl⟩;go_wp2_with fail
  go_end0
  exact⟨_,⟨rfl,HX.out,HK.out⟩,HO.out⟩
theorem s4_ok (b D : Nat) (o : Ob5) (xs : List Nat) (at_ : Nat) (x0 : Hv) (sv0 lv : Value) (N K : Int) (t : Tv) (ta te : Int) (pv : Value) (ia : Int) (zs : List Nat) (next : Nat) (x : Tk) (w : World)
    (h:OW b D o xs w (cFl (.slice (some ⟨o.q,0,none⟩) o.n o.c) x0 sv0 lv N K t ta te pv ia) at_) (ht:Chk.takeAt xs (at_:Int) 2097152= .ok 4 zs next) (hz:0<zs.length) (hzl:zs.length≤1000000) (hx:takeT N zs=some x) (hN: -9223372036854775808≤N∧N≤9223372036854775807):
    Calls Tryz.prog 64 #[.pointer (some ⟨o.bo,0,none⟩),.pointer (some ⟨o.bf,0,none⟩),.pointer (some ⟨o.be,0,none⟩)] w fun e w'=>∃t':Tv,Stp b D o xs (cFl (.slice (some ⟨o.q,0,none⟩) o.n o.c) x0 sv0 lv N K t' at_ next pv ia) next w e w'∧TkV w' t' x∧
      ∀a,(t'.s0.A=some a∨t'.s1.A=some a∨t'.s2.A=some a∨t'.s3.A=some a∨t'.sm.A=some a)→D≤a.block:=by
  have HW:=zh h;have HTK:=zh (fun(w':World) (te:Int) (h:OW b D o xs w' (cFl (.slice (some ⟨o.q,0,none⟩) o.n o.c) x0 sv0 lv N K t at_ te pv ia) at_)=>take_ok b D o xs _ at_ 4 zs next w' h ht hz);have HTH:=zh (fun(w':World) (g' o' c':Nat) (hB:Bs w' (some ⟨g',o',none⟩) zs.length zs)=>Trk.take_tu (some ⟨g',o',none⟩) zs.length c' zs N w' hB (fun h=>by cases h) hzl hN.1 hN.2);unfold TuPost at HTH;simp only[hx]at HTH;obtain⟨O,F,bo,bf,be_,q,n,c⟩:=o;simp only at HTK ⊢;obtain⟨nz,hnz⟩:∃q,zs.length=q:=⟨_,rfl⟩;rw[hnz]at HTK HTH;clear h ht hz hzl hx hnz hN;go_enter Tryz.func64,Tryz.ntmps64;go_upto_region 0 with fail;have HX:=zh (HW.out.ext (zxd (zxr w)));have HK:=zh (Kp.ext (b:=b) (D:=D) (zxd (zxr w)));have HS:=zh (And.intro (HX.out.bo.cell 0) (And.intro (HX.out.bf.cell 0) (HX.out.op.cell 1)));simp only[cFl,zzD,zzE,zzF]at HS;refine zw38 (S:=fun W=>W.cell? ⟨bo,0,none⟩=some (.pointer (some ⟨O,0,none⟩))∧W.cell? ⟨bf,0,none⟩=some (.pointer (some ⟨F,0,none⟩))∧W.cell? ⟨O,1,none⟩=some (.int .i64 (at_:Int))) hmxF HS.out (fun _=>?_);generalize w.drew=w1 at*
  iterate 7
   refine zqT (v:=?_) HS.out rfl ?_ ?_;rotate_left
   · intro w' hSw;obtain⟨s0,s1,s2⟩:=hSw;go_simp;try with_reducible rfl
   (try simp only[Act.put,zzA,zzB,zzC])
  refine zqO (i:=7) (by kernel_rfl) rfl fun K hK=>?_;obtain⟨w9,hw9,hh1,hh2⟩:=HX.out.setA (at_:Int);have HH:=zh (And.intro hh1 hh2);clear hh1 hh2
  try simp only at hw9
  replace hw9:=zh hw9;have z16:=HX.out.fl.frozen 16;have c16:=HX.out.fl.cell 16;simp only[cFl,zzD,zzE,zzF]at c16;go_simp;rw[←hw9.out];clear hw9;replace HX:=zh HH.out.1;replace HK:=zh (HK.out.trans HH.out.2);clear z16 c16 HH;have HS:=zh (And.intro (HX.out.bo.cell 0) (And.intro (HX.out.bf.cell 0) (HX.out.op.cell 1)));simp only[cFl,zzD,zzE,zzF]at HS;skip;refine hK.out _ _ HS.out fun _=>?_;clear hK K
  (try simp only[Act.put,zzA,zzB,zzC])
  refine zw39 (by kernel_rfl) ?_ _;go_upto_region 1 with fail;replace HX:=zh (HX.out.ext (zxd (zxr w9)));replace HK:=zh (HK.out.trans (Kp.ext (zxd (zxr w9))));have HS:=zh (And.intro (HX.out.bo.cell 0) (And.intro (HX.out.bf.cell 0) (HX.out.fl.cell 8)));simp only[cFl,zzD,zzE,zzF]at HS;refine zw38 (S:=fun W=>W.cell? ⟨bo,0,none⟩=some (.pointer (some ⟨O,0,none⟩))∧W.cell? ⟨bf,0,none⟩=some (.pointer (some ⟨F,0,none⟩))∧W.cell? ⟨F,8,none⟩=some (.int .i64 N)) hmxF HS.out (fun _=>?_);generalize w9.drew=w1 at*
  iterate 7
   refine zqT (v:=?_) HS.out rfl ?_ ?_;rotate_left
   · intro w' hSw;obtain⟨s0,s1,s2⟩:=hSw;go_simp;try with_reducible rfl
   (try simp only[Act.put,zzA,zzB,zzC])
  refine zqO (i:=2) (by kernel_rfl) rfl fun K hK=>?_;go_simp;refine(HTK.out _ te HX.out).mono ?_;rintro e w2 ⟨g',o',c',rfl,hB,hD,hX,hK⟩;replace HX:=zh hX;replace HK:=zh (HK.out.trans hK);have HB:=zh hB;clear hB hD hX hK;have HS:=zh (And.intro (HX.out.bo.cell 0) (And.intro (HX.out.bf.cell 0) (HX.out.fl.cell 8)));simp only[cFl,zzD,zzE,zzF]at HS
  (try go_wp2_with fail)
  refine hK.out _ _ HS.out fun _=>?_;clear hK K
  (try simp only[Act.put,zzA,zzB,zzC])
  refine zqO (i:=8) (by kernel_rfl) rfl fun K hK=>?_;go_simp;refine(HTH.out _ g' o' c' HB.out).mono ?_;rintro e w3 ⟨hE,⟨⟨A0,n0,c0⟩,⟨A1,n1,c1⟩,⟨A2,n2,c2⟩,⟨A3,n3,c3⟩,⟨A4,n4,c4⟩⟩,rfl,hO,hN⟩;have hd:=HX.out.high.2.2.2.2.2.2;replace HX:=zh (HX.out.ext hE);replace HK:=zh (HK.out.trans (Kp.ext hE));have HO:=zh hO;have HN : Hid (∀ a, (A0 = some a ∨ A1 = some a ∨ A2 = some a ∨ A3 = some a ∨ A4 = some a) → D ≤ a.block) := zh (by
      rintro a (h | h | h | h | h)
      · exact zw10 hd (hN.1 a h)
      · exact zw10 hd (hN.2.1 a h)
      · exact zw10 hd (hN.2.2.1 a h)
      · exact zw10 hd (hN.2.2.2.1 a h)
      · exact zw10 hd (hN.2.2.2.2 a h))
  clear hO hE hd hN
  (try simp only[Tv.cells])
  have HS:=zh (And.intro (HX.out.bo.cell 0) (And.intro (HX.out.bf.cell 0) (HX.out.fl.cell 8)));simp only[cFl,zzD,zzE,zzF]at HS
  (try go_wp2_with fail)
  refine hK.out _ _ HS.out fun _=>?_;clear hK K
  (try simp only[Act.put,zzA,zzB,zzC])
  iterate 6
   refine zqT (v:=?_) HS.out rfl ?_ ?_;rotate_left
   · intro w' hSw;obtain⟨s0,s1,s2⟩:=hSw;go_simp;try with_reducible rfl
   (try simp only[Act.put,zzA,zzB,zzC])
  refine zqO (i:=15) (by kernel_rfl) rfl fun K hK=>?_;obtain⟨w9,hw9,hh1,hh2⟩:=HX.out.track ⟨⟨A0,n0,c0⟩,⟨A1,n1,c1⟩,⟨A2,n2,c2⟩,⟨A3,n3,c3⟩,⟨A4,n4,c4⟩⟩;have HH:=zh (And.intro hh1 hh2);clear hh1 hh2
  try simp only at hw9
  replace hw9:=zh hw9;have z10:=HX.out.fl.frozen 10;have z11:=HX.out.fl.frozen 11;have z12:=HX.out.fl.frozen 12;have z13:=HX.out.fl.frozen 13;have z14:=HX.out.fl.frozen 14;have c10:=HX.out.fl.cell 10;have c11:=HX.out.fl.cell 11;have c12:=HX.out.fl.cell 12;have c13:=HX.out.fl.cell 13;have c14:=HX.out.fl.cell 14;simp only[cFl,zzD,zzE,zzF]at c10 c11 c12 c13 c14;go_simp;rw[←hw9.out];clear hw9;replace HX:=zh HH.out.1;replace HK:=zh (HK.out.trans HH.out.2);replace HO:=zh (HH.out.2.tk HO.out HN.out);clear z10 c10 z11 c11 z12 c12 z13 c13 z14 c14 HH;have HS:=zh (And.intro (HX.out.bo.cell 0) (And.intro (HX.out.bf.cell 0) (HX.out.fl.cell 8)));simp only[cFl,zzD,zzE,zzF]at HS;skip;refine hK.out _ _ HS.out fun _=>?_;clear hK K
  (try simp only[Act.put,zzA,zzB,zzC])
  refine zqO (i:=16) (by kernel_rfl) rfl fun K hK=>?_;obtain⟨ev,hbe⟩:=HX.out.be;have b0:=hbe.cell 0;have b1:=hbe.frozen 0;simp only[zzD,zzE,zzF]at b0;obtain⟨w9,hw9,hh1,hh2⟩:=HX.out.err';have HH:=zh (And.intro hh1 hh2);clear hh1 hh2
  try simp only at hw9
  replace hw9:=zh hw9;go_simp;rw[←hw9.out];clear hw9 b0 b1 hbe;replace HX:=zh HH.out.1.1;have HBE:=zh HH.out.1.2;replace HK:=zh (HK.out.trans HH.out.2);replace HO:=zh (HH.out.2.tk HO.out HN.out);clear HH;have HS:=zh (And.intro (HX.out.bo.cell 0) (And.intro (HX.out.bf.cell 0) (HX.out.fl.cell 8)));simp only[cFl,zzD,zzE,zzF]at HS;refine hK.out _ _ HS.out fun _=>?_;clear hK K
  (try simp only[Act.put,zzA,zzB,zzC])
  refine zw39 (by kernel_rfl) ?_ _;have b0:=HBE.out.cell 0;simp only[zzD,zzE,zzF]at b0;go_wp2_with fail;refine(must_ok _ _).mono ?_;rintro e w5 ⟨rfl,rfl⟩;clear b0 HBE;go_upto_region 3 with fail;replace HX:=zh (HX.out.ext (zxd (zxr _)));replace HK:=zh (HK.out.trans (Kp.ext (zxd (zxr _))));replace HO:=zh (HO.out.ext (zxd (zxr _)));have HS:=zh (And.intro (HX.out.bo.cell 0) (And.intro (HX.out.bf.cell 0) (HX.out.op.cell 1)));simp only[cFl,zzD,zzE,zzF]at HS;refine zw38 (S:=fun W=>W.cell? ⟨bo,0,none⟩=some (.pointer (some ⟨O,0,none⟩))∧W.cell? ⟨bf,0,none⟩=some (.pointer (some ⟨F,0,none⟩))∧W.cell? ⟨O,1,none⟩=some (.int .i64 (next:Int))) hmxF HS.out (fun _=>?_);generalize World.drew _=w10 at*
  iterate 7
   refine zqT (v:=?_) HS.out rfl ?_ ?_;rotate_left
   · intro w' hSw;obtain⟨s0,s1,s2⟩:=hSw;go_simp;try with_reducible rfl
   (try simp only[Act.put,zzA,zzB,zzC])
  refine zqO (i:=7) (by kernel_rfl) rfl fun K hK=>?_;obtain⟨w9,hw9,hh1,hh2⟩:=HX.out.setE (next:Int);have HH:=zh (And.intro hh1 hh2);clear hh1 hh2
  try simp only at hw9
  replace hw9:=zh hw9;have z17:=HX.out.fl.frozen 17;have c17:=HX.out.fl.cell 17;simp only[cFl,zzD,zzE,zzF]at c17;go_simp;rw[←hw9.out];clear hw9;replace HX:=zh HH.out.1;replace HK:=zh (HK.out.trans HH.out.2);replace HO:=zh (HH.out.2.tk HO.out HN.out);clear z17 c17 HH;have HS:=zh (And.intro (HX.out.bo.cell 0) (And.intro (HX.out.bf.cell 0) (HX.out.op.cell 1)));simp only[cFl,zzD,zzE,zzF]at HS;skip;refine hK.out _ _ HS.out fun _=>?_;clear hK K
  (try simp only[Act.put,zzA,zzB,zzC])
  refine zw39 (by kernel_rfl) ?_ _;go_wp2_with fail
  go_end0
  exact⟨_,⟨rfl,HX.out,HK.out⟩,HO.out,HN.out⟩
end Go.Proofs.YtbopblbhjcemaaaGreatDoor.Fil
