/- A player of a file: Mark. -/
import Derived.Test.YtbopblbhjcemaaaGreatDoorF28
import Derived.Test.YtbopblbhjcemaaaGreatDoorF31
set_option maxHeartbeats 16000000
set_option maxRecDepth 100000
set_option linter.all false
open Go.ChangeShapes Go.WideShapes Go.ChangeAt Go.RowKit
namespace Go.Proofs.YtbopblbhjcemaaaGreatDoor.Fil
open Wire
open Rec
open Trk (Sl Tv Tk TkV Mk mayT okM AdPostB add_endb)
open Log (Hv)
theorem FVb.mono {b b' f:Nat} {w:World} {xs:List Nat} {r:Rc} {b3 b4 iA:Nat} (h:FVb b w f xs r b3 b4 iA) (hb:b'≤b):FVb b' w f xs r b3 b4 iA:=by
 obtain⟨o,A,c,Al,cl,t,Ap,cp,h1,h2,h3,h4,h5,h6,h7,h8,h9,h10,h11,h12,h13,h14,h15,h16,h17,h18,g1,g2,g3,g4,g5,g6⟩:=h.ex;exact⟨o,A,c,Al,cl,t,Ap,cp,h1,h2,h3,h4,h5,h6,h7,h8,h9,h10,h11,h12,h13,h14,h15,h16,h17,h18,zw10 hb g1,zw10 hb g2,fun a e=>zw10 hb (g3 a e),fun a e=>zw10 hb (g4 a e),fun a e=>zw10 hb (g5 a e),fun a e=>zw10 hb (g6 a e)⟩
theorem mark_st (b P f:Nat) (xs:List Nat) (r:Rc) (b3 b4 iA:Nat) (t:Tv) (tr:Tk) (nm:ByteArray) (w w0:World) (h:PV b w P f xs r b3 b4 iA t tr) (hF0:FVb b w0 f xs r b3 b4 iA) (h0:w0.heap.size≤P) (hE0:Ext w0 w)
  (hl:(∀c∈tr.cams,c.length≤1000000)∧tr.marks.length≤1000000) (hn: -9223372036854775808≤r.N∧r.N≤9223372036854775807) (hy:mayT r.N tr=true) (hm:okM r.N ⟨0,nm⟩) (hc:tr.marks.length<32) (hq:∀q∈tr.marks,q.tick≤0):
  Calls Tryz.prog 17 #[.pointer (some ⟨P,0,none⟩),.string nm] w fun e w'=>e= .returned (.int .i64 0)∧w.grownBy w' (some P)∧Ext w0 w'∧∃t',PV 0 w' P f xs r b3 b4 iA t' ⟨tr.c0,tr.c1,tr.c2,tr.c3,tr.marks++[⟨0,nm⟩]⟩:=by
 obtain⟨⟨sv,mv,gv,room,k,d,hb⟩,hbP,hFV,hTk,htb⟩:=h;have HX:=zh (zxd (zxr w));have HAD:=zh (fun(W:World) (e:Ext w W)=>add_endb t tr ⟨0,nm⟩ r.N W (hTk.ext e) hl hn.1 hn.2 hy hm hc hq);have HLK:=zh (fun(W:World) (e:Ext w W) (t':Tv)=>look_st P f r.x sv mv gv r.N r.K room k d t t' W (hb.ext e));have HBD:=zh (hb.ext HX.out);have HFIN:Hid (∀(WA WB WC:World) (t':Tv),Ext w WA→Ext WA WB→TkV WB t' ⟨tr.c0,tr.c1,tr.c2,tr.c3,tr.marks++[⟨0,nm⟩]⟩→(∀a,(t'.s0.A=some a∨t'.s1.A=some a∨t'.s2.A=some a∨t'.s3.A=some a∨t'.sm.A=some a)→WA.heap.size≤a.block)→WB.grownBy WC (some P)→
   Blk WC P 66 (cPl f r.x sv r.N r.K room t' mv gv k d)→(Ending.returned (.int .i64 0)= .returned (.int .i64 0)∧w.grownBy WC (some P)∧Ext w0 WC∧∃t',PV 0 WC P f xs r b3 b4 iA t' ⟨tr.c0,tr.c1,tr.c2,tr.c3,tr.marks++[⟨0,nm⟩]⟩)):=zh (fun WA WB WC t' e1 e2 h1 h2 h3 h4=>by
  have hG:w.grownBy WC (some P):=gb_trans (gb_ext (zxt e1 e2) _) h3;have hE:Ext w0 WC:=ext_grown hE0 hG (fun q e=>by cases e;exact h0);exact⟨rfl,hG,hE,t',⟨_,_,_,_,_,_,h4⟩,Nat.zero_le _,(hF0.mono (Nat.zero_le _)).ext hE,(kp_grown h3).tk h1 (fun a e=>by have:=h2 a e;have:=e1.size;have:=hb.lt;omega),fun a _=>Nat.zero_le _⟩)
 obtain⟨⟨A0,n0,c0⟩,⟨A1,n1,c1⟩,⟨A2,n2,c2⟩,⟨A3,n3,c3⟩,⟨Am,nm',cm⟩⟩:=t;obtain⟨hN1,hN2⟩:=hn;simp only[Tv.cells,cPl]at HAD HLK HBD;clear hFV hTk htb hy hm hc hq hF0 h0 hE0 hl hb;go_enter Tryz.func17,Tryz.ntmps17;go_upto_region 3 with fail;generalize hwd:w.drew=WA at HX HBD;refine zw38 (S:=fun _=>True) hmxF trivial (fun _=>?_);rw[hwd];clear hwd;have p10:=HBD.out.cell 10;have p11:=HBD.out.cell 11;have p12:=HBD.out.cell 12;have p13:=HBD.out.cell 13;have p14:=HBD.out.cell 14;have p15:=HBD.out.cell 15;have p7:=HBD.out.cell 7;simp only[zzD,zzE,zzF]at p7 p10 p11 p12 p13 p14 p15
 (refine tq (i:=0) (oi:=⟨some 7,.move (.tmp 0),26,_,_,none⟩) (v:=?_) trivial ?_ ?_);rotate_left
 ·(intro w' hSw;go_simp;try with_reducible rfl)
 (try simp only[Act.put,zzA,zzB,zzC])
 (refine tq (i:=1) (oi:=⟨some 8,.move (.tmp 0),26,_,_,none⟩) (v:=?_) trivial ?_ ?_);rotate_left
 ·(intro w' hSw;go_simp;try with_reducible rfl)
 (try simp only[Act.put,zzA,zzB,zzC])
 (refine tq (i:=2) (oi:=⟨some 9,.nilCheck (.tmp 8),0,_,_,none⟩) (v:=?_) trivial ?_ ?_);rotate_left
 ·(intro w' hSw;go_simp;try with_reducible rfl)
 (try simp only[Act.put,zzA,zzB,zzC])
 (refine tq (i:=3) (oi:=⟨some 10,.fieldAddr 66 (.tmp 9) 2,0,_,_,none⟩) (v:=?_) trivial ?_ ?_);rotate_left
 ·(intro w' hSw;go_simp;try with_reducible rfl)
 (try simp only[Act.put,zzA,zzB,zzC])
 (refine tq (i:=5) (oi:=⟨some 12,.move (.tmp 0),26,_,_,none⟩) (v:=?_) trivial ?_ ?_);rotate_left
 ·(intro w' hSw;go_simp;try with_reducible rfl)
 (try simp only[Act.put,zzA,zzB,zzC])
 (refine tq (i:=6) (oi:=⟨some 13,.nilCheck (.tmp 12),0,_,_,none⟩) (v:=?_) trivial ?_ ?_);rotate_left
 ·(intro w' hSw;go_simp;try with_reducible rfl)
 (try simp only[Act.put,zzA,zzB,zzC])
 (refine tq (i:=7) (oi:=⟨some 14,.fieldAddr 66 (.tmp 13) 1,0,_,_,none⟩) (v:=?_) trivial ?_ ?_);rotate_left
 ·(intro w' hSw;go_simp;try with_reducible rfl)
 (try simp only[Act.put,zzA,zzB,zzC])
 (refine tq (i:=9) (oi:=⟨some 16,.move (.tmp 1),9,_,_,none⟩) (v:=?_) trivial ?_ ?_);rotate_left
 ·(intro w' hSw;go_simp;try with_reducible rfl)
 (try simp only[Act.put,zzA,zzB,zzC])
 (refine tq (i:=11) (oi:=⟨some 18,.move (.tmp 0),26,_,_,none⟩) (v:=?_) trivial ?_ ?_);rotate_left
 ·(intro w' hSw;go_simp;try with_reducible rfl)
 (try simp only[Act.put,zzA,zzB,zzC])
 (refine tq (i:=12) (oi:=⟨some 19,.nilCheck (.tmp 18),0,_,_,none⟩) (v:=?_) trivial ?_ ?_);rotate_left
 ·(intro w' hSw;go_simp;try with_reducible rfl)
 (try simp only[Act.put,zzA,zzB,zzC])
 (refine tq (i:=13) (oi:=⟨some 20,.fieldAddr 66 (.tmp 19) 0,0,_,_,none⟩) (v:=?_) trivial ?_ ?_);rotate_left
 ·(intro w' hSw;go_simp;try with_reducible rfl)
 (try simp only[Act.put,zzA,zzB,zzC])
 (refine tq (i:=14) (oi:=⟨some 21,.fieldAddr 58 (.tmp 20) 2,0,_,_,none⟩) (v:=?_) trivial ?_ ?_);rotate_left
 ·(intro w' hSw;go_simp;try with_reducible rfl)
 (try simp only[Act.put,zzA,zzB,zzC])
 refine zw41 (rs:=[4,8,15]) (by kernel_rfl) (by simp) ?_;refine AllReadyH.cons (o:=⟨some 11,.load 37 (.tmp 10),37,"player.go:154",#[⟨3,.data⟩],none⟩) (by kernel_rfl) (fun K hK=>?_) (AllReadyH.cons (o:=⟨some 15,.load 3 (.tmp 14),3,"player.go:154",#[⟨7,.data⟩],none⟩) (by kernel_rfl) (fun K hK=>?_) (AllReadyH.cons (o:=⟨some 22,.load 3 (.tmp 21),3,"player.go:154",#[⟨14,.data⟩],none⟩) (by kernel_rfl) (fun K hK=>?_) zw42))
 ·go_simp
  refine hK.out _ _ trivial fun _=>?_;clear hK K
  (try simp only[Act.put,zzA,zzB,zzC])
  refine zw41 (rs:=[8,15]) (by kernel_rfl) (by simp) ?_;refine AllReadyH.cons (o:=⟨some 15,.load 3 (.tmp 14),3,"player.go:154",#[⟨7,.data⟩],none⟩) (by kernel_rfl) (fun K hK=>?_) (AllReadyH.cons (o:=⟨some 22,.load 3 (.tmp 21),3,"player.go:154",#[⟨14,.data⟩],none⟩) (by kernel_rfl) (fun K hK=>?_) zw42)
  ·go_simp
   refine hK.out _ _ trivial fun _=>?_;clear hK K
   (try simp only[Act.put,zzA,zzB,zzC])
   (refine tq (i:=10) (oi:=⟨some 17,.build 52 #[(0,.tmp 15),(1,.tmp 16)],52,_,_,none⟩) (v:=?_) trivial ?_ ?_);rotate_left
   ·(intro w' hSw;go_simp;try with_reducible rfl)
   (try simp only[Act.put,zzA,zzB,zzC])
   refine zw41 (rs:=[15]) (by kernel_rfl) (by simp) ?_;refine AllReadyH.cons (o:=⟨some 22,.load 3 (.tmp 21),3,"player.go:154",#[⟨14,.data⟩],none⟩) (by kernel_rfl) (fun K hK=>?_) zw42;go_simp;refine hK.out _ _ trivial fun _=>?_;clear hK K
   (try simp only[Act.put,zzA,zzB,zzC])
   refine zw41 (rs:=[16]) (by kernel_rfl) (by simp) ?_;refine AllReadyH.cons (o:=⟨some 23,.call {callee:= .value (.func 46),args:= #[.tmp 11,.tmp 17,.tmp 22],argTypes:= #[37,52,3]},120,"player.go:154",#[⟨4,.data⟩,⟨10,.data⟩,⟨15,.data⟩],none⟩) (by kernel_rfl) (fun K hK=>?_) zw42;go_simp;refine(HAD.out _ HX.out).mono ?_;rintro e WB ⟨hE,⟨⟨D0,o0,v0⟩,⟨D1,o1,v1⟩,⟨D2,o2,v2⟩,⟨D3,o3,v3⟩,⟨Dm,om,vm⟩⟩,rfl,hT,hD⟩;simp only[Tv.cells]at hT ⊢;have HXB:=zh hE;have HTB:=zh hT;have HDB:=zh hD;clear hE hT hD;have HLB:=zh (HLK.out _ (zxt HX.out HXB.out) ⟨⟨D0,o0,v0⟩,⟨D1,o1,v1⟩,⟨D2,o2,v2⟩,⟨D3,o3,v3⟩,⟨Dm,om,vm⟩⟩);simp only[Tv.cells]at HLB
   (try go_wp2_with fail)
   refine hK.out _ _ trivial fun _=>?_;clear hK K
   (try simp only[Act.put,zzA,zzB,zzC])
   (refine tq (i:=17) (oi:=⟨some 24,.extract (.tmp 23) 0,37,_,_,none⟩) (v:=?_) trivial ?_ ?_);rotate_left
   ·(intro w' hSw;go_simp;try with_reducible rfl)
   (try simp only[Act.put,zzA,zzB,zzC])
   (refine tq (i:=18) (oi:=⟨some 25,.extract (.tmp 23) 1,23,_,_,none⟩) (v:=?_) trivial ?_ ?_);rotate_left
   ·(intro w' hSw;go_simp;try with_reducible rfl)
   (try simp only[Act.put,zzA,zzB,zzC])
   refine zw41 (rs:=[19]) (by kernel_rfl) (by simp) ?_;refine AllReadyH.cons (o:=⟨some 26,.call {callee:= .value (.func 45),args:= #[.tmp 7,.tmp 24,.tmp 25],argTypes:= #[26,37,23]},23,"player.go:154",#[⟨0,.data⟩,⟨17,.data⟩,⟨18,.data⟩,⟨16,.chain⟩],none⟩) (by kernel_rfl) (fun K hK=>?_) zw42;go_simp;refine(HLB.out).mono ?_;rintro e WC ⟨rfl,hG,hB⟩;have HG:=zh hG;have HBC:=zh hB;clear hG hB
   (try go_wp2_with fail)
   refine hK.out _ _ trivial fun _=>?_;clear hK K
   (try simp only[Act.put,zzA,zzB,zzC])
   (refine tq (i:=20) (oi:=⟨some 4,.assign (.tmp 26),23,_,_,none⟩) (v:=?_) trivial ?_ ?_);rotate_left
   ·(intro w' hSw;go_simp;try with_reducible rfl)
   (try simp only[Act.put,zzA,zzB,zzC])
   refine zw39 (by kernel_rfl) ?_ _;go_wp2_with fail;go_ret;exact⟨rfl,(HFIN.out _ _ _ _ HX.out HXB.out HTB.out HDB.out HG.out HBC.out).2⟩
  ·go_simp
   refine hK.out _ _ trivial fun _=>?_;clear hK K
   (try simp only[Act.put,zzA,zzB,zzC])
   refine zw41 (rs:=[8]) (by kernel_rfl) (by simp) ?_;refine AllReadyH.cons (o:=⟨some 15,.load 3 (.tmp 14),3,"player.go:154",#[⟨7,.data⟩],none⟩) (by kernel_rfl) (fun K hK=>?_) zw42;go_simp;refine hK.out _ _ trivial fun _=>?_;clear hK K
   (try simp only[Act.put,zzA,zzB,zzC])
   (refine tq (i:=10) (oi:=⟨some 17,.build 52 #[(0,.tmp 15),(1,.tmp 16)],52,_,_,none⟩) (v:=?_) trivial ?_ ?_);rotate_left
   ·(intro w' hSw;go_simp;try with_reducible rfl)
   (try simp only[Act.put,zzA,zzB,zzC])
   refine zw41 (rs:=[16]) (by kernel_rfl) (by simp) ?_;refine AllReadyH.cons (o:=⟨some 23,.call {callee:= .value (.func 46),args:= #[.tmp 11,.tmp 17,.tmp 22],argTypes:= #[37,52,3]},120,"player.go:154",#[⟨4,.data⟩,⟨10,.data⟩,⟨15,.data⟩],none⟩) (by kernel_rfl) (fun K hK=>?_) zw42;go_simp;refine(HAD.out _ HX.out).mono ?_;rintro e WB ⟨hE,⟨⟨D0,o0,v0⟩,⟨D1,o1,v1⟩,⟨D2,o2,v2⟩,⟨D3,o3,v3⟩,⟨Dm,om,vm⟩⟩,rfl,hT,hD⟩;simp only[Tv.cells]at hT ⊢;have HXB:=zh hE;have HTB:=zh hT;have HDB:=zh hD;clear hE hT hD;have HLB:=zh (HLK.out _ (zxt HX.out HXB.out) ⟨⟨D0,o0,v0⟩,⟨D1,o1,v1⟩,⟨D2,o2,v2⟩,⟨D3,o3,v3⟩,⟨Dm,om,vm⟩⟩);simp only[Tv.cells]at HLB
   (try go_wp2_with fail)
   refine hK.out _ _ trivial fun _=>?_;clear hK K
   (try simp only[Act.put,zzA,zzB,zzC])
   (refine tq (i:=17) (oi:=⟨some 24,.extract (.tmp 23) 0,37,_,_,none⟩) (v:=?_) trivial ?_ ?_);rotate_left
   ·(intro w' hSw;go_simp;try with_reducible rfl)
   (try simp only[Act.put,zzA,zzB,zzC])
   (refine tq (i:=18) (oi:=⟨some 25,.extract (.tmp 23) 1,23,_,_,none⟩) (v:=?_) trivial ?_ ?_);rotate_left
   ·(intro w' hSw;go_simp;try with_reducible rfl)
   (try simp only[Act.put,zzA,zzB,zzC])
   refine zw41 (rs:=[19]) (by kernel_rfl) (by simp) ?_;refine AllReadyH.cons (o:=⟨some 26,.call {callee:= .value (.func 45),args:= #[.tmp 7,.tmp 24,.tmp 25],argTypes:= #[26,37,23]},23,"player.go:154",#[⟨0,.data⟩,⟨17,.data⟩,⟨18,.data⟩,⟨16,.chain⟩],none⟩) (by kernel_rfl) (fun K hK=>?_) zw42;go_simp;refine(HLB.out).mono ?_;rintro e WC ⟨rfl,hG,hB⟩;have HG:=zh hG;have HBC:=zh hB;clear hG hB
   (try go_wp2_with fail)
   refine hK.out _ _ trivial fun _=>?_;clear hK K
   (try simp only[Act.put,zzA,zzB,zzC])
   (refine tq (i:=20) (oi:=⟨some 4,.assign (.tmp 26),23,_,_,none⟩) (v:=?_) trivial ?_ ?_);rotate_left
   ·(intro w' hSw;go_simp;try with_reducible rfl)
   (try simp only[Act.put,zzA,zzB,zzC])
   refine zw39 (by kernel_rfl) ?_ _;go_wp2_with fail;go_ret;exact⟨rfl,(HFIN.out _ _ _ _ HX.out HXB.out HTB.out HDB.out HG.out HBC.out).2⟩
 ·go_simp
  refine hK.out _ _ trivial fun _=>?_;clear hK K
  (try simp only[Act.put,zzA,zzB,zzC])
  (refine tq (i:=10) (oi:=⟨some 17,.build 52 #[(0,.tmp 15),(1,.tmp 16)],52,_,_,none⟩) (v:=?_) trivial ?_ ?_);rotate_left
  ·(intro w' hSw;go_simp;try with_reducible rfl)
  (try simp only[Act.put,zzA,zzB,zzC])
  refine zw41 (rs:=[4,15]) (by kernel_rfl) (by simp) ?_;refine AllReadyH.cons (o:=⟨some 11,.load 37 (.tmp 10),37,"player.go:154",#[⟨3,.data⟩],none⟩) (by kernel_rfl) (fun K hK=>?_) (AllReadyH.cons (o:=⟨some 22,.load 3 (.tmp 21),3,"player.go:154",#[⟨14,.data⟩],none⟩) (by kernel_rfl) (fun K hK=>?_) zw42)
  ·go_simp
   refine hK.out _ _ trivial fun _=>?_;clear hK K
   (try simp only[Act.put,zzA,zzB,zzC])
   refine zw41 (rs:=[15]) (by kernel_rfl) (by simp) ?_;refine AllReadyH.cons (o:=⟨some 22,.load 3 (.tmp 21),3,"player.go:154",#[⟨14,.data⟩],none⟩) (by kernel_rfl) (fun K hK=>?_) zw42;go_simp;refine hK.out _ _ trivial fun _=>?_;clear hK K
   (try simp only[Act.put,zzA,zzB,zzC])
   refine zw41 (rs:=[16]) (by kernel_rfl) (by simp) ?_;refine AllReadyH.cons (o:=⟨some 23,.call {callee:= .value (.func 46),args:= #[.tmp 11,.tmp 17,.tmp 22],argTypes:= #[37,52,3]},120,"player.go:154",#[⟨4,.data⟩,⟨10,.data⟩,⟨15,.data⟩],none⟩) (by kernel_rfl) (fun K hK=>?_) zw42;go_simp;refine(HAD.out _ HX.out).mono ?_;rintro e WB ⟨hE,⟨⟨D0,o0,v0⟩,⟨D1,o1,v1⟩,⟨D2,o2,v2⟩,⟨D3,o3,v3⟩,⟨Dm,om,vm⟩⟩,rfl,hT,hD⟩;simp only[Tv.cells]at hT ⊢;have HXB:=zh hE;have HTB:=zh hT;have HDB:=zh hD;clear hE hT hD;have HLB:=zh (HLK.out _ (zxt HX.out HXB.out) ⟨⟨D0,o0,v0⟩,⟨D1,o1,v1⟩,⟨D2,o2,v2⟩,⟨D3,o3,v3⟩,⟨Dm,om,vm⟩⟩);simp only[Tv.cells]at HLB
   (try go_wp2_with fail)
   refine hK.out _ _ trivial fun _=>?_;clear hK K
   (try simp only[Act.put,zzA,zzB,zzC])
   (refine tq (i:=17) (oi:=⟨some 24,.extract (.tmp 23) 0,37,_,_,none⟩) (v:=?_) trivial ?_ ?_);rotate_left
   ·(intro w' hSw;go_simp;try with_reducible rfl)
   (try simp only[Act.put,zzA,zzB,zzC])
   (refine tq (i:=18) (oi:=⟨some 25,.extract (.tmp 23) 1,23,_,_,none⟩) (v:=?_) trivial ?_ ?_);rotate_left
   ·(intro w' hSw;go_simp;try with_reducible rfl)
   (try simp only[Act.put,zzA,zzB,zzC])
   refine zw41 (rs:=[19]) (by kernel_rfl) (by simp) ?_;refine AllReadyH.cons (o:=⟨some 26,.call {callee:= .value (.func 45),args:= #[.tmp 7,.tmp 24,.tmp 25],argTypes:= #[26,37,23]},23,"player.go:154",#[⟨0,.data⟩,⟨17,.data⟩,⟨18,.data⟩,⟨16,.chain⟩],none⟩) (by kernel_rfl) (fun K hK=>?_) zw42;go_simp;refine(HLB.out).mono ?_;rintro e WC ⟨rfl,hG,hB⟩;have HG:=zh hG;have HBC:=zh hB;clear hG hB
   (try go_wp2_with fail)
   refine hK.out _ _ trivial fun _=>?_;clear hK K
   (try simp only[Act.put,zzA,zzB,zzC])
   (refine tq (i:=20) (oi:=⟨some 4,.assign (.tmp 26),23,_,_,none⟩) (v:=?_) trivial ?_ ?_);rotate_left
   ·(intro w' hSw;go_simp;try with_reducible rfl)
   (try simp only[Act.put,zzA,zzB,zzC])
   refine zw39 (by kernel_rfl) ?_ _;go_wp2_with fail;go_ret;exact⟨rfl,(HFIN.out _ _ _ _ HX.out HXB.out HTB.out HDB.out HG.out HBC.out).2⟩
  ·go_simp
   refine hK.out _ _ trivial fun _=>?_;clear hK K
   (try simp only[Act.put,zzA,zzB,zzC])
   refine zw41 (rs:=[4]) (by kernel_rfl) (by simp) ?_;refine AllReadyH.cons (o:=⟨some 11,.load 37 (.tmp 10),37,"player.go:154",#[⟨3,.data⟩],none⟩) (by kernel_rfl) (fun K hK=>?_) zw42;go_simp;refine hK.out _ _ trivial fun _=>?_;clear hK K
   (try simp only[Act.put,zzA,zzB,zzC])
   refine zw41 (rs:=[16]) (by kernel_rfl) (by simp) ?_;refine AllReadyH.cons (o:=⟨some 23,.call {callee:= .value (.func 46),args:= #[.tmp 11,.tmp 17,.tmp 22],argTypes:= #[37,52,3]},120,"player.go:154",#[⟨4,.data⟩,⟨10,.data⟩,⟨15,.data⟩],none⟩) (by kernel_rfl) (fun K hK=>?_) zw42;go_simp;refine(HAD.out _ HX.out).mono ?_;rintro e WB ⟨hE,⟨⟨D0,o0,v0⟩,⟨D1,o1,v1⟩,⟨D2,o2,v2⟩,⟨D3,o3,v3⟩,⟨Dm,om,vm⟩⟩,rfl,hT,hD⟩;simp only[Tv.cells]at hT ⊢;have HXB:=zh hE;have HTB:=zh hT;have HDB:=zh hD;clear hE hT hD;have HLB:=zh (HLK.out _ (zxt HX.out HXB.out) ⟨⟨D0,o0,v0⟩,⟨D1,o1,v1⟩,⟨D2,o2,v2⟩,⟨D3,o3,v3⟩,⟨Dm,om,vm⟩⟩);simp only[Tv.cells]at HLB
   (try go_wp2_with fail)
   refine hK.out _ _ trivial fun _=>?_;clear hK K
   (try simp only[Act.put,zzA,zzB,zzC])
   (refine tq (i:=17) (oi:=⟨some 24,.extract (.tmp 23) 0,37,_,_,none⟩) (v:=?_) trivial ?_ ?_);rotate_left
   ·(intro w' hSw;go_simp;try with_reducible rfl)
   (try simp only[Act.put,zzA,zzB,zzC])
   (refine tq (i:=18) (oi:=⟨some 25,.extract (.tmp 23) 1,23,_,_,none⟩) (v:=?_) trivial ?_ ?_);rotate_left
   ·(intro w' hSw;go_simp;try with_reducible rfl)
   (try simp only[Act.put,zzA,zzB,zzC])
   refine zw41 (rs:=[19]) (by kernel_rfl) (by simp) ?_;refine AllReadyH.cons (o:=⟨some 26,.call {callee:= .value (.func 45),args:= #[.tmp 7,.tmp 24,.tmp 25],argTypes:= #[26,37,23]},23,"player.go:154",#[⟨0,.data⟩,⟨17,.data⟩,⟨18,.data⟩,⟨16,.chain⟩],none⟩) (by kernel_rfl) (fun K hK=>?_) zw42;go_simp;refine(HLB.out).mono ?_;rintro e WC ⟨rfl,hG,hB⟩;have HG:=zh hG;have HBC:=zh hB;clear hG hB
   (try go_wp2_with fail)
   refine hK.out _ _ trivial fun _=>?_;clear hK K
   (try simp only[Act.put,zzA,zzB,zzC])
   (refine tq (i:=20) (oi:=⟨some 4,.assign (.tmp 26),23,_,_,none⟩) (v:=?_) trivial ?_ ?_);rotate_left
   ·(intro w' hSw;go_simp;try with_reducible rfl)
   (try simp only[Act.put,zzA,zzB,zzC])
   refine zw39 (by kernel_rfl) ?_ _;go_wp2_with fail;go_ret;exact⟨rfl,(HFIN.out _ _ _ _ HX.out HXB.out HTB.out HDB.out HG.out HBC.out).2⟩
 ·go_simp
  refine hK.out _ _ trivial fun _=>?_;clear hK K
  (try simp only[Act.put,zzA,zzB,zzC])
  refine zw41 (rs:=[4,8]) (by kernel_rfl) (by simp) ?_;refine AllReadyH.cons (o:=⟨some 11,.load 37 (.tmp 10),37,"player.go:154",#[⟨3,.data⟩],none⟩) (by kernel_rfl) (fun K hK=>?_) (AllReadyH.cons (o:=⟨some 15,.load 3 (.tmp 14),3,"player.go:154",#[⟨7,.data⟩],none⟩) (by kernel_rfl) (fun K hK=>?_) zw42)
  ·go_simp
   refine hK.out _ _ trivial fun _=>?_;clear hK K
   (try simp only[Act.put,zzA,zzB,zzC])
   refine zw41 (rs:=[8]) (by kernel_rfl) (by simp) ?_;refine AllReadyH.cons (o:=⟨some 15,.load 3 (.tmp 14),3,"player.go:154",#[⟨7,.data⟩],none⟩) (by kernel_rfl) (fun K hK=>?_) zw42;go_simp;refine hK.out _ _ trivial fun _=>?_;clear hK K
   (try simp only[Act.put,zzA,zzB,zzC])
   (refine tq (i:=10) (oi:=⟨some 17,.build 52 #[(0,.tmp 15),(1,.tmp 16)],52,_,_,none⟩) (v:=?_) trivial ?_ ?_);rotate_left
   ·(intro w' hSw;go_simp;try with_reducible rfl)
   (try simp only[Act.put,zzA,zzB,zzC])
   refine zw41 (rs:=[16]) (by kernel_rfl) (by simp) ?_;refine AllReadyH.cons (o:=⟨some 23,.call {callee:= .value (.func 46),args:= #[.tmp 11,.tmp 17,.tmp 22],argTypes:= #[37,52,3]},120,"player.go:154",#[⟨4,.data⟩,⟨10,.data⟩,⟨15,.data⟩],none⟩) (by kernel_rfl) (fun K hK=>?_) zw42;go_simp;refine(HAD.out _ HX.out).mono ?_;rintro e WB ⟨hE,⟨⟨D0,o0,v0⟩,⟨D1,o1,v1⟩,⟨D2,o2,v2⟩,⟨D3,o3,v3⟩,⟨Dm,om,vm⟩⟩,rfl,hT,hD⟩;simp only[Tv.cells]at hT ⊢;have HXB:=zh hE;have HTB:=zh hT;have HDB:=zh hD;clear hE hT hD;have HLB:=zh (HLK.out _ (zxt HX.out HXB.out) ⟨⟨D0,o0,v0⟩,⟨D1,o1,v1⟩,⟨D2,o2,v2⟩,⟨D3,o3,v3⟩,⟨Dm,om,vm⟩⟩);simp only[Tv.cells]at HLB
   (try go_wp2_with fail)
   refine hK.out _ _ trivial fun _=>?_;clear hK K
   (try simp only[Act.put,zzA,zzB,zzC])
   (refine tq (i:=17) (oi:=⟨some 24,.extract (.tmp 23) 0,37,_,_,none⟩) (v:=?_) trivial ?_ ?_);rotate_left
   ·(intro w' hSw;go_simp;try with_reducible rfl)
   (try simp only[Act.put,zzA,zzB,zzC])
   (refine tq (i:=18) (oi:=⟨some 25,.extract (.tmp 23) 1,23,_,_,none⟩) (v:=?_) trivial ?_ ?_);rotate_left
   ·(intro w' hSw;go_simp;try with_reducible rfl)
   (try simp only[Act.put,zzA,zzB,zzC])
   refine zw41 (rs:=[19]) (by kernel_rfl) (by simp) ?_;refine AllReadyH.cons (o:=⟨some 26,.call {callee:= .value (.func 45),args:= #[.tmp 7,.tmp 24,.tmp 25],argTypes:= #[26,37,23]},23,"player.go:154",#[⟨0,.data⟩,⟨17,.data⟩,⟨18,.data⟩,⟨16,.chain⟩],none⟩) (by kernel_rfl) (fun K hK=>?_) zw42;go_simp;refine(HLB.out).mono ?_;rintro e WC ⟨rfl,hG,hB⟩;have HG:=zh hG;have HBC:=zh hB;clear hG hB
   (try go_wp2_with fail)
   refine hK.out _ _ trivial fun _=>?_;clear hK K
   (try simp only[Act.put,zzA,zzB,zzC])
   (refine tq (i:=20) (oi:=⟨some 4,.assign (.tmp 26),23,_,_,none⟩) (v:=?_) trivial ?_ ?_);rotate_left
   ·(intro w' hSw;go_simp;try with_reducible rfl)
   (try simp only[Act.put,zzA,zzB,zzC])
   refine zw39 (by kernel_rfl) ?_ _;go_wp2_with fail;go_ret;exact⟨rfl,(HFIN.out _ _ _ _ HX.out HXB.out HTB.out HDB.out HG.out HBC.out).2⟩
  ·go_simp
   refine hK.out _ _ trivial fun _=>?_;clear hK K
   (try simp only[Act.put,zzA,zzB,zzC])
   (refine tq (i:=10) (oi:=⟨some 17,.build 52 #[(0,.tmp 15),(1,.tmp 16)],52,_,_,none⟩) (v:=?_) trivial ?_ ?_);rotate_left
   ·(intro w' hSw;go_simp;try with_reducible rfl)
   (try simp only[Act.put,zzA,zzB,zzC])
   refine zw41 (rs:=[4]) (by kernel_rfl) (by simp) ?_;refine AllReadyH.cons (o:=⟨some 11,.load 37 (.tmp 10),37,"player.go:154",#[⟨3,.data⟩],none⟩) (by kernel_rfl) (fun K hK=>?_) zw42;go_simp;refine hK.out _ _ trivial fun _=>?_;clear hK K
   (try simp only[Act.put,zzA,zzB,zzC])
   refine zw41 (rs:=[16]) (by kernel_rfl) (by simp) ?_;refine AllReadyH.cons (o:=⟨some 23,.call {callee:= .value (.func 46),args:= #[.tmp 11,.tmp 17,.tmp 22],argTypes:= #[37,52,3]},120,"player.go:154",#[⟨4,.data⟩,⟨10,.data⟩,⟨15,.data⟩],none⟩) (by kernel_rfl) (fun K hK=>?_) zw42;go_simp;refine(HAD.out _ HX.out).mono ?_;rintro e WB ⟨hE,⟨⟨D0,o0,v0⟩,⟨D1,o1,v1⟩,⟨D2,o2,v2⟩,⟨D3,o3,v3⟩,⟨Dm,om,vm⟩⟩,rfl,hT,hD⟩;simp only[Tv.cells]at hT ⊢;have HXB:=zh hE;have HTB:=zh hT;have HDB:=zh hD;clear hE hT hD;have HLB:=zh (HLK.out _ (zxt HX.out HXB.out) ⟨⟨D0,o0,v0⟩,⟨D1,o1,v1⟩,⟨D2,o2,v2⟩,⟨D3,o3,v3⟩,⟨Dm,om,vm⟩⟩);simp only[Tv.cells]at HLB
   (try go_wp2_with fail)
   refine hK.out _ _ trivial fun _=>?_;clear hK K
   (try simp only[Act.put,zzA,zzB,zzC])
   (refine tq (i:=17) (oi:=⟨some 24,.extract (.tmp 23) 0,37,_,_,none⟩) (v:=?_) trivial ?_ ?_);rotate_left
   ·(intro w' hSw;go_simp;try with_reducible rfl)
   (try simp only[Act.put,zzA,zzB,zzC])
   (refine tq (i:=18) (oi:=⟨some 25,.extract (.tmp 23) 1,23,_,_,none⟩) (v:=?_) trivial ?_ ?_);rotate_left
   ·(intro w' hSw;go_simp;try with_reducible rfl)
   (try simp only[Act.put,zzA,zzB,zzC])
   refine zw41 (rs:=[19]) (by kernel_rfl) (by simp) ?_;refine AllReadyH.cons (o:=⟨some 26,.call {callee:= .value (.func 45),args:= #[.tmp 7,.tmp 24,.tmp 25],argTypes:= #[26,37,23]},23,"player.go:154",#[⟨0,.data⟩,⟨17,.data⟩,⟨18,.data⟩,⟨16,.chain⟩],none⟩) (by kernel_rfl) (fun K hK=>?_) zw42;go_simp;refine(HLB.out).mono ?_;rintro e WC ⟨rfl,hG,hB⟩;have HG:=zh hG;have HBC:=zh hB;clear hG hB
   (try go_wp2_with fail)
   refine hK.out _ _ trivial fun _=>?_;clear hK K
   (try simp only[Act.put,zzA,zzB,zzC])
   (refine tq (i:=20) (oi:=⟨some 4,.assign (.tmp 26),23,_,_,none⟩) (v:=?_) trivial ?_ ?_);rotate_left
   ·(intro w' hSw;go_simp;try with_reducible rfl)
   (try simp only[Act.put,zzA,zzB,zzC])
   refine zw39 (by kernel_rfl) ?_ _;go_wp2_with fail;go_ret;exact⟨rfl,(HFIN.out _ _ _ _ HX.out HXB.out HTB.out HDB.out HG.out HBC.out).2⟩
end Go.Proofs.YtbopblbhjcemaaaGreatDoor.Fil
