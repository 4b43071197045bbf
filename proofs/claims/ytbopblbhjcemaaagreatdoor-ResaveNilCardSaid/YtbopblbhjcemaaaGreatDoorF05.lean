
import Derived.Test.YtbopblbhjcemaaaGreatDoorLzG
import Derived.Deep.DeepCutAuto
set_option maxHeartbeats 16000000
set_option maxRecDepth 100000
set_option linter.all false
namespace Go.Proofs.YtbopblbhjcemaaaGreatDoor.Lz
open Go.ChangeShapes Go.WideShapes Go.ChangeAt Go.RowKit
open Wire Go.Proofs.YtbopblbhjcemaaaGreatDoor.Map32
def mtU (xs:List Nat) (f a:Nat):Nat→Nat
 | 0=>0
 | k+1=>if mtU xs f a k=k∧xs.getD (f+k) 0=xs.getD (a+k) 0 then k+1 else mtU xs f a k
theorem mtU_le (xs:List Nat) (f a k:Nat):mtU xs f a k≤k:=by
 induction k with
 | zero=>exact zw8 _
 | succ k ih=>rw[mtU];split<;>omega
theorem mtU_ge {xs:List Nat} {f a:Nat}:∀k n,n≤k→(∀j,j<n→xs.getD (f+j) 0=xs.getD (a+j) 0)→n≤mtU xs f a k
 | 0,n,h,_=>by omega
 | k+1,n,h,he=>by
  rw[mtU];by_cases hn:n=k+1
  ·have h1:=mtU_ge k k (zw8 _) (fun j hj=>he j (by omega))
   have h2:=mtU_le xs f a k;rw[if_pos ⟨by omega,he k (by omega)⟩];omega
  ·have h1:=mtU_ge k n (by omega) he
   split<;>omega
theorem mtU_eq {xs:List Nat} {f a:Nat}:∀k j,j<mtU xs f a k→xs.getD (f+j) 0=xs.getD (a+j) 0
 | 0,j,h=>by rw[mtU]at h;omega
 | k+1,j,h=>by
  rw[mtU]at h
  split at h
  ·rename_i hc
   by_cases hj:j=k
   ·rw[hj];exact hc.2
   ·exact mtU_eq k j (by rw[hc.1];omega)
  ·exact mtU_eq k j h
def mt (xs:List Nat) (f a:Nat):Nat:=mtU xs f a (min 66 (xs.length-a))
theorem mt_le (xs:List Nat) (f a:Nat):mt xs f a≤min 66 (xs.length-a):=mtU_le _ _ _ _
theorem mt_most {xs:List Nat} {f a n:Nat} (hn:n=min 66 (xs.length-a)) (h:∀j,j<n→xs.getD (f+j) 0=xs.getD (a+j) 0):mt xs f a=n:=by
 have h1:=mtU_ge (min 66 (xs.length-a)) n (by omega) h;have h2:=mt_le xs f a;unfold mt at h2 ⊢;omega
theorem mt_stop {xs:List Nat} {f a n:Nat} (hn:n≤min 66 (xs.length-a)) (h:∀j,j<n→xs.getD (f+j) 0=xs.getD (a+j) 0) (hne:xs.getD (f+n) 0≠xs.getD (a+n) 0):mt xs f a=n:=by
 have h1:=mtU_ge (min 66 (xs.length-a)) n hn h;have h2:¬n<mtU xs f a (min 66 (xs.length-a)):=fun h'=>hne (mtU_eq _ _ h');unfold mt;omega
def pick (xs:List Nat) (a:Nat) (s:Nat × Nat) (f:Nat):Nat × Nat:=if s.2<mt xs f a then(a-f,mt xs f a)else s
def scan (xs:List Nat) (a:Nat) (zs:List Nat):Nat × Nat:=zs.foldl (pick xs a) (0,0)
def mask (s:Nat × Nat):Nat × Nat:=if s.2=3∧128<s.1 then(0,0)else s
def bst (xs:List Nat) (a:Nat):Nat × Nat:=if a+3≤xs.length then mask (scan xs a (seen xs a (key xs a)).reverse)else(0,0)
theorem scan_snoc (xs:List Nat) (a:Nat) (zs:List Nat) (f:Nat):scan xs a (zs++[f])=pick xs a (scan xs a zs) f:=by simp[scan]
theorem scan_most {xs:List Nat} {a:Nat}:∀(l:List Nat) (s:Nat × Nat),s.2=min 66 (xs.length-a)→l.foldl (pick xs a) s=s
 | [],s,h=>rfl
 | f::l,s,h=>by
  have h1:=mt_le xs f a;rw[List.foldl_cons,show pick xs a s f=s from if_neg (by omega)];exact scan_most l s h
theorem scan_app {xs:List Nat} {a:Nat} {zs l:List Nat} (h:(scan xs a zs).2=min 66 (xs.length-a)):scan xs a (zs++l)=scan xs a zs:=by
 unfold scan at h ⊢;rw[List.foldl_append];exact scan_most l _ h
theorem scan_le {xs:List Nat} {a:Nat} (zs:List Nat) (hz:∀f∈zs,a≤f+4096):(scan xs a zs).1≤4096∧(scan xs a zs).2≤66:=by
 have:∀(l:List Nat) (s:Nat × Nat),s.1≤4096→s.2≤66→(∀f∈l,a≤f+4096)→(l.foldl (pick xs a) s).1≤4096∧(l.foldl (pick xs a) s).2≤66:=by
  intro l
  induction l with
  | nil=>intro s h1 h2 _;exact⟨h1,h2⟩
  | cons f l ih=>
   intro s h1 h2 h3;rw[List.foldl_cons];have hm:=mt_le xs f a;have hf:=h3 f (List.mem_cons_self);apply ih
   ·unfold pick;split
    ·show a-f≤4096;omega
    ·exact h1
   ·unfold pick;split
    ·show mt xs f a≤66;omega
    ·exact h2
   ·exact fun g hg=>h3 g (List.mem_cons_of_mem _ hg)
 exact this zs (0,0) (by simp) (by simp) hz
theorem rev_drop {zs:List Nat} {k:Nat} (h:k<zs.length):(zs.drop k).reverse=(zs.drop (k+1)).reverse++[zs.getD k 0]:=by
 rw[zw20 h,List.reverse_cons,zw5,zw6 h];rfl
theorem rev_take (zs:List Nat) (k:Nat):zs.reverse=(zs.drop k).reverse++(zs.take k).reverse:=by
 rw[←List.reverse_append,List.take_append_drop]
theorem bs_cell {w:World} {b o n j:Nat} {xs:List Nat} (h:Bs w (some ⟨b,o,none⟩) n xs) (hj:j<n):w.cell? ⟨b,o+j,none⟩=some (.int .u8 (xs.getD j 0:Nat)):=by
 obtain⟨b',o',e,_,hc⟩:=h.2.2 (by omega);obtain⟨rfl,rfl,_⟩:=Addr.mk.inj (zw13 e);exact hc j hj
def BPost2 (w:World) (s:Nat × Nat) (e:Ending) (w':World):Prop:=e= .returned (.tuple #[.int .i64 (s.1:Int),.int .i64 (s.2:Int)])∧Ext w w'
def BRel (w:World) (xs:List Nat) (p:Nat) (zs:List Nat) (bv lv iv:Value) (wr:World):Prop:=
 ∃k:Nat,k≤zs.length∧iv= .int .i64 ((k:Int)-1)∧bv= .int .i64 ((scan xs p (zs.drop k).reverse).1:Nat)∧lv= .int .i64 ((scan xs p (zs.drop k).reverse).2:Nat)∧Ext w wr
def NRel2 (w:World) (xs:List Nat) (p f most:Nat) (nv:Value) (wr:World):Prop:=
 ∃n:Nat,n≤most∧nv= .int .i64 (n:Int)∧(∀j,j<n→xs.getD (f+j) 0=xs.getD (p+j) 0)∧Ext w wr
theorem best (A:Option Addr) (N c p base b:Nat) (xs:List Nat) (M:Nat→Option Value) (w:World) (hB:Bs w A N xs) (hG:Groups w base 3 b M (seen xs p)) (hp:p<N) (hN:N≤1000000):
  Calls Tryz.prog 120 #[.slice A N c,.int .i64 (p:Int),.map (some b)] w (BPost2 w (bst xs p)):=by
 have hxl:xs.length=N:=hB.1;obtain⟨bb,oo,rfl,_,_⟩:=hB.2.2 (by omega);obtain⟨R,hR⟩:∃R,R=bst xs p:=⟨_,rfl⟩;rw[←hR];have HR:=zh hR;clear hR;have HB:=zh hB;have HG:=zh hG;have HXL:=zh hxl;clear hB hG hxl;go_enter Tryz.func120,Tryz.ntmps120;go_wp2_with fail
 go_step3
 go_wp2_with fail;by_cases h3:p+3≤N
 ·refine(three_yes _ N c p xs _ HB.out hN h3).mono ?_
  rintro e w1 ⟨rfl,b1⟩;have HG1:=zh (HG.out.ext b1);have HE1:=zh b1;have HB1:=zh (HB.out.ext b1);have HRB:Hid (R=mask (scan xs p (seen xs p (key xs p)).reverse)):=zh (by rw[HR.out];exact if_pos (by rw[HXL.out];exact h3));have HSM:=zh (fun f (h:f∈seen xs p (key xs p))=>seen_mem h);have HKI:=zh (fun f=>(key_inj HB.out.2.1 (p:=f) (q:=p)).1);have hn16:=seen_len xs p (key xs p);clear b1;rcases HG1.out.look (key xs p)with ⟨hv,hs0⟩ | ⟨hv,hs0,hsl⟩
  ·have hrun:=run_look (P:=Tryz.prog) HG1.out.map Tryz.underlying187 Tryz.underlying53 (zeroRow w1) (key xs p)
   rw[hv]at hrun;rw[hs0]at HRB;clear hv hs0 HSM hn16;generalize key xs p=k1 at*;obtain⟨mo,hmo⟩:∃mo,mo=min 66 (N-p):=⟨_,rfl⟩;have hmo1:mo≤66:=by omega
   have hmo2:3≤mo:=by omega
   have hmo3:p+mo≤N:=by omega
   go_upto_region 5 with fail
   go_cut [11] (fun mv wx=>mv= .int .i64 (mo:Int)∧w1=wx)
   case first=>
    by_cases hm:66≤N-p
    ·have hm1:(66:Int)≤(N:Int)-(p:Int):=by omega
     go_wp2_with fail;go_meet;exact⟨int_eq (by omega),rfl⟩
    ·have hm1:(N:Int)-(p:Int)<66:=by omega
     go_wp2_with fail;go_meet;exact⟨int_eq (by omega),rfl⟩
   case rest=>
   obtain⟨rfl,rfl⟩:=hcut;have HMO:=zh hmo;clear hmo hrun;go_wp2_with fail
   go_step3
   go_wp2_with fail
   go_loopw [12,13,14] (fun bv lv iv wr=>bv= .int .i64 0∧lv= .int .i64 0∧iv= .int .i64 (-1)∧Ext w wr) (fun _ _ iv wr=>(intOf iv+1).toNat)
   case atStart=>exact⟨rfl,rfl,rfl,HE1.out⟩
   case round=>
    obtain⟨rfl,rfl,rfl,hE⟩:=hrel;have HE:=zh hE;clear hE;go_wp2_with fail;rw[Exit.noGoto_ret]
    go_ret2
    exact⟨by rw[HRB.out];rfl,HE.out⟩
  ·obtain⟨g,o,cap,hve,hc1,hc2,hgb⟩:=hsl.shape
   have hrun:=run_look (P:=Tryz.prog) HG1.out.map Tryz.underlying187 Tryz.underlying53 (zeroRow w1) (key xs p);rw[hve]at hrun hsl;clear hv hve hs0;generalize hzs:seen xs p (key xs p)=zs at*;generalize hk1:key xs p=k1 at*;have HK1:=zh hk1;have HSL:=zh hsl;clear hk1 hzs hsl;obtain⟨mo,hmo⟩:∃mo,mo=min 66 (N-p):=⟨_,rfl⟩;have hmo1:mo≤66:=by omega
   have hmo2:3≤mo:=by omega
   have hmo3:p+mo≤N:=by omega
   go_upto_region 5 with fail
   go_cut [11] (fun mv wx=>mv= .int .i64 (mo:Int)∧w1=wx)
   case first=>
    by_cases hm:66≤N-p
    ·have hm1:(66:Int)≤(N:Int)-(p:Int):=by omega
     go_wp2_with fail;go_meet;exact⟨int_eq (by omega),rfl⟩
    ·have hm1:(N:Int)-(p:Int)<66:=by omega
     go_wp2_with fail;go_meet;exact⟨int_eq (by omega),rfl⟩
   case rest=>
   obtain⟨rfl,rfl⟩:=hcut;have HMO:=zh hmo;clear hmo hrun;go_wp2_with fail
   go_step3
   go_wp2_with fail
   go_loopw [12,13,14] (fun bv lv iv wr=>BRel w1 xs p zs bv lv iv wr) (fun _ _ iv wr=>(intOf iv+1).toNat)
   case atStart=>exact⟨zs.length,zw8 _,rfl,by rw[List.drop_length];rfl,by rw[List.drop_length];rfl,zxr _⟩
   case round=>
    obtain⟨k,hk,rfl,rfl,rfl,hE⟩:=hrel;have HE:=zh hE;clear hE;have hsl2:=scan_le (xs:=xs) (a:=p) (zs.drop k).reverse (fun f hf=>(HSM.out f (List.mem_of_mem_drop (List.mem_reverse.1 hf))).2.1);obtain⟨B,L,hBL⟩:∃B L,scan xs p (zs.drop k).reverse=(B,L):=⟨_,_,rfl⟩;rw[hBL]at hsl2 ⊢;simp only at hsl2 ⊢;obtain⟨hB4,hL6⟩:=hsl2;have HSC:=zh hBL;clear hBL
    cases k with
    | zero=>
     have HRF:Hid (R=mask (B,L)):=zh (by rw[HRB.out,←HSC.out,zw28]);simp only[Int.ofNat_zero,Int.zero_sub];by_cases hL:L=3
     ·have z1:((L:Int)==3)=true:=beq_iff_eq.2 (by omega)
      by_cases hBk:128<B
      ·have z2:(128:Int)<(B:Int):=by omega
       have HRZ:Hid (R=(0,0)):=zh (by rw[HRF.out];exact if_pos ⟨hL,hBk⟩);clear hL;go_wp2_with fail
       try rw[Exit.noGoto_ret]
       go_ret2
       exact⟨by rw[HRZ.out];rfl,zxt HE1.out HE.out⟩
      ·have z2:¬(128:Int)<(B:Int):=by omega
       have HRZ:Hid (R=(B,L)):=zh (by rw[HRF.out];exact if_neg (fun h=>hBk h.2));clear hL;go_wp2_with fail
       try rw[Exit.noGoto_ret]
       go_ret2
       exact⟨by rw[HRZ.out];rfl,zxt HE1.out HE.out⟩
     ·have z1:((L:Int)==3)=false:=zw12.2 (by omega)
      have HRZ:Hid (R=(B,L)):=zh (by rw[HRF.out];exact if_neg (fun h=>hL h.1));clear hL;go_wp2_with fail
      try rw[Exit.noGoto_ret]
      go_ret2
      exact⟨by rw[HRZ.out];rfl,zxt HE1.out HE.out⟩
    | succ k=>
     have hkl:k<zs.length:=hk;have hfm:zs.getD k 0∈zs:=by rw[zw5,zw6 hkl];exact zw25 _
     obtain⟨f1,f2,f3,f4⟩:=HSM.out _ hfm;have c0:=(HSL.out.ext HE.out).cells k hkl;have f0:=(HSL.out.ext HE.out).frozen k hkl;have k0:(0:Int)≤((k+1:Nat):Int)-1:=by omega
     have k1':((k+1:Nat):Int)-1<(zs.length:Int):=by omega
     have k2:(((k+1:Nat):Int)-1).toNat=k:=by omega
     have hki:=HKI.out (zs.getD k 0) f4;obtain⟨f,hf⟩:∃f,f=zs.getD k 0:=⟨_,rfl⟩;rw[←hf]at f1 f2 f3 f4 c0 hki;have HF:=zh hf;have HKE:=zh hki;clear hf hfm hki f4;have k3:¬(4096:Int)<(p:Int)-(f:Int):=by omega
     go_wp2_with fail
     go_loopw [16] (fun nv wr2=>NRel2 w1 xs p f (mo) nv wr2) (fun nv wr2=>66-(intOf nv).toNat)
     case atStart=>exact⟨3,by omega,rfl,fun j hj=>by
      obtain⟨a0,a1,a2⟩:=HKE.out;rcases(show j=0∨j=1∨j=2 by omega)with rfl | rfl | rfl
      ·simpa using a0
      ·exact a1
      ·exact a2,HE.out⟩
     case round=>
      obtain⟨n,hn,rfl,hj,hE2⟩:=hrel;have HJ:=zh hj;have HE2:=zh hE2;have hn66:n≤66:=by omega
      clear hj hE2;go_wp2_with fail;have hE3:∀m,Ext w1 (wr.drewN m):=fun m=>ext_drewN HE2.out m;by_cases hlt:n<mo
      ·have z0:(n:Int)<(mo:Int):=by omega
       have qa:=bs_cell (HB1.out.ext HE2.out) (j:=f+n) (by omega);have qb:=bs_cell (HB1.out.ext HE2.out) (j:=p+n) (by omega);have HST:=zh (fun h=>mt_stop (xs:=xs) (f:=f) (a:=p) (n:=n) (by rw[HXL.out,←HMO.out];exact hn) HJ.out h);have s1:(0:Int)≤(f:Int)+(n:Int):=by omega
       have s2:(f:Int)+(n:Int)<(N:Int):=by omega
       have s3:((f:Int)+(n:Int)).toNat=f+n:=by omega
       have s4:(0:Int)≤(p:Int)+(n:Int):=by omega
       have s5:(p:Int)+(n:Int)<(N:Int):=by omega
       have s6:((p:Int)+(n:Int)).toNat=p+n:=by omega
       by_cases heq:xs.getD (f+n) 0=xs.getD (p+n) 0
       ·have HJ2:Hid (∀j,j<n+1→xs.getD (f+j) 0=xs.getD (p+j) 0):=zh (fun j hj=>by
         by_cases h:j=n
         ·rw[h];exact heq
         ·exact HJ.out j (by omega))
        generalize xs.getD (f+n) 0=x at*;generalize xs.getD (p+n) 0=y at*;have z5:((x:Int)==(y:Int))=true:=beq_iff_eq.2 (by omega)
        go_quiet (fail)
        clear s1 s2 s3 s4 s5 s6;go_wp2_with fail;exact⟨⟨n+1,by omega,by go_num,HJ2.out,hE3 _⟩,by simp only[intOf];omega⟩
       ·have hnm:=HST.out heq
        clear HST;generalize xs.getD (f+n) 0=x at*;generalize xs.getD (p+n) 0=y at*;have z5:((x:Int)==(y:Int))=false:=zw12.2 (by omega)
        go_quiet (fail)
        clear s1 s2 s3 s4 s5 s6 hlt qa qb;have HNM:Hid (mt xs f p=n):=zh hnm;clear hnm;have HPK:Hid (scan xs p (zs.drop k).reverse=if L<n then(p-f,n)else(B,L)):=zh (by rw[rev_drop hkl,←HF.out,scan_snoc,HSC.out];unfold pick;rw[HNM.out]);have HE3:=zh hE3;clear hE3;by_cases hle:n≤L
        ·have z1:(n:Int)≤(L:Int):=by omega
         go_wp2_with fail
         go_roundw
         case rel=>exact⟨k,by omega,by go_num,by rw[HPK.out,if_neg (by omega)],by rw[HPK.out,if_neg (by omega)],(HE3.out _)⟩
         case measure=>simp only[intOf];omega
        ·have z1:¬(n:Int)≤(L:Int):=by omega
         have z3:((p:Int)-(f:Int))=((p-f:Nat):Int):=by omega
         by_cases hmost:n=mo
         ·have z2:((n:Int)==(mo:Int))=true:=beq_iff_eq.2 (by omega)
          obtain⟨B2,hB2⟩:∃B2,B2=p-f:=⟨_,rfl⟩;have z4:((p:Int)-(f:Int))=(B2:Int):=by omega
          have hB3:B2≤4096:=by omega
          have HRF:Hid (R=mask (B2,n)):=zh (by
           rw[HRB.out,rev_take zs k,scan_app (by rw[HPK.out,if_pos (by omega),HXL.out,←HMO.out];exact hmost),HPK.out,if_pos (by omega),hB2])
          clear z3 hB2 hmost;by_cases hL:n=3
          ·have y1:((n:Int)==3)=true:=beq_iff_eq.2 (by omega)
           by_cases hBk:128<B2
           ·have y2:(128:Int)<(p:Int)-(f:Int):=by omega
            have HRZ:Hid (R=(0,0)):=zh (by rw[HRF.out];exact if_pos ⟨hL,hBk⟩);clear hL;go_wp2_with fail
            try rw[Exit.noGoto_ret]
            go_ret2
            exact⟨by rw[HRZ.out];rfl,zxt HE1.out (HE3.out _)⟩
           ·have y2:¬(128:Int)<(p:Int)-(f:Int):=by omega
            have HRZ:Hid (R=(B2,n)):=zh (by rw[HRF.out];exact if_neg (fun h=>hBk h.2));have HZ4:=zh z4;clear z4 hL;go_wp2_with fail
            try rw[Exit.noGoto_ret]
            go_ret2
            exact⟨by rw[HRZ.out,HZ4.out];rfl,zxt HE1.out (HE3.out _)⟩
          ·have y1:((n:Int)==3)=false:=zw12.2 (by omega)
           have HRZ:Hid (R=(B2,n)):=zh (by rw[HRF.out];exact if_neg (fun h=>hL h.1));have HZ4:=zh z4;clear z4 hL;go_wp2_with fail
           try rw[Exit.noGoto_ret]
           go_ret2
           exact⟨by rw[HRZ.out,HZ4.out];rfl,zxt HE1.out (HE3.out _)⟩
         ·have z2:((n:Int)==(mo:Int))=false:=zw12.2 (by omega)
          have HZ3:=zh z3;clear z3 hmost;go_wp2_with fail
          go_roundw
          case rel=>exact⟨k,by omega,by go_num,by rw[HPK.out,if_pos (by omega),HZ3.out],by rw[HPK.out,if_pos (by omega)],(HE3.out _)⟩
          case measure=>simp only[intOf];omega
      ·have z0:decide ((n:Int)<(mo:Int))=false:=zw14 (by omega)
       have hnm:=mt_most (xs:=xs) (f:=f) (a:=p) (n:=n) (by rw[HXL.out,←HMO.out];omega) HJ.out
       go_quiet (fail)
       have HNM:Hid (mt xs f p=n):=zh hnm;clear hnm;have HPK:Hid (scan xs p (zs.drop k).reverse=if L<n then(p-f,n)else(B,L)):=zh (by rw[rev_drop hkl,←HF.out,scan_snoc,HSC.out];unfold pick;rw[HNM.out]);have HE3:=zh hE3;clear hE3;by_cases hle:n≤L
       ·have z1:(n:Int)≤(L:Int):=by omega
        go_wp2_with fail
        go_roundw
        case rel=>exact⟨k,by omega,by go_num,by rw[HPK.out,if_neg (by omega)],by rw[HPK.out,if_neg (by omega)],(HE3.out _)⟩
        case measure=>simp only[intOf];omega
       ·have z1:¬(n:Int)≤(L:Int):=by omega
        have z3:((p:Int)-(f:Int))=((p-f:Nat):Int):=by omega
        by_cases hmost:n=mo
        ·have z2:((n:Int)==(mo:Int))=true:=beq_iff_eq.2 (by omega)
         obtain⟨B2,hB2⟩:∃B2,B2=p-f:=⟨_,rfl⟩;have z4:((p:Int)-(f:Int))=(B2:Int):=by omega
         have hB3:B2≤4096:=by omega
         have HRF:Hid (R=mask (B2,n)):=zh (by
          rw[HRB.out,rev_take zs k,scan_app (by rw[HPK.out,if_pos (by omega),HXL.out,←HMO.out];exact hmost),HPK.out,if_pos (by omega),hB2])
         clear z3 hB2 hmost;by_cases hL:n=3
         ·have y1:((n:Int)==3)=true:=beq_iff_eq.2 (by omega)
          by_cases hBk:128<B2
          ·have y2:(128:Int)<(p:Int)-(f:Int):=by omega
           have HRZ:Hid (R=(0,0)):=zh (by rw[HRF.out];exact if_pos ⟨hL,hBk⟩);clear hL;go_wp2_with fail
           try rw[Exit.noGoto_ret]
           go_ret2
           exact⟨by rw[HRZ.out];rfl,zxt HE1.out (HE3.out _)⟩
          ·have y2:¬(128:Int)<(p:Int)-(f:Int):=by omega
           have HRZ:Hid (R=(B2,n)):=zh (by rw[HRF.out];exact if_neg (fun h=>hBk h.2));have HZ4:=zh z4;clear z4 hL;go_wp2_with fail
           try rw[Exit.noGoto_ret]
           go_ret2
           exact⟨by rw[HRZ.out,HZ4.out];rfl,zxt HE1.out (HE3.out _)⟩
         ·have y1:((n:Int)==3)=false:=zw12.2 (by omega)
          have HRZ:Hid (R=(B2,n)):=zh (by rw[HRF.out];exact if_neg (fun h=>hL h.1));have HZ4:=zh z4;clear z4 hL;go_wp2_with fail
          try rw[Exit.noGoto_ret]
          go_ret2
          exact⟨by rw[HRZ.out,HZ4.out];rfl,zxt HE1.out (HE3.out _)⟩
        ·have z2:((n:Int)==(mo:Int))=false:=zw12.2 (by omega)
         have HZ3:=zh z3;clear z3 hmost;go_wp2_with fail
         go_roundw
         case rel=>exact⟨k,by omega,by go_num,by rw[HPK.out,if_pos (by omega),HZ3.out],by rw[HPK.out,if_pos (by omega)],(HE3.out _)⟩
         case measure=>simp only[intOf];omega
 ·refine(three_no _ N c (p:Int) _ hN (by omega) (by omega) (.inr (by omega))).mono ?_
  rintro e w3 ⟨rfl,rfl⟩;have HRB:Hid (R=(0,0)):=zh (by rw[HR.out];exact if_neg (by rw[HXL.out];exact h3));go_wp2_with fail;rw[Exit.noGoto_ret]
  go_ret2
  exact⟨by rw[HRB.out];rfl,zxr _⟩
def litT (l:List Nat):List Nat:=
 if h:l=[]then []else(2*(min 64 l.length-1))::(l.take (min 64 l.length)++litT (l.drop (min 64 l.length)))
termination_by l.length
decreasing_by
 have:0<l.length:=List.length_pos_iff.2 h;rw[zw1];omega
theorem litT_nil:litT []=[]:=by rw[litT];simp
theorem litT_step {l:List Nat} (h:0<l.length):litT l=(2*(min 64 l.length-1))::(l.take (min 64 l.length)++litT (l.drop (min 64 l.length))):=by
 rw[litT,dif_neg (List.length_pos_iff.1 h)]
theorem litT_len:∀(n:Nat) (l:List Nat),l.length=n→(litT l).length=l.length+(l.length+63)/64:=by
 intro n
 induction n using Nat.strongRecOn with
 | ind n ih=>
  intro l hl;by_cases h:0<l.length
  ·rw[litT_step h,zw3,zw0,zw2,ih (l.drop (min 64 l.length)).length (by rw[zw1];omega) _ rfl,zw1]
   omega
  ·obtain rfl:l=[]:=zw19 (by omega)
   rw[litT_nil];rfl
theorem litT_small:∀(n:Nat) (l:List Nat),l.length=n→(∀c∈l,c<256)→∀c∈litT l,c<256:=by
 intro n
 induction n using Nat.strongRecOn with
 | ind n ih=>
  intro l hl hs;by_cases h:0<l.length
  ·rw[litT_step h]
   intro c hc;rcases zw30.1 hc with rfl | hc
   ·omega
   ·rcases zw16.1 hc with hc | hc
    ·exact hs c (List.mem_of_mem_take hc)
    ·exact ih (l.drop (min 64 l.length)).length (by rw[zw1];omega) _ rfl (fun c hc=>hs c (List.mem_of_mem_drop hc)) c hc
  ·obtain rfl:l=[]:=zw19 (by omega)
   rw[litT_nil];intro c hc;cases hc
def Good (xs:List Nat) (a:Nat) (s:Nat × Nat):Prop:=
 s=(0,0)∨(3≤s.2∧s.2≤66∧a+s.2≤xs.length∧1≤s.1∧s.1≤4096∧s.1≤a∧∀j,j<s.2→xs.getD (a-s.1+j) 0=xs.getD (a+j) 0)
theorem pick_good {xs:List Nat} {a f:Nat} {s:Nat × Nat} (h:Good xs a s) (hf:f<a) (hw:a≤f+4096) (hm:3≤mt xs f a):Good xs a (pick xs a s f):=by
 unfold pick
 split
 ·have h1:=mt_le xs f a
  refine .inr ⟨hm,by simp only;omega,by simp only;omega,by simp only;omega,by simp only;omega,by simp only;omega,fun j hj=>?_⟩;simp only at hj ⊢;rw[show a-(a-f)+j=f+j from by omega];exact mtU_eq _ j hj
 ·exact h
theorem scan_good {xs:List Nat} {a:Nat}:∀(l:List Nat) (s:Nat × Nat),Good xs a s→(∀f∈l,f<a∧a≤f+4096∧3≤mt xs f a)→Good xs a (l.foldl (pick xs a) s)
 | [],s,h,_=>h
 | f::l,s,h,hl=>by
  obtain⟨h1,h2,h3⟩:=hl f List.mem_cons_self;exact scan_good l _ (pick_good h h1 h2 h3) (fun g hg=>hl g (List.mem_cons_of_mem _ hg))
theorem seen_mt {xs:List Nat} (hx:∀j,xs.getD j 0<256) {a f:Nat} (ha:a+3≤xs.length) (h:f∈seen xs a (key xs a)):f<a∧a≤f+4096∧3≤mt xs f a:=by
 obtain⟨h1,h2,h3,h4⟩:=seen_mem h;obtain⟨e0,e1,e2⟩:=(key_inj hx).1 h4;refine⟨h1,h2,mtU_ge _ 3 (by omega) (fun j hj=>?_)⟩;rcases(show j=0∨j=1∨j=2 by omega)with rfl | rfl | rfl
 ·simpa using e0
 ·exact e1
 ·exact e2
theorem bst_good {xs:List Nat} (hx:∀j,xs.getD j 0<256) (a:Nat):Good xs a (bst xs a):=by
 unfold bst;by_cases ha:a+3≤xs.length
 ·rw[if_pos ha]
  have h:=scan_good (xs:=xs) (a:=a) (seen xs a (key xs a)).reverse (0,0) (.inl rfl) (fun f hf=>seen_mt hx ha (List.mem_reverse.1 hf));unfold mask
  split
  ·exact .inl rfl
  ·exact h
 ·rw[if_neg ha];exact .inl rfl
def pk (xs:List Nat) (told a:Nat):List Nat:=
 if h:a<xs.length then
  if h2:(bst xs a).2=0 then pk xs told (a+1)
  else litT ((xs.drop told).take (a-told))++((2*((bst xs a).2-3)+1)::(vb ((bst xs a).1-1)++pk xs (a+(bst xs a).2) (a+(bst xs a).2)))
 else litT (xs.drop told)
termination_by xs.length-a
decreasing_by all_goals omega
theorem pk_end {xs:List Nat} {told a:Nat} (h:xs.length≤a):pk xs told a=litT (xs.drop told):=by rw[pk,dif_neg (by omega)]
theorem pk_lit {xs:List Nat} {told a:Nat} (h:a<xs.length) (h2:(bst xs a).2=0):pk xs told a=pk xs told (a+1):=by rw[pk,dif_pos h,dif_pos h2]
theorem pk_match {xs:List Nat} {told a:Nat} (h:a<xs.length) (h2:¬(bst xs a).2=0):pk xs told a=litT ((xs.drop told).take (a-told))++((2*((bst xs a).2-3)+1)::(vb ((bst xs a).1-1)++pk xs (a+(bst xs a).2) (a+(bst xs a).2))):=by
 conv=>lhs;rw[pk]
 rw[dif_pos h,dif_neg h2]
open Go.ChangeShapes Go.WideShapes Go.ChangeAt Go.RowKit Go.Shelf
structure Chg (base bt bo:Nat) (w w':World):Prop where
 os:w'.os=w.os
 tape:w'.tape=w.tape
 output:w'.output=w.output
 size:w.heap.size≤w'.heap.size
 block:∀k,k<w.heap.size→k≠bt→k≠bo→(k<base∨∀cs fr,w.heap[k]? ≠some (Obj.cells cs 5 fr))→w'.heap[k]? =w.heap[k]?
section
variable {base bt bo : Nat} {a b c w w' : World}
theorem Chg.refl (base bt bo:Nat) (w:World):Chg base bt bo w w:=⟨rfl,rfl,rfl,zw8 _,fun _ _ _ _ _=>rfl⟩
theorem Chg.trans (h:Chg base bt bo a b) (k:Chg base bt bo b c):Chg base bt bo a c:=
 ⟨k.os.trans h.os,k.tape.trans h.tape,k.output.trans h.output,zw10 h.size k.size,fun i hi h1 h2 h3=>by
  have e:=h.block i hi h1 h2 h3;refine(k.block i (zw9 hi h.size) h1 h2 ?_).trans e;rw[e];exact h3⟩
theorem Chg.of_ext (e:Ext a b):Chg base bt bo a b:=⟨e.os,e.tape,e.output,e.size,fun k hk _ _ _=>e.block k hk⟩
theorem own_cells {e:TypeId} {size n:Nat} {v:Value} {xs:List Value} (h:w.ownsRow base e size v n xs):∀k,v.ownBlock=some k→base≤k∧∃cs fr,w.heap[k]? =some (Obj.cells cs e fr):=by
 intro k hk;rcases h.2 with ⟨rfl,_⟩ | ⟨g,cap,cur,rfl,hb,hg,_⟩
 ·cases hk
 ·obtain rfl:=zw13 hk
  exact⟨hb,cur,_,hg⟩
theorem Chg.of_row {v:Value} {n:Nat} {xs:List Value} (hr:a.ownsRow base 5 1 v n xs) (g:a.grownBy b v.ownBlock):Chg base bt bo a b:=
 ⟨g.os,g.tape,g.output,g.size,fun k hk _ _ h=>g.block k hk (fun e=>by
  obtain⟨h1,cs,fr,h2⟩:=own_cells hr k e.symm;rcases h with h | h
  ·omega
  ·exact h cs fr h2)⟩
theorem Chg.of_set (B:Nat) (v:Value) (hB:B=bt∨B=bo):Chg base bt bo a (a.setCell ⟨B,0,none⟩ v):=by
 have g:=grownBy_setCell' a B v;exact⟨g.os,g.tape,g.output,g.size,fun k hk h1 h2 _=>g.block k hk (fun e=>by
  obtain rfl:=zw13 e;rcases hB with h | h
  ·exact h1 h
  ·exact h2 h)⟩
theorem Chg.old (h:Chg base bt bo b c) (e:Ext a b) (h1:a.heap.size≤bt) (h2:a.heap.size≤bo) (h3:a.heap.size≤base):Ext a c:=
 ⟨h.os.trans e.os,h.tape.trans e.tape,h.output.trans e.output,zw10 e.size h.size,fun k hk=>
  (h.block k (zw9 hk e.size) (by omega) (by omega) (.inl (by omega))).trans (e.block k hk)⟩
theorem Chg.bs {A:Option Addr} {n:Nat} {xs:List Nat} (h:Chg base bt bo w w') (hB:Bs w A n xs) (hA:∀ad,A=some ad→ad.block<bt∧ad.block<bo∧ad.block<base):Bs w' A n xs:=by
 refine⟨hB.1,hB.2.1,fun h0=>?_⟩;obtain⟨g,o,rfl,hg,hc⟩:=hB.2.2 h0;refine⟨g,o,rfl,zw9 hg h.size,fun j hj=>?_⟩;obtain⟨h1,h2,h3⟩:=hA _ rfl;simp only at h1 h2 h3;rw[←hc j hj];exact World.cell?_of_block (h.block g hg (by omega) (by omega) (.inl h3))
end
structure Outs (w:World) (base bt bo bb told:Nat) (v sl:Value) (ys:List Nat):Prop where
 t:Boxed w bt 3 (.int .i64 (told:Int))
 o:Boxed w bo 22 v
 b:Boxed w bb 22 sl
 r:w.ownsRow base 5 1 v ys.length (c8 ys)
def Apart (base bt bo bb:Nat):Prop:=bt≠bo∧bt≠bb∧bo≠bb∧bt<base∧bo<base∧bb<base
section
variable {w w' : World} {base bt bo bb told : Nat} {v sl : Value} {ys : List Nat}
theorem Outs.ext (h:Outs w base bt bo bb told v sl ys) (e:Ext w w'):Outs w' base bt bo bb told v sl ys:=
 ⟨(e.block _ h.t.lt).trans h.t,(e.block _ h.o.lt).trans h.o,(e.block _ h.b.lt).trans h.b,own_ext h.r e⟩
theorem Outs.keep (h:Outs w base bt bo bb told v sl ys) (hA:Apart base bt bo bb) (e:Keep base w w'):Outs w' base bt bo bb told v sl ys:=by
 obtain⟨_,_,_,h1,h2,h3⟩:=hA;refine⟨(e.low.block _ h1).trans h.t,(e.low.block _ h2).trans h.o,(e.low.block _ h3).trans h.b,?_⟩;rcases h.r with ⟨hl,hq | ⟨g,cap,cur,hv,hb,hg,hr⟩⟩
 ·exact⟨hl,.inl hq⟩
 ·exact⟨hl,.inr ⟨g,cap,cur,hv,hb,(e.rows g _ _ hg).trans hg,hr⟩⟩
theorem Groups.chg {b:Nat} {M:Nat→Option Value} {F:Nat→List Nat} (hG:Groups w base 3 b M F) (ht:bt<base) (ho:bo<base) (h:Chg base bt bo w w'):Groups w' base 3 b M F:=by
 have key:∀k o,w.heap[k]? =some o→base≤k→(∀cs fr,o≠Obj.cells cs 5 fr)→w'.heap[k]? =w.heap[k]? :=by
  intro k o hk hb hne;exact h.block k (Array.getElem?_eq_some_iff.1 hk).1 (by omega) (by omega) (.inr (fun cs fr e=>by
   rw[hk]at e;exact hne cs fr (zw13 e)))
 obtain⟨es,cl,L,hb,hE,hF⟩:=hG.map;refine⟨⟨es,cl,L,(key b _ hb hG.at_ (fun cs fr e=>by cases e)).trans hb,hE,hF⟩,fun k=>?_,hG.apart,hG.at_⟩;rcases hG.row k with h1 | ⟨u,h1,h2,h3⟩
 ·exact .inl h1
 ·refine .inr ⟨u,h1,h2,?_⟩
  obtain⟨g,o,cap,cur,rfl,hbg,hh,r⟩:=h3;exact⟨g,o,cap,cur,rfl,hbg,(key g _ hh hbg (fun cs fr e=>by have:=(Obj.cells.inj e).2.1;revert this;decide)).trans hh,r⟩
theorem Outs.put (h:Outs w base bt bo bb told v sl ys) (hA:Apart base bt bo bb) {w2:World} {v':Value} {zs:List Nat} (ho:w2.ownsRow base 5 1 v' zs.length (c8 zs)) (hgr:w.grownBy w2 v.ownBlock):
  w2.cell? ⟨bo,0,none⟩=some v∧w2.frozen? ⟨bo,0,none⟩=false∧Outs (w2.setCell ⟨bo,0,none⟩ v') base bt bo bb told v' sl zs:=by
 obtain⟨h1,h2,h3,h4,h5,h6⟩:=hA;have nv:∀k,k<base→some k≠v.ownBlock:=fun k hk e=>by have:=(own_cells h.r k e.symm).1;omega
 have nv':∀k,k<base→v'.ownBlock≠some k:=fun k hk e=>by have:=(own_cells ho k e).1;omega
 have o2:=h.o.kept hgr (nv _ h5);refine⟨o2.cell,o2.frozen,⟨(h.t.kept hgr (nv _ h4)).other h1 v',o2.set v',(h.b.kept hgr (nv _ h6)).other (Ne.symm h3) v',ho.kept (grownBy_setCell' w2 bo v') (.inr (nv' _ h5))⟩⟩
theorem Outs.still (h:Outs w base bt bo bb told v sl ys) (hA:Apart base bt bo bb) {w2:World} (hgr:w.grownBy w2 v.ownBlock):w2.cell? ⟨bt,0,none⟩=some (.int .i64 (told:Int))∧w2.cell? ⟨bb,0,none⟩=some sl:=by
 obtain⟨h1,h2,h3,h4,h5,h6⟩:=hA;have nv:∀k,k<base→some k≠v.ownBlock:=fun k hk e=>by have:=(own_cells h.r k e.symm).1;omega
 exact⟨(h.t.kept hgr (nv _ h4)).cell,(h.b.kept hgr (nv _ h6)).cell⟩
theorem Outs.tell (h:Outs w base bt bo bb told v sl ys) (hA:Apart base bt bo bb) {m:Int} {n:Nat} (hm:m=(n:Int)):Outs (w.setCell ⟨bt,0,none⟩ (.int .i64 m)) base bt bo bb n v sl ys:=by
 subst hm;obtain⟨h1,h2,h3,h4,h5,h6⟩:=hA;have nv':∀k,k<base→v.ownBlock≠some k:=fun k hk e=>by have:=(own_cells h.r k e).1;omega
 exact⟨h.t.set _,h.o.other (Ne.symm h1) _,h.b.other (Ne.symm h2) _,h.r.kept (grownBy_setCell' w bt _) (.inr (nv' _ h4))⟩
end
def PutR (w:World) (G up:Nat) (sl:Value) (zs:List Nat) (w':World):Prop:=
 ∃v',Outs w' (G+3) (G+2) (G+1) G up v' sl zs∧Chg (G+3) (G+2) (G+1) w w'
def RunRel (w:World) (G up told:Nat) (sl:Value) (xs ys:List Nat) (wr:World):Prop:=
 ∃(t:Nat) (v:Value) (zs:List Nat),told≤t∧t≤up∧Outs wr (G+3) (G+2) (G+1) G t v sl zs∧zs++litT ((xs.drop t).take (up-t))=ys++litT ((xs.drop told).take (up-told))∧Chg (G+3) (G+2) (G+1) w wr
theorem lit_cut {xs:List Nat} {t up n:Nat} (ht:t<up) (hto:up≤xs.length) (hn:n=min 64 (up-t)):
  litT ((xs.drop t).take (up-t))=(2*(n-1))::((xs.drop t).take n++litT ((xs.drop (t+n)).take (up-(t+n)))):=by
 have hl:((xs.drop t).take (up-t)).length=up-t:=by rw[zw2,zw1];omega
 rw[litT_step (by omega),hl,←hn,List.take_take,show min n (up-t)=n from by omega,List.drop_take,zw31,show up-t-n=up-(t+n)from by omega]
theorem apart_of (G:Nat):Apart (G+3) (G+2) (G+1) G:=⟨by omega,by omega,by omega,by omega,by omega,by omega⟩
def SR (G t:Nat) (sl:Value) (w:World):Prop:=w.cell? ⟨G+2,0,none⟩=some (.int .i64 (t:Int))∧w.cell? ⟨G,0,none⟩=some sl
theorem hmx:Tryz.prog.follows .mixedOrders=true:=by kernel_rfl
theorem bs_part {w:World} {g o n:Nat} {xs:List Nat} (h:Bs w (some ⟨g,o,none⟩) n xs) (a m:Nat) (ham:a+m≤n):Bs w (some ⟨g,o+a,none⟩) m ((xs.drop a).take m):=by
 have hl:=h.1;refine⟨by rw[zw2,zw1];omega,fun j=>?_,fun hp=>?_⟩
 ·rcases Nat.lt_or_ge j m with hj | hj
  ·rw[zw5,List.getElem?_take_of_lt hj,List.getElem?_drop,←zw5];exact h.2.1 _
  ·rw[zw5,List.getElem?_eq_none (by rw[zw2];omega)];simp
 ·obtain⟨b,o',he,hlt,hc⟩:=h.2.2 (by omega)
  obtain⟨rfl,rfl⟩:b=g∧o'=o:=by cases he;exact⟨rfl,rfl⟩
  refine⟨b,o'+a,rfl,hlt,fun j hj=>?_⟩;have:=hc (a+j) (by omega);rw[←Nat.add_assoc]at this;rw[this,zw5,zw5,List.getElem?_take_of_lt hj,List.getElem?_drop]
theorem putRuns (G N c told up:Nat) (A:Option Addr) (xs ys:List Nat) (v:Value) (w:World) (hB:Bs w A N xs) (hAd:0<N→∀ad,A=some ad→ad.block<G) (hN:N≤1000000) (hc1:N≤c) (hc2:c≤9223372036854775807) (hO:Outs w (G+3) (G+2) (G+1) G told v (.slice A N c) ys) (ht:told≤up) (hto:up≤N) (hyl:ys.length≤100000000):
  Calls Tryz.prog 119 #[.int .i64 (up:Int),.pointer (some ⟨G+2,0,none⟩),.pointer (some ⟨G+1,0,none⟩),.pointer (some ⟨G,0,none⟩)] w fun e w'=>e= .returned (.tuple #[])∧PutR w G up (.slice A N c) (ys++litT ((xs.drop told).take (up-told))) w':=by
 have hxl:xs.length=N:=hB.1;have HB:=zh hB;have HAD:=zh hAd;have HO:=zh hO;have HXL:=zh hxl;have HAP:=zh (apart_of G);have hlt0:=litT_len _ ((xs.drop told).take (up-told)) rfl;have hlt1:((xs.drop told).take (up-told)).length≤1000000:=by rw[zw2,zw1];omega
 obtain⟨R,hR⟩:∃R,R=ys++litT ((xs.drop told).take (up-told)):=⟨_,rfl⟩;have hRl:R.length≤110000000:=by rw[hR,zw0];omega
 have HR:=zh hR;rw[←hR];obtain⟨i0,hi0,hz0,hz1,hz2⟩:=info_parts info8;have HI:=zh (And.intro hi0 (And.intro hz0 (And.intro hz1 hz2)));clear hi0 hz0 hz1 hz2;clear hB hAd hO hxl hlt0 hlt1 hR;go_enter Tryz.func119,Tryz.ntmps119;go_wp2_with fail
 go_loopw [5] (fun _ wr=>RunRel w G up told (.slice A N c) xs ys wr) (fun _ wr=>up-(intOf ((wr.cell? ⟨G+2,0,none⟩).getD undef)).toNat)
 case atStart=>exact⟨told,v,ys,zw8 _,ht,HO.out,rfl,Chg.refl _ _ _ _⟩
 case round=>
  obtain⟨t,u,zs,ht1,ht2,hO,hE,hC⟩:=hrel;rw[←HR.out]at hE;have c0:=hO.t.cell;have c1:=hO.o.cell;have c2:=hO.b.cell;have f0:=hO.t.frozen;have f1:=hO.o.frozen;have HO:=zh hO;have HE:=zh hE;have HC:=zh hC;clear hO hE hC;by_cases hlt:t<up
  ·obtain⟨n,hn⟩:∃n,n=min 64 (up-t):=⟨_,rfl⟩
   have hn1:1≤n:=by omega
   have hn2:n≤64:=by omega
   have hn3:t+n≤up:=by omega
   have HCUT:=zh (lit_cut (xs:=xs) hlt (by rw[HXL.out];exact hto) hn);have z0:(t:Int)<(up:Int):=by omega
   go_upto_region 1 with fail
   go_cut [5] (fun nv wx=>nv= .int .i64 (n:Int)∧wr=wx)
   case first=>
    by_cases hm:up-t≤64
    ·have hm1:(up:Int)-(t:Int)≤64:=by omega
     go_wp2_with fail;go_meet;exact⟨int_eq (by omega),rfl⟩
    ·have hm1:¬(up:Int)-(t:Int)≤64:=by omega
     go_wp2_with fail;go_meet;exact⟨int_eq (by omega),rfl⟩
   case rest=>
   obtain⟨rfl,rfl⟩:=hcut;have HN:=zh hn;clear hn;have hzl:zs.length≤110000000:=by
    have e:=congrArg List.length HE.out;rw[zw0]at e;omega
   obtain⟨m,hm⟩:∃m,m=2*(n-1):=⟨_,rfl⟩;have q0:(2:Int)*((n:Int)-1)=(m:Int):=by omega
   have hm1:m≤126:=by omega
   have HM:=zh hm;clear hm;have HO1:=zh (HO.out.ext (zxa (zxr wr) (.cells #[.int .u8 (m:Int)] 5)));have HSR:=zh (src_one wr m);have hzs:=HO1.out.t.lt;go_wp2_with (at_builtin;refine wpList_app_own rfl (.tmp 13) (.tmp 18) 22 22 rfl 5 i0 (.int .u8 0) 1 1 Tryz.underlying22 HI.out.1 HI.out.2.1 HI.out.2.2.1 HI.out.2.2.2 rfl (G+3) u _ zs.length (c8 zs) rfl rfl HO1.out.r [m].length (c8 [m]) HSR.out (by unfold maxLen;simp;omega) (by simp;omega) (by omega) ?_;intro v5 w5 hown5 hgr5;have hst:=Outs.put HO1.out HAP.out (zs:=zs++[m]) (by rw[zw0,c8_app];exact hown5) hgr5;obtain⟨A5,k5,rfl,_⟩:=own_shape hown5;obtain⟨hc5,hf5,hO5⟩:=hst;have HO5:=zh hO5;have HC5:=zh ((HC.out.trans (Chg.of_ext (zxa (zxr wr) _))).trans ((Chg.of_row HO1.out.r hgr5).trans (Chg.of_set (G+1) (.slice A5 (zs.length+[m].length) k5) (.inr rfl))));clear hown5 hgr5 hO5)
   have HO6:Hid (Outs (w5.setCell ⟨G+1,0,none⟩ (.slice A5 (zs.length+1) k5)) (G+3) (G+2) (G+1) G t (.slice A5 (zs.length+1) k5) (.slice A N c) (zs++[m])):=HO5;have HC6:Hid (Chg (G+3) (G+2) (G+1) w (w5.setCell ⟨G+1,0,none⟩ (.slice A5 (zs.length+1) k5))):=HC5;clear HO5 HC5 HO1 HSR hzs hc5 hf5;obtain⟨W1,hW1⟩:∃W,W=w5.setCell ⟨G+1,0,none⟩ (.slice A5 (zs.length+1) k5):=⟨_,rfl⟩;rw[←hW1]at HO6 HC6 ⊢;clear hW1;obtain⟨b,o,rfl,_,_⟩:=HB.out.2.2 (by omega);have d0:=HO6.out.t.cell;have d1:=HO6.out.o.cell;have d2:=HO6.out.b.cell;have g0:=HO6.out.t.frozen;have g1:=HO6.out.o.frozen;clear c0 c1 c2 f0 f1;have s1:IntKind.i64.wrap ((t:Int)+(n:Int))=(t:Int)+(n:Int):=by rw[IntKind.wrap_i64];omega
   have s2:(0:Int)≤(t:Int):=by omega
   have s3:(t:Int)≤(t:Int)+(n:Int):=by omega
   have s4:(t:Int)+(n:Int)≤(c:Int):=by omega
   have s5:((t:Int)+(n:Int)).toNat=t+n:=by omega
   have s6:¬c=t:=by omega
   obtain⟨q,hq⟩:∃q,q=zs++[m]++(xs.drop t).take n:=⟨_,rfl⟩;have HQ:=zh hq;clear hq
   go_cut [] (fun wx=>(∃v9,Outs wx (G+3) (G+2) (G+1) G t v9 (.slice (some ⟨b,o,none⟩) N c) q)∧Chg (G+3) (G+2) (G+1) w wx)
   case first=>
    refine zw38 (S:=SR G t (.slice (some ⟨b,o,none⟩) N c)) hmx ⟨d0,d2⟩ (fun _=>?_)
    (refine zw40 (i:=1) (v:=?_) rfl (by kernel_rfl) (by kernel_rfl) (by kernel_rfl) (fun _ _ _ h=>h) (Or.inl ⟨by rfl,?_⟩) (by assumption) ?_);rotate_left
    ·(intro w' hSw;obtain⟨t0,t2⟩:=hSw;go_simp;try with_reducible rfl)
    (refine zw40 (i:=2) (v:=?_) rfl (by kernel_rfl) (by kernel_rfl) (by kernel_rfl) (fun _ _ _ h=>h) (Or.inl ⟨by rfl,?_⟩) (by assumption) ?_);rotate_left
    ·(intro w' hSw;obtain⟨t0,t2⟩:=hSw;go_simp;try with_reducible rfl)
    (refine zw40 (i:=3) (v:=?_) rfl (by kernel_rfl) (by kernel_rfl) (by kernel_rfl) (fun _ _ _ h=>h) (Or.inl ⟨by rfl,?_⟩) (by assumption) ?_);rotate_left
    ·(intro w' hSw;obtain⟨t0,t2⟩:=hSw;go_simp;try with_reducible rfl)
    (refine zw40 (i:=4) (v:=?_) rfl (by kernel_rfl) (by kernel_rfl) (by kernel_rfl) (fun _ _ _ h=>h) (Or.inl ⟨by rfl,?_⟩) (by assumption) ?_);rotate_left
    ·(intro w' hSw;obtain⟨t0,t2⟩:=hSw;go_simp;try with_reducible rfl)
    (refine zw40 (i:=5) (v:=?_) rfl (by kernel_rfl) (by kernel_rfl) (by kernel_rfl) (fun _ _ _ h=>h) (Or.inl ⟨by rfl,?_⟩) (by assumption) ?_);rotate_left
    ·(intro w' hSw;obtain⟨t0,t2⟩:=hSw;go_simp;try with_reducible rfl)
    (refine zw40 (i:=6) (v:=?_) rfl (by kernel_rfl) (by kernel_rfl) (by kernel_rfl) (fun _ _ _ h=>h) (Or.inl ⟨by rfl,?_⟩) (by assumption) ?_);rotate_left
    ·(intro w' hSw;obtain⟨t0,t2⟩:=hSw;go_simp;try with_reducible rfl)
    have hN3:t+n≤N:=by omega
    have HO7:=zh (HO6.out.ext (zxd (zxr W1)));have HB7:=zh ((HC6.out.trans (Chg.of_ext (zxd (zxr W1)))).bs HB.out (fun ad h=>by have:=HAD.out (by omega) ad h;omega));obtain⟨v2,w9,hrun,ho2,hgr2⟩:=run_app_own (P:=Tryz.prog) 22 22 22 5 i0 (.int .u8 0) 1 1 Tryz.underlying22 HI.out.1 HI.out.2.1 HI.out.2.2.1 HI.out.2.2.2 rfl (G+3) (.slice A5 (zs.length+1) k5) (zs++[m]).length (c8 (zs++[m])) HO7.out.r (.slice (some ⟨b,o+t,none⟩) n (c-t)) n (c8 ((xs.drop t).take n)) ((bs_part HB7.out t n hN3).src Tryz.underlying22 (c-t)) (by unfold maxLen;rw[zw0];simp;omega) (by rw[zw0];simp;omega) (by have:=HO7.out.t.lt;omega);have hl9:((xs.drop t).take n).length=n:=(bs_part HB7.out t n hN3).1;have ho3:w9.ownsRow (G+3) 5 1 v2 q.length (c8 q):=by rw[HQ.out,zw0,hl9,c8_app (zs++[m])];exact ho2
    have hst:=Outs.put HO7.out HAP.out ho3 hgr2;have HST:=zh (Outs.still HO7.out HAP.out hgr2);obtain⟨A2,c3,rfl,_⟩:=own_shape ho3;obtain⟨hc9,hf9,hO9⟩:=hst;have HO9:=zh hO9;have HC9:=zh (HC6.out.trans ((Chg.of_ext (zxd (zxr W1))).trans ((Chg.of_row HO7.out.r hgr2).trans (Chg.of_set (G+1) (.slice A2 q.length c3) (.inr rfl)))));have HRUN:=zh hrun;clear ho2 ho3 hgr2 hO9 hrun hl9;refine zqO (i:=0) (by kernel_rfl) rfl fun K hK=>?_;go_simp;refine hK.out _ _ (by assumption) (fun _=>?_);clear hK K;refine zqO (i:=7) (by kernel_rfl) rfl fun K hK=>?_;refine wanted_append rfl (.tmp 20) (.tmp 26) 22 22 rfl _ _ rfl rfl HRUN.out ?_;refine hK.out _ _ HST.out fun _=>?_;clear hK K;refine zqO (i:=8) (by kernel_rfl) rfl fun K hK=>?_;go_simp;refine hK.out _ _ ⟨HO9.out.t.cell,HO9.out.b.cell⟩ (fun _=>?_);clear hK K;refine zw39 (by kernel_rfl) ?_ _;go_wp2_with fail;go_meet;exact⟨⟨_,HO9.out⟩,HC9.out⟩
   case rest=>
    clear HO6 HC6 d0 d1 d2 g0 g1 s1 s2 s3 s4 s5 s6;obtain⟨⟨v9,hO9⟩,hC9⟩:=hcut;have c0:=hO9.t.cell;have f0:=hO9.t.frozen;have HO9:=zh hO9;have HC9:=zh hC9;clear hO9 hC9;have z3:IntKind.i64.wrap ((t:Int)+(n:Int))=(t:Int)+(n:Int):=by rw[IntKind.wrap_i64];omega
    go_wp2_with fail
    go_roundw
    case rel=>exact⟨t+n,v9,q,by omega,by omega,HO9.out.tell HAP.out (by omega),by rw[←HR.out,←HE.out,HCUT.out,HQ.out,HM.out];simp only[zw7,List.cons_append,zw17],HC9.out.trans (Chg.of_set (G+2) _ (.inl rfl))⟩
    case measure=>
     have e1:=HO.out.t.cell;have e2:=(HO9.out.tell HAP.out (m:=(t:Int)+(n:Int)) (n:=t+n) (by omega)).t.cell;rw[e1,e2];simp only[Option.getD_some,intOf];omega
  ·have z0:¬(t:Int)<(up:Int):=by omega
   have htt:t=up:=by omega
   have HF:Hid (zs=R):=zh (by
    have e:=HE.out;rw[htt,Nat.sub_self,zw29,litT_nil,zw18]at e;exact e)
   have HT:=zh htt;clear htt;go_wp2_with fail;refine bodyPost_end (results_none rfl _ _ _) rfl ⟨rfl,?_⟩;exact⟨u,by rw[←HF.out,←HT.out];exact HO.out,HC.out⟩
theorem unp_lits (M:Nat):∀(n:Nat) (l out rest:List Nat),l.length=n→out.length+l.length≤M→unp M out (litT l++rest)=unp M (out++l) rest:=by
 intro n
 induction n using Nat.strongRecOn with
 | ind n ih=>
  intro l out rest hl hM;by_cases h:0<l.length
  ·obtain⟨m,hm⟩:∃m,m=min 64 l.length:=⟨_,rfl⟩
   rw[litT_step h,←hm];have e:2*(m-1)/2+1=m:=by omega
   rw[List.cons_append,unp_run (by omega) (by omega) (by rw[e];omega) (by rw[e,zw0,zw0,zw2];omega),e];have hlt:(l.take m).length=m:=by rw[zw2];omega
   rw[zw7,List.take_append_of_le_length (by omega),List.take_of_length_le (by omega),List.drop_append_of_le_length (by omega),List.drop_of_length_le (by omega),zw17];rw[ih (l.drop m).length (by rw[zw1];omega) _ _ _ rfl (by rw[zw0,hlt,zw1];omega),zw7,List.take_append_drop]
  ·obtain rfl:l=[]:=zw19 (by omega)
   rw[litT_nil,zw17,zw18]
theorem rep_good {xs:List Nat} {a b:Nat} (hb:1≤b) (hba:b≤a):∀n,a+n≤xs.length→(∀j,j<n→xs.getD (a-b+j) 0=xs.getD (a+j) 0)→rep (xs.take a) b n=xs.take (a+n)
 | 0,h,_=>rfl
 | n+1,h,he=>by
  rw[rep,rep_good hb hba n (by omega) (fun j hj=>he j (by omega))];have hl:(xs.take (a+n)).length=a+n:=by rw[zw2];omega
  rw[hl,show a+(n+1)=a+n+1 from by omega,List.take_succ_eq_append_getElem (by omega)]
  congr 1
  have h1:(xs.take (a+n)).getD (a+n-b) 0=xs.getD (a-b+n) 0:=by
   rw[zw5,List.getElem?_take,if_pos (by omega),zw5,show a+n-b=a-b+n from by omega]
  rw[h1,he n (by omega),zw5,zw6 (by omega)];rfl
theorem unp_pk {xs:List Nat} (hx:∀j,xs.getD j 0<256):∀(n told a:Nat),xs.length-a=n→told≤a→a≤xs.length→unp xs.length (xs.take told) (pk xs told a)= .ok xs:=by
 intro n
 induction n using Nat.strongRecOn with
 | ind n ih=>
  intro told a hn ht ha;have htl:(xs.take told).length=told:=by rw[zw2];omega
  by_cases h:a<xs.length
  ·by_cases h2:(bst xs a).2=0
   ·rw[pk_lit h h2];exact ih (xs.length-(a+1)) (by omega) told (a+1) rfl (by omega) (by omega)
   ·rw[pk_match h h2]
    rcases bst_good hx a with hg | ⟨g1,g2,g3,g4,g5,g6,g7⟩
    ·rw[hg]at h2;exact absurd rfl h2
    ·generalize bst xs a=s at*
     have hdl:((xs.drop told).take (a-told)).length=a-told:=by rw[zw2,zw1];omega
     rw[unp_lits _ _ _ _ _ rfl (by rw[htl,hdl];omega)];have e1:xs.take told++(xs.drop told).take (a-told)=xs.take a:=by
      rw[←List.take_add,show told+(a-told)=a from by omega]
     rw[e1];have hal:(xs.take a).length=a:=by rw[zw2];omega
     have hv:=vr_put (m:=s.1-1) (by omega) (pk xs (a+s.2) (a+s.2));have e2:(2*(s.2-3)+1)/2+3=s.2:=by omega
     rw[unp_match (by omega) (by omega) hv (by rw[hal];omega) (by rw[hal,e2];omega),e2,show s.1-1+1=s.1 from by omega,rep_good g4 g6 s.2 g3 g7];rw[List.drop_left];exact ih (xs.length-(a+s.2)) (by omega) (a+s.2) (a+s.2) rfl (zw8 _) g3
  ·rw[pk_end (by omega)]
   have:=unp_lits xs.length _ (xs.drop told) (xs.take told) [] rfl (by rw[htl,zw1];omega);rw[zw18]at this;rw[this,unp_nil,List.take_append_drop]
theorem bst_far (xs:List Nat) (a:Nat) (h:(bst xs a).2=3):(bst xs a).1≤128:=by
 unfold bst at h ⊢;by_cases ha:a+3≤xs.length
 ·rw[if_pos ha]at h ⊢
  unfold mask at h ⊢
  split
  ·exact Nat.zero_le _
  ·rename_i hc
   rw[if_neg hc]at h;by_cases h1:128<(scan xs a (seen xs a (key xs a)).reverse).1
   ·exact absurd ⟨h,h1⟩ hc
   ·omega
 ·rw[if_neg ha];exact Nat.zero_le _
theorem vb_one {m:Nat} (h:m<128):(vb m).length=1:=by rw[vb,dif_pos h];rfl
theorem vb_two {m:Nat} (h:m<16384):(vb m).length≤2:=by
 by_cases h1:m<128
 ·rw[vb_one h1];omega
 ·rw[vb,dif_neg h1,zw3,vb_one (by omega)];omega
theorem pk_len {xs:List Nat} (hx:∀j,xs.getD j 0<256):∀(n told a:Nat),xs.length-a=n→told≤a→a≤xs.length→(pk xs told a).length≤(xs.length-told)+(xs.length-told+63)/64:=by
 intro n
 induction n using Nat.strongRecOn with
 | ind n ih=>
  intro told a hn ht ha;by_cases h:a<xs.length
  ·by_cases h2:(bst xs a).2=0
   ·rw[pk_lit h h2];exact ih (xs.length-(a+1)) (by omega) told (a+1) rfl (by omega) (by omega)
   ·rw[pk_match h h2]
    have hfar:=bst_far xs a;rcases bst_good hx a with hg | ⟨g1,g2,g3,g4,g5,g6,g7⟩
    ·rw[hg]at h2;exact absurd rfl h2
    ·generalize bst xs a=s at*
     have hdl:((xs.drop told).take (a-told)).length=a-told:=by rw[zw2,zw1];omega
     have h3:=ih (xs.length-(a+s.2)) (by omega) (a+s.2) (a+s.2) rfl (zw8 _) g3;have hc:1+(vb (s.1-1)).length≤s.2-1:=by
      by_cases h33:s.2=3
      ·rw[vb_one (by have:=hfar h33;omega)];omega
      ·have:=vb_two (m:=s.1-1) (by omega);omega
     rw[zw0,zw3,zw0,litT_len _ _ rfl,hdl];omega
  ·rw[pk_end (by omega),litT_len _ _ rfl,zw1];exact zw8 _
theorem bst_end {xs:List Nat} {a:Nat} (h:xs.length<a+3):bst xs a=(0,0):=by unfold bst;rw[if_neg (by omega)]
def pickR (xs:List Nat) (a:Nat) (s:Nat × Nat) (f:Nat):Nat × Nat:=if s.2<mt xs f a∧(3<mt xs f a∨a-f≤128)then(a-f,mt xs f a)else s
theorem fold_pickR {xs:List Nat} {a:Nat}:∀(l:List Nat) (s:Nat × Nat),(s=(0,0)∨3≤s.2)→(∀f∈l,s.1<a-f∧3≤mt xs f a)→l.Pairwise (fun f g=>g<f)→l.foldl (pickR xs a) (mask s)=mask (l.foldl (pick xs a) s)
 | [],s,_,_,_=>rfl
 | f::l,s,hs,hl,hp=>by
  obtain⟨h1,h2⟩:=hl f List.mem_cons_self;rw[List.pairwise_cons]at hp;rw[List.foldl_cons,List.foldl_cons];by_cases hlt:s.2<mt xs f a
  ·have e1:pick xs a s f=(a-f,mt xs f a):=if_pos hlt
   have e2:pickR xs a (mask s) f=mask (a-f,mt xs f a):=by
    by_cases h3:3<mt xs f a
    ·have e3:mask (a-f,mt xs f a)=(a-f,mt xs f a):=if_neg (fun h=>by have:=h.1;simp only at this;omega)
     rw[e3];refine if_pos ⟨?_,.inl h3⟩;unfold mask
     split
     ·show 0<_;omega
     ·exact hlt
    ·have h3':mt xs f a=3:=by omega
     rcases hs with rfl | hs
     ·have e0:mask (0,0)=(0,0):=rfl
      rw[e0];by_cases hn:a-f≤128
      ·rw[show mask (a-f,mt xs f a)=(a-f,mt xs f a)from if_neg (fun h=>by have:=h.2;simp only at this;omega)]
       exact if_pos ⟨hlt,.inr hn⟩
      ·rw[show mask (a-f,mt xs f a)=(0,0)from if_pos ⟨h3',by simp only;omega⟩]
       exact if_neg (fun h=>by rcases h.2 with h | h<;>omega)
     ·omega
   rw[e1,e2];refine fold_pickR l (a-f,mt xs f a) (.inr h2) (fun g hg=>?_) hp.2;have:=hl g (List.mem_cons_of_mem _ hg);have:=hp.1 g hg;exact⟨by simp only;omega,by omega⟩
  ·have e1:pick xs a s f=s:=if_neg hlt
   have e2:pickR xs a (mask s) f=mask s:=by
    refine if_neg (fun h=>?_);have h4:=h.1;unfold mask at h4
    split at h4
    ·rename_i hc
     rcases h.2 with h5 | h5<;>omega
    ·exact hlt h4
   rw[e1,e2];exact fold_pickR l s hs (fun g hg=>hl g (List.mem_cons_of_mem _ hg)) hp.2
theorem pls_sorted (xs:List Nat) (lo hi k:Nat):(pls xs lo hi k).Pairwise (fun f g=>f<g):=by
 unfold pls;exact List.Pairwise.filter _ List.pairwise_lt_range
theorem bst_ref {xs:List Nat} (hx:∀j,xs.getD j 0<256) {a:Nat} (h:a+3≤xs.length):bst xs a=(seen xs a (key xs a)).reverse.foldl (pickR xs a) (0,0):=by
 have e:=fold_pickR (xs:=xs) (a:=a) (seen xs a (key xs a)).reverse (0,0) (.inl rfl) (fun f hf=>by
  obtain⟨h1,h2,h3⟩:=seen_mt hx h (List.mem_reverse.1 hf);exact⟨by simp only;omega,h3⟩) (by
   rw[List.pairwise_reverse];exact List.Pairwise.sublist (List.drop_sublist _ _) (pls_sorted _ _ _ _))
 unfold bst;rw[if_pos h];exact e.symm
end Go.Proofs.YtbopblbhjcemaaaGreatDoor.Lz
