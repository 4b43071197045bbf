/- Law 20: the document's log. -/
import Derived.Test.YtbopblbhjcemaaaGreatDoorF23
set_option maxHeartbeats 16000000
set_option maxRecDepth 100000
set_option linter.all false
open Go.ChangeShapes Go.WideShapes Go.ChangeAt Go.RowKit
namespace Go.Proofs.YtbopblbhjcemaaaGreatDoor.Fil
open Wire
open Rec
open Log (Ev cV pacedB encV putL eachI)
theorem row_upto {α:Type} {w:World} {A:Option Addr} {n k:Nat} {f:α→List Value} {xs:List α} (h:RowR w A n k f xs) {j:Nat} (hj:j≤n):RowR w A j k f (xs.take j):=by
  refine⟨by rw[zw2,h.1];omega,fun hp=>?_⟩;obtain⟨b,o,e,hb,hc⟩:=h.2 (by omega);refine⟨b,o,e,hb,fun i hi=>?_⟩;rw[zw2]at hi;rw[List.getElem_take];exact hc i (by omega)
def rpV:Option (List Nat)→Value
  | some L=> .tuple #[.string (strOf L),.int .i64 0]
  | none=> .tuple #[.string ⟨#[]⟩,.int .i64 2]
def RPut (w:World) (T:Option (List Nat)) (e:Ending) (w':World):Prop:=Ext w w'∧e= .returned (rpV T)
def YRel (w:World) (n:Int) (evs:List Ev) (T:Option (List Nat)) (m gh:Nat) (sv lv iv:Value) (wr:World):Prop:=
  ∃(i:Nat) (last:Int) (each:Nat) (P:List Nat),i+gh=m∧iv= .int .i64 (i:Int)∧lv= .int .i64 last∧sv= .string (strOf P)∧last≤4096∧Sofar (evs.take i) last each∧P.length≤10+60*i∧Ext w wr∧T=if pacedB n last each (evs.drop i)=true then some (P++encV last (evs.drop i))else none
theorem rput17 (A : Option Addr) (m c : Nat) (evs : List Ev) (n : Int) (w : World) (hB : RowR w A m 7 cV evs) (hf : ∀ x ∈ evs, x.fits) (hm : m ≤ 1000000) (hmc : m ≤ c) (hcc : c ≤ 9223372036854775807) :
    Calls Tryz.prog 72 #[.slice A m c,.int .i64 n] w (RPut w (putL n evs)):=by
  obtain⟨T,hT⟩:∃q,putL n evs=q:=⟨_,rfl⟩;rw[hT];have HB:=zh hB;have HF:=zh hf;have HLEN:=zh hB.1;have HTT:=zh hT;clear hB hf hT;go_enter Tryz.func72,Tryz.ntmps72;by_cases g1:n<0
  · have HTN:Hid (T=none):=zh (by rw[←HTT.out,putL,if_neg (by omega)])
    go_wp2_with fail;exact bodyPost_ret (v:= .tuple #[.string ⟨#[]⟩,.int .i64 2]) (by simp[results,Tryz.results72,go_sem]) rfl ⟨zxr _,by rw[HTN.out];rfl⟩
  by_cases g2:4096<n
  · have HTN:Hid (T=none):=zh (by rw[←HTT.out,putL,if_neg (by omega)])
    go_wp2_with fail;exact bodyPost_ret (v:= .tuple #[.string ⟨#[]⟩,.int .i64 2]) (by simp[results,Tryz.results72,go_sem]) rfl ⟨zxr _,by rw[HTN.out];rfl⟩
  have HTR:Hid (T=if pacedB n 0 0 evs=true then some (vb m++encV 0 evs)else none):=zh (by
    rw[←HTT.out];unfold putL;rw[HLEN.out];by_cases h:pacedB n 0 0 evs=true
    · rw[if_pos ⟨by omega,by omega,h⟩,if_pos h]
    · rw[if_neg (fun x=>h x.2.2),if_neg h])
  have HN:=zh (fun W=>rnum17 m (by omega) W);go_wp2_with fail;refine(HN.out _).mono ?_;rintro e w1 ⟨rfl,hE1⟩;have HE1:=zh hE1;have HV:Hid ((vb m).length≤10):=zh (vb_ten (by omega));clear hE1 HN;go_wp2_with fail
  go_loopg [6,7,8] m (fun gh sv lv iv wr=>YRel w n evs T m gh sv lv iv wr)
  case atStart=>exact⟨0,0,0,vb m,by omega,rfl,rfl,rfl,by omega,sofar_nil,by have:=HV.out;omega,HE1.out,HTR.out⟩
  case round=>
    obtain⟨i,last,each,P,hi,rfl,rfl,rfl,hl4,hso,hpl,hE,hTi⟩:=hrel;obtain⟨wi,rfl⟩:∃wi:World,wi=wr:=⟨_,rfl⟩;obtain⟨gh,rfl⟩:∃gh:Nat,gh=gk:=⟨_,rfl⟩;have HE:=zh hE;have HTI:=zh hTi;have HSO:=zh hso;have HPL:=zh hpl;have hl0:=hso.1;have y1:(0:Int)≤(i:Int):=by omega
    clear hE hTi hso HTR HE1 HTT hpl;by_cases hlt:i<m
    · have y2:(i:Int)<(m:Int):=by omega
      have hic:i≤c:=by omega
      have hil:i<evs.length:=by rw[HLEN.out];exact hlt
      have HRT:=zh (row_upto HB.out (j:=i) (by omega));obtain⟨bs,os,rfl,hbw,hcell⟩:=HB.out.2 (by omega);have hcw:=fun j hj=>(HE.out.cell (p:=⟨bs,os+i*7+j,none⟩) hbw).trans (hcell i hil j hj);have hdr:evs.drop i=evs[i]::evs.drop (i+1):=zw20 hil;have htk:evs.take (i+1)=evs.take i++[evs[i]]:=(zw36 hil).symm;have hfit:=HF.out _ (zw25 hil);have HFOL:=zh (fun(W:World) (e:Ext w W)=>rfollows (some ⟨bs,os,none⟩) i c (evs.take i) evs[i] n W (HRT.out.ext e) (by omega));rw[fols_paced HSO.out]at HFOL;have HSN:Hid (last≤evs[i].tick→Sofar (evs.take (i+1)) evs[i].tick (eachI last each evs[i].tick)):=zh (fun h=>by rw[htk];exact sofar_snoc HSO.out h);have HTJ:Hid (T=if (decide (last≤evs[i].tick∧evs[i].tick<n∧eachI last each evs[i].tick≤32) && pacedB n evs[i].tick (eachI last each evs[i].tick) (evs.drop (i+1)))=true then some (P++((vb (evs[i].tick-last).toNat++([evs[i].player,evs[i].doing,evs[i].kind]++(vb evs[i].unit++(vb evs[i].tile++vb evs[i].target))))++encV evs[i].tick (evs.drop (i+1))))else none):=zh (by
        rw[HTI.out,hdr];rfl)
      generalize evs[i]=x at hcw hfit HFOL HSN HTJ;obtain⟨t,x1,x2,x3,x4,x5,x6⟩:=x;obtain⟨f1,f2,f3,f4,f5,f6⟩:=hfit;have a0:=hcw 0 (by omega);have a1:=hcw 1 (by omega);have a2:=hcw 2 (by omega);have a3:=hcw 3 (by omega);have a4:=hcw 4 (by omega);have a5:=hcw 5 (by omega);have a6:=hcw 6 (by omega);simp only[cV,Nat.add_zero,List.getElem?_cons_zero,List.getElem?_cons_succ]at a0 a1 a2 a3 a4 a5 a6 HFOL HSN HTJ f1 f2 f3 f4 f5 f6;clear hcw hdr htk hcell hil HTI HSO HRT;generalize hbb:decide (last≤t∧t<n∧eachI last each t≤32)=bb at HFOL HTJ;have HBB:=zh hbb;clear hbb;go_upto_region 9 with fail;have HEX:=zh (zxa HE.out (.cells #[.int .i64 t,.int .u8 (x1:Int),.int .u8 (x2:Int),.int .u16 (x3:Int),.int .u16 (x4:Int),.int .u16 (x5:Int),.int .u8 (x6:Int)] 175));have HHX:=zh (Blk.new wi 175 #[.int .i64 t,.int .u8 (x1:Int),.int .u8 (x2:Int),.int .u16 (x3:Int),.int .u16 (x4:Int),.int .u16 (x5:Int),.int .u8 (x6:Int)]);obtain⟨wx,hwx⟩:∃q,q=wi.alloc (.cells #[.int .i64 t,.int .u8 (x1:Int),.int .u8 (x2:Int),.int .u16 (x3:Int),.int .u16 (x4:Int),.int .u16 (x5:Int),.int .u8 (x6:Int)] 175):=⟨_,rfl⟩;rw[←hwx]at HEX HHX ⊢;clear hwx a0 a1 a2 a3 a4 a5 a6;generalize wi.heap.size=xb at*;have MKS:=zh (fun(W:World) (e:Ext wx W)=>(⟨kc e (HHX.out.cell 0),kc e (HHX.out.cell 1),kc e (HHX.out.cell 2),kc e (HHX.out.cell 3),kc e (HHX.out.cell 4),kc e (HHX.out.cell 5),kc e (HHX.out.cell 6)⟩:W.cell? ⟨xb,0,none⟩=some (.int .i64 t)∧W.cell? ⟨xb,1,none⟩=some (.int .u8 (x1:Int))∧W.cell? ⟨xb,2,none⟩=some (.int .u8 (x2:Int))∧W.cell? ⟨xb,3,none⟩=some (.int .u16 (x3:Int))∧W.cell? ⟨xb,4,none⟩=some (.int .u16 (x4:Int))∧W.cell? ⟨xb,5,none⟩=some (.int .u16 (x5:Int))∧W.cell? ⟨xb,6,none⟩=some (.int .u8 (x6:Int))))
      have HX:Hid (Ext wx wx.drew):=zh (zxd (zxr wx));generalize hwd:wx.drew=WA at HX;have HS:=zh (MKS.out _ HX.out);refine zw38 (S:=fun W=>W.cell? ⟨xb,0,none⟩=some (.int .i64 t)∧W.cell? ⟨xb,1,none⟩=some (.int .u8 (x1:Int))∧W.cell? ⟨xb,2,none⟩=some (.int .u8 (x2:Int))∧W.cell? ⟨xb,3,none⟩=some (.int .u16 (x3:Int))∧W.cell? ⟨xb,4,none⟩=some (.int .u16 (x4:Int))∧W.cell? ⟨xb,5,none⟩=some (.int .u16 (x5:Int))∧W.cell? ⟨xb,6,none⟩=some (.int .u8 (x6:Int))) hmxF (by rw[hwd];exact HS.out) (fun _=>?_);rw[hwd];clear hwd
      iterate 5
       refine zqT (v:=?_) HS.out rfl ?_ ?_;rotate_left
       · intro w' hSw;obtain⟨s0,s1,s2,s3,s4,s5,s6⟩:=hSw;go_simp;try with_reducible rfl
       (try simp only[Act.put,zzA,zzB,zzC])
      refine zqO (i:=5) (by kernel_rfl) rfl fun K hK=>?_;go_simp;refine(HFOL.out _ (zxt HEX.out HX.out)).mono ?_;rintro e WA ⟨rfl,hE⟩;replace HX:=zh (zxt HX.out hE);have HS:=zh (MKS.out _ HX.out);clear hE
      (try go_wp2_with fail)
      refine hK.out _ _ HS.out fun _=>?_;clear hK K
      (try simp only[Act.put,zzA,zzB,zzC])
      (refine zqT (v:=?_) HS.out rfl ?_ ?_);rotate_left
      · intro w' hSw;obtain⟨s0,s1,s2,s3,s4,s5,s6⟩:=hSw;go_simp;try with_reducible rfl
      (try simp only[Act.put,zzA,zzB,zzC])
      refine zw39 (by kernel_rfl) ?_ _
      cases bb with
      | false=>
        have HTN:Hid (T=none):=zh (by rw[HTJ.out,zw51,if_neg (by decide)]);go_wp2_with fail;exact bodyPost_ret (v:= .tuple #[.string ⟨#[]⟩,.int .i64 2]) (by simp[results,Tryz.results72,go_sem]) rfl ⟨zxt HEX.out HX.out,by rw[HTN.out];rfl⟩
      | true=>
        obtain⟨p1,p2,p3⟩:=of_decide_eq_true HBB.out;obtain⟨l,rfl⟩:∃q:Nat,last=(q:Int):=⟨last.toNat,by omega⟩;obtain⟨d,rfl⟩:∃q:Nat,t=((l+q:Nat):Int):=⟨(t-l).toNat,by omega⟩;have hd1:((l+d:Nat):Int)-(l:Int)=(d:Int):=by omega
        have hdn:((d:Nat):Int).toNat=d:=by omega
        rw[hd1,hdn,zw50]at HTJ;have HSM:=zh (HSN.out p1);obtain⟨t,ht⟩:∃q:Int,q=((l+d:Nat):Int):=⟨_,rfl⟩;rw[←ht]at hd1 p1 p2 HTJ HSM HHX MKS HS;have HT0:=zh ht;have ht4:t≤4096:=by omega
        have hd4:d≤4096:=by omega
        clear ht HSN HBB p3 HFOL HE;have v1:(vb d).length≤10:=vb_ten (by omega);have v2:(vb x3).length≤10:=vb_ten (by omega);have v3:(vb x4).length≤10:=vb_ten (by omega);have v4:(vb x5).length≤10:=vb_ten (by omega);have HK1:=zh (fun W=>rnum17 d (by omega) W);have HK2:=zh (fun W=>rnum17 x3 (by omega) W);have HK3:=zh (fun W=>rnum17 x4 (by omega) W);have HK4:=zh (fun W=>rnum17 x5 (by omega) W);have HSA:Hid (strOf P++strOf (vb d)++strOf [x1,x2,x6]++strOf (vb x3)++strOf (vb x4)++strOf (vb x5)=strOf (P++(vb d++([x1,x2,x6]++(vb x3++(vb x4++vb x5)))))):=zh (by simp only[strOf_app,zw53]);have HPN:Hid ((P++(vb d++([x1,x2,x6]++(vb x3++(vb x4++vb x5))))).length≤10+60*(i+1)):=zh (by have:=HPL.out;simp only[zw0,zw3,zw26];omega);have HTK:Hid (T=if pacedB n t (eachI l each t) (evs.drop (i+1))=true then some ((P++(vb d++([x1,x2,x6]++(vb x3++(vb x4++vb x5)))))++encV t (evs.drop (i+1)))else none):=zh (by rw[HTJ.out];simp only[zw7]);have HSB:Hid (∀j,([x1,x2,x6]:List Nat).getD j 0<256):=zh (small_mem (by intro z hz;simp at hz;omega));have h3s:(strOf [x1,x2,x6]).size=3:=by rw[strOf_size];rfl
        have hpl:=HPL.out;rw[←strOf_size]at v1 v2 v3 v4 hpl;have HCV:Hid (∀W g k,Bs W (some ⟨g,0,none⟩) 3 [x1,x2,x6]→(convert 22 9 (.slice (some ⟨g,0,none⟩) 3 k)).run Tryz.prog W= .ok (.string (strOf [x1,x2,x6])) W):=zh (fun W g k h=>Com.conv8 h k);obtain⟨S,hS⟩:∃q,q=strOf P:=⟨_,rfl⟩;obtain⟨K1,hK1⟩:∃q,q=strOf (vb d):=⟨_,rfl⟩;obtain⟨K2,hK2⟩:∃q,q=strOf (vb x3):=⟨_,rfl⟩;obtain⟨K3,hK3⟩:∃q,q=strOf (vb x4):=⟨_,rfl⟩;obtain⟨K4,hK4⟩:∃q,q=strOf (vb x5):=⟨_,rfl⟩;obtain⟨KB,hKB⟩:∃q,q=strOf [x1,x2,x6]:=⟨_,rfl⟩;rw[←hS,←hK1,←hK2,←hK3,←hK4,←hKB]at HSA;rw[←hK1]at HK1 v1;rw[←hK2]at HK2 v2;rw[←hK3]at HK3 v3;rw[←hK4]at HK4 v4;rw[←hKB]at HCV h3s;rw[←hS]at hpl ⊢;have q1:¬9223372036854775807<S.size+K1.size:=by omega
        have q2:¬9223372036854775807<S.size+K1.size+KB.size:=by omega
        have q3:¬9223372036854775807<S.size+K1.size+KB.size+K2.size:=by omega
        have q4:¬9223372036854775807<S.size+K1.size+KB.size+K2.size+K3.size:=by omega
        have q5:¬9223372036854775807<S.size+K1.size+KB.size+K2.size+K3.size+K4.size:=by omega
        have z0:IntKind.i64.wrap (d:Int)=(d:Int):=IntWalk.i64_in _ (by omega);have z1:IntKind.i64.wrap (x3:Int)=(x3:Int):=IntWalk.i64_in _ (by omega);have z2:IntKind.i64.wrap (x4:Int)=(x4:Int):=IntWalk.i64_in _ (by omega);have z3:IntKind.i64.wrap (x5:Int)=(x5:Int):=IntWalk.i64_in _ (by omega);clear hS hK1 hK2 hK3 hK4 hKB v1 v2 v3 v4 hpl h3s HTJ HPL HHX;go_upto_region 11 with fail;replace HX:=zh (zxd HX.out);have HS:=zh (MKS.out _ HX.out);generalize hwd:World.drew _=WA at HX HS;refine zw38 (S:=fun W=>W.cell? ⟨xb,0,none⟩=some (.int .i64 t)∧W.cell? ⟨xb,1,none⟩=some (.int .u8 (x1:Int))∧W.cell? ⟨xb,2,none⟩=some (.int .u8 (x2:Int))∧W.cell? ⟨xb,3,none⟩=some (.int .u16 (x3:Int))∧W.cell? ⟨xb,4,none⟩=some (.int .u16 (x4:Int))∧W.cell? ⟨xb,5,none⟩=some (.int .u16 (x5:Int))∧W.cell? ⟨xb,6,none⟩=some (.int .u8 (x6:Int))) hmxF (by rw[hwd];exact HS.out) (fun _=>?_);rw[hwd];clear hwd
        iterate 26
         refine zqT (v:=?_) HS.out rfl ?_ ?_;rotate_left
         · intro w' hSw;obtain⟨s0,s1,s2,s3,s4,s5,s6⟩:=hSw;go_simp;try with_reducible rfl
         (try simp only[Act.put,zzA,zzB,zzC])
        refine zw41 (rs:=[5,16]) (by kernel_rfl) (by simp) ?_;refine zqC rfl (fun K hK=>?_) (zqC rfl (fun K hK=>?_) zw42)
        · go_simp
          refine(HK1.out _).mono ?_;rintro e WA ⟨rfl,hE⟩;replace HX:=zh (zxt HX.out hE);have HS:=zh (MKS.out _ HX.out);clear hE
          (try go_wp2_with fail)
          refine hK.out _ _ HS.out fun _=>?_;clear hK K
          (try simp only[Act.put,zzA,zzB,zzC])
          (refine zqT (v:=?_) HS.out rfl ?_ ?_);rotate_left
          · intro w' hSw;obtain⟨s0,s1,s2,s3,s4,s5,s6⟩:=hSw;go_simp;try with_reducible rfl
          (try simp only[Act.put,zzA,zzB,zzC])
          refine zw41 (rs:=[16,23]) (by kernel_rfl) (by simp) ?_;refine zqC rfl (fun K hK=>?_) (zqC rfl (fun K hK=>?_) zw42)
          · go_simp
            have HG:=zh (show Bs (WA.alloc (.cells #[.int .u8 (x1:Int),.int .u8 (x2:Int),.int .u8 (x6:Int)] 5)) (some ⟨WA.heap.size,0,none⟩) 3 [x1,x2,x6]from bs_new WA 5 (0,0) [x1,x2,x6] HSB.out);replace HX:=zh (zxa HX.out (.cells #[.int .u8 (x1:Int),.int .u8 (x2:Int),.int .u8 (x6:Int)] 5));generalize WA.heap.size=G at*;generalize WA.alloc (.cells #[.int .u8 (x1:Int),.int .u8 (x2:Int),.int .u8 (x6:Int)] 5)=WA at*;have HS:=zh (MKS.out _ HX.out);refine hK.out _ _ HS.out fun _=>?_;clear hK K
            (try simp only[Act.put,zzA,zzB,zzC])
            refine held_more (S':=fun W=>(W.cell? ⟨xb,0,none⟩=some (.int .i64 t)∧W.cell? ⟨xb,1,none⟩=some (.int .u8 (x1:Int))∧W.cell? ⟨xb,2,none⟩=some (.int .u8 (x2:Int))∧W.cell? ⟨xb,3,none⟩=some (.int .u16 (x3:Int))∧W.cell? ⟨xb,4,none⟩=some (.int .u16 (x4:Int))∧W.cell? ⟨xb,5,none⟩=some (.int .u16 (x5:Int))∧W.cell? ⟨xb,6,none⟩=some (.int .u8 (x6:Int)))∧Bs W (some ⟨G,0,none⟩) 3 [x1,x2,x6]) (fun W h=>h.1) _ _ _ _ ?_;replace HS:=zh (And.intro HS.out HG.out)
            (refine zqK (i:=17) (v:= .string KB) rfl (Or.inl ⟨by rfl,?_⟩) HS.out ?_)
            · (intro w' hSw;obtain⟨⟨s0,s1,s2,s3,s4,s5,s6⟩,hg⟩:=hSw;have hcv:=HCV.out w' G 3 hg;go_simp;try with_reducible rfl)
            (try simp only[Act.put,zzA,zzB,zzC])
            (refine zqT (v:=?_) HS.out rfl ?_ ?_);rotate_left
            · intro w' hSw;obtain⟨⟨s0,s1,s2,s3,s4,s5,s6⟩,hg⟩:=hSw;go_simp;try with_reducible rfl
            (try simp only[Act.put,zzA,zzB,zzC])
            refine zqO (i:=23) (by kernel_rfl) rfl fun K hK=>?_;go_simp;refine(HK2.out _).mono ?_;rintro e WA ⟨rfl,hE⟩;replace HX:=zh (zxt HX.out hE);replace HG:=zh (HG.out.ext hE);have HS:=zh (And.intro (MKS.out _ HX.out) HG.out);clear hE
            (try go_wp2_with fail)
            refine hK.out _ _ HS.out fun _=>?_;clear hK K
            (try simp only[Act.put,zzA,zzB,zzC])
            (refine zqT (v:=?_) HS.out rfl ?_ ?_);rotate_left
            · intro w' hSw;obtain⟨⟨s0,s1,s2,s3,s4,s5,s6⟩,hg⟩:=hSw;go_simp;try with_reducible rfl
            (try simp only[Act.put,zzA,zzB,zzC])
            refine zqO (i:=29) (by kernel_rfl) rfl fun K hK=>?_;go_simp;refine(HK3.out _).mono ?_;rintro e WA ⟨rfl,hE⟩;replace HX:=zh (zxt HX.out hE);replace HG:=zh (HG.out.ext hE);have HS:=zh (And.intro (MKS.out _ HX.out) HG.out);clear hE
            (try go_wp2_with fail)
            refine hK.out _ _ HS.out fun _=>?_;clear hK K
            (try simp only[Act.put,zzA,zzB,zzC])
            (refine zqT (v:=?_) HS.out rfl ?_ ?_);rotate_left
            · intro w' hSw;obtain⟨⟨s0,s1,s2,s3,s4,s5,s6⟩,hg⟩:=hSw;go_simp;try with_reducible rfl
            (try simp only[Act.put,zzA,zzB,zzC])
            refine zqO (i:=35) (by kernel_rfl) rfl fun K hK=>?_;go_simp;refine(HK4.out _).mono ?_;rintro e WA ⟨rfl,hE⟩;replace HX:=zh (zxt HX.out hE);replace HG:=zh (HG.out.ext hE);have HS:=zh (And.intro (MKS.out _ HX.out) HG.out);clear hE
            (try go_wp2_with fail)
            refine hK.out _ _ HS.out fun _=>?_;clear hK K
            (try simp only[Act.put,zzA,zzB,zzC])
            iterate 2
             refine zqT (v:=?_) HS.out rfl ?_ ?_;rotate_left
             · intro w' hSw;obtain⟨⟨s0,s1,s2,s3,s4,s5,s6⟩,hg⟩:=hSw;go_simp;try with_reducible rfl
             (try simp only[Act.put,zzA,zzB,zzC])
            refine zw39 (by kernel_rfl) ?_ _;go_wp2_with fail;rw[HSA.out];have d0:=(MKS.out _ HX.out).1;skip
            go_roundg (gh-1)
            case measure=>omega
            case rel=>exact⟨i+1,t,eachI l each t,P++(vb d++([x1,x2,x6]++(vb x3++(vb x4++vb x5)))),by omega,by go_num,rfl,rfl,ht4,HSM.out,HPN.out,zxt HEX.out HX.out,HTK.out⟩
          · go_simp
            refine(HK2.out _).mono ?_;rintro e WA ⟨rfl,hE⟩;replace HX:=zh (zxt HX.out hE);have HS:=zh (MKS.out _ HX.out);clear hE
            (try go_wp2_with fail)
            refine hK.out _ _ HS.out fun _=>?_;clear hK K
            (try simp only[Act.put,zzA,zzB,zzC])
            refine zw41 (rs:=[16,29]) (by kernel_rfl) (by simp) ?_;refine zqC rfl (fun K hK=>?_) (zqC rfl (fun K hK=>?_) zw42)
            · go_simp
              have HG:=zh (show Bs (WA.alloc (.cells #[.int .u8 (x1:Int),.int .u8 (x2:Int),.int .u8 (x6:Int)] 5)) (some ⟨WA.heap.size,0,none⟩) 3 [x1,x2,x6]from bs_new WA 5 (0,0) [x1,x2,x6] HSB.out);replace HX:=zh (zxa HX.out (.cells #[.int .u8 (x1:Int),.int .u8 (x2:Int),.int .u8 (x6:Int)] 5));generalize WA.heap.size=G at*;generalize WA.alloc (.cells #[.int .u8 (x1:Int),.int .u8 (x2:Int),.int .u8 (x6:Int)] 5)=WA at*;have HS:=zh (MKS.out _ HX.out);refine hK.out _ _ HS.out fun _=>?_;clear hK K
              (try simp only[Act.put,zzA,zzB,zzC])
              refine held_more (S':=fun W=>(W.cell? ⟨xb,0,none⟩=some (.int .i64 t)∧W.cell? ⟨xb,1,none⟩=some (.int .u8 (x1:Int))∧W.cell? ⟨xb,2,none⟩=some (.int .u8 (x2:Int))∧W.cell? ⟨xb,3,none⟩=some (.int .u16 (x3:Int))∧W.cell? ⟨xb,4,none⟩=some (.int .u16 (x4:Int))∧W.cell? ⟨xb,5,none⟩=some (.int .u16 (x5:Int))∧W.cell? ⟨xb,6,none⟩=some (.int .u8 (x6:Int)))∧Bs W (some ⟨G,0,none⟩) 3 [x1,x2,x6]) (fun W h=>h.1) _ _ _ _ ?_;replace HS:=zh (And.intro HS.out HG.out)
              (refine zqK (i:=17) (v:= .string KB) rfl (Or.inl ⟨by rfl,?_⟩) HS.out ?_)
              · (intro w' hSw;obtain⟨⟨s0,s1,s2,s3,s4,s5,s6⟩,hg⟩:=hSw;have hcv:=HCV.out w' G 3 hg;go_simp;try with_reducible rfl)
              (try simp only[Act.put,zzA,zzB,zzC])
              iterate 2
               refine zqT (v:=?_) HS.out rfl ?_ ?_;rotate_left
               · intro w' hSw;obtain⟨⟨s0,s1,s2,s3,s4,s5,s6⟩,hg⟩:=hSw;go_simp;try with_reducible rfl
               (try simp only[Act.put,zzA,zzB,zzC])
              refine zqO (i:=29) (by kernel_rfl) rfl fun K hK=>?_;go_simp;refine(HK3.out _).mono ?_;rintro e WA ⟨rfl,hE⟩;replace HX:=zh (zxt HX.out hE);replace HG:=zh (HG.out.ext hE);have HS:=zh (And.intro (MKS.out _ HX.out) HG.out);clear hE
              (try go_wp2_with fail)
              refine hK.out _ _ HS.out fun _=>?_;clear hK K
              (try simp only[Act.put,zzA,zzB,zzC])
              (refine zqT (v:=?_) HS.out rfl ?_ ?_);rotate_left
              · intro w' hSw;obtain⟨⟨s0,s1,s2,s3,s4,s5,s6⟩,hg⟩:=hSw;go_simp;try with_reducible rfl
              (try simp only[Act.put,zzA,zzB,zzC])
              refine zqO (i:=35) (by kernel_rfl) rfl fun K hK=>?_;go_simp;refine(HK4.out _).mono ?_;rintro e WA ⟨rfl,hE⟩;replace HX:=zh (zxt HX.out hE);replace HG:=zh (HG.out.ext hE);have HS:=zh (And.intro (MKS.out _ HX.out) HG.out);clear hE
              (try go_wp2_with fail)
              refine hK.out _ _ HS.out fun _=>?_;clear hK K
              (try simp only[Act.put,zzA,zzB,zzC])
              iterate 2
               refine zqT (v:=?_) HS.out rfl ?_ ?_;rotate_left
               · intro w' hSw;obtain⟨⟨s0,s1,s2,s3,s4,s5,s6⟩,hg⟩:=hSw;go_simp;try with_reducible rfl
               (try simp only[Act.put,zzA,zzB,zzC])
              refine zw39 (by kernel_rfl) ?_ _;go_wp2_with fail;rw[HSA.out];have d0:=(MKS.out _ HX.out).1;skip
              go_roundg (gh-1)
              case measure=>omega
              case rel=>exact⟨i+1,t,eachI l each t,P++(vb d++([x1,x2,x6]++(vb x3++(vb x4++vb x5)))),by omega,by go_num,rfl,rfl,ht4,HSM.out,HPN.out,zxt HEX.out HX.out,HTK.out⟩
            · go_simp
              refine(HK3.out _).mono ?_;rintro e WA ⟨rfl,hE⟩;replace HX:=zh (zxt HX.out hE);have HS:=zh (MKS.out _ HX.out);clear hE
              (try go_wp2_with fail)
              refine hK.out _ _ HS.out fun _=>?_;clear hK K
              (try simp only[Act.put,zzA,zzB,zzC])
              refine zw41 (rs:=[16,35]) (by kernel_rfl) (by simp) ?_;refine zqC rfl (fun K hK=>?_) (zqC rfl (fun K hK=>?_) zw42)
              · go_simp
                have HG:=zh (show Bs (WA.alloc (.cells #[.int .u8 (x1:Int),.int .u8 (x2:Int),.int .u8 (x6:Int)] 5)) (some ⟨WA.heap.size,0,none⟩) 3 [x1,x2,x6]from bs_new WA 5 (0,0) [x1,x2,x6] HSB.out);replace HX:=zh (zxa HX.out (.cells #[.int .u8 (x1:Int),.int .u8 (x2:Int),.int .u8 (x6:Int)] 5));generalize WA.heap.size=G at*;generalize WA.alloc (.cells #[.int .u8 (x1:Int),.int .u8 (x2:Int),.int .u8 (x6:Int)] 5)=WA at*;have HS:=zh (MKS.out _ HX.out);refine hK.out _ _ HS.out fun _=>?_;clear hK K
                (try simp only[Act.put,zzA,zzB,zzC])
                refine held_more (S':=fun W=>(W.cell? ⟨xb,0,none⟩=some (.int .i64 t)∧W.cell? ⟨xb,1,none⟩=some (.int .u8 (x1:Int))∧W.cell? ⟨xb,2,none⟩=some (.int .u8 (x2:Int))∧W.cell? ⟨xb,3,none⟩=some (.int .u16 (x3:Int))∧W.cell? ⟨xb,4,none⟩=some (.int .u16 (x4:Int))∧W.cell? ⟨xb,5,none⟩=some (.int .u16 (x5:Int))∧W.cell? ⟨xb,6,none⟩=some (.int .u8 (x6:Int)))∧Bs W (some ⟨G,0,none⟩) 3 [x1,x2,x6]) (fun W h=>h.1) _ _ _ _ ?_;replace HS:=zh (And.intro HS.out HG.out)
                (refine zqK (i:=17) (v:= .string KB) rfl (Or.inl ⟨by rfl,?_⟩) HS.out ?_)
                · (intro w' hSw;obtain⟨⟨s0,s1,s2,s3,s4,s5,s6⟩,hg⟩:=hSw;have hcv:=HCV.out w' G 3 hg;go_simp;try with_reducible rfl)
                (try simp only[Act.put,zzA,zzB,zzC])
                iterate 3
                 refine zqT (v:=?_) HS.out rfl ?_ ?_;rotate_left
                 · intro w' hSw;obtain⟨⟨s0,s1,s2,s3,s4,s5,s6⟩,hg⟩:=hSw;go_simp;try with_reducible rfl
                 (try simp only[Act.put,zzA,zzB,zzC])
                refine zqO (i:=35) (by kernel_rfl) rfl fun K hK=>?_;go_simp;refine(HK4.out _).mono ?_;rintro e WA ⟨rfl,hE⟩;replace HX:=zh (zxt HX.out hE);replace HG:=zh (HG.out.ext hE);have HS:=zh (And.intro (MKS.out _ HX.out) HG.out);clear hE
                (try go_wp2_with fail)
                refine hK.out _ _ HS.out fun _=>?_;clear hK K
                (try simp only[Act.put,zzA,zzB,zzC])
                iterate 2
                 refine zqT (v:=?_) HS.out rfl ?_ ?_;rotate_left
                 · intro w' hSw;obtain⟨⟨s0,s1,s2,s3,s4,s5,s6⟩,hg⟩:=hSw;go_simp;try with_reducible rfl
                 (try simp only[Act.put,zzA,zzB,zzC])
                refine zw39 (by kernel_rfl) ?_ _;go_wp2_with fail;rw[HSA.out];have d0:=(MKS.out _ HX.out).1;skip
                go_roundg (gh-1)
                case measure=>omega
                case rel=>exact⟨i+1,t,eachI l each t,P++(vb d++([x1,x2,x6]++(vb x3++(vb x4++vb x5)))),by omega,by go_num,rfl,rfl,ht4,HSM.out,HPN.out,zxt HEX.out HX.out,HTK.out⟩
              · go_simp
                refine(HK4.out _).mono ?_;rintro e WA ⟨rfl,hE⟩;replace HX:=zh (zxt HX.out hE);have HS:=zh (MKS.out _ HX.out);clear hE
                (try go_wp2_with fail)
                refine hK.out _ _ HS.out fun _=>?_;clear hK K
                (try simp only[Act.put,zzA,zzB,zzC])
                refine zqO (i:=16) (by kernel_rfl) rfl fun K hK=>?_;go_simp;have HG:=zh (show Bs (WA.alloc (.cells #[.int .u8 (x1:Int),.int .u8 (x2:Int),.int .u8 (x6:Int)] 5)) (some ⟨WA.heap.size,0,none⟩) 3 [x1,x2,x6]from bs_new WA 5 (0,0) [x1,x2,x6] HSB.out);replace HX:=zh (zxa HX.out (.cells #[.int .u8 (x1:Int),.int .u8 (x2:Int),.int .u8 (x6:Int)] 5));generalize WA.heap.size=G at*;generalize WA.alloc (.cells #[.int .u8 (x1:Int),.int .u8 (x2:Int),.int .u8 (x6:Int)] 5)=WA at*;have HS:=zh (MKS.out _ HX.out);refine hK.out _ _ HS.out fun _=>?_;clear hK K
                (try simp only[Act.put,zzA,zzB,zzC])
                refine held_more (S':=fun W=>(W.cell? ⟨xb,0,none⟩=some (.int .i64 t)∧W.cell? ⟨xb,1,none⟩=some (.int .u8 (x1:Int))∧W.cell? ⟨xb,2,none⟩=some (.int .u8 (x2:Int))∧W.cell? ⟨xb,3,none⟩=some (.int .u16 (x3:Int))∧W.cell? ⟨xb,4,none⟩=some (.int .u16 (x4:Int))∧W.cell? ⟨xb,5,none⟩=some (.int .u16 (x5:Int))∧W.cell? ⟨xb,6,none⟩=some (.int .u8 (x6:Int)))∧Bs W (some ⟨G,0,none⟩) 3 [x1,x2,x6]) (fun W h=>h.1) _ _ _ _ ?_;replace HS:=zh (And.intro HS.out HG.out)
                (refine zqK (i:=17) (v:= .string KB) rfl (Or.inl ⟨by rfl,?_⟩) HS.out ?_)
                · (intro w' hSw;obtain⟨⟨s0,s1,s2,s3,s4,s5,s6⟩,hg⟩:=hSw;have hcv:=HCV.out w' G 3 hg;go_simp;try with_reducible rfl)
                (try simp only[Act.put,zzA,zzB,zzC])
                iterate 5
                 refine zqT (v:=?_) HS.out rfl ?_ ?_;rotate_left
                 · intro w' hSw;obtain⟨⟨s0,s1,s2,s3,s4,s5,s6⟩,hg⟩:=hSw;go_simp;try with_reducible rfl
                 (try simp only[Act.put,zzA,zzB,zzC])
                refine zw39 (by kernel_rfl) ?_ _;go_wp2_with fail;rw[HSA.out];have d0:=(MKS.out _ HX.out).1;skip
                go_roundg (gh-1)
                case measure=>omega
                case rel=>exact⟨i+1,t,eachI l each t,P++(vb d++([x1,x2,x6]++(vb x3++(vb x4++vb x5)))),by omega,by go_num,rfl,rfl,ht4,HSM.out,HPN.out,zxt HEX.out HX.out,HTK.out⟩
        · go_simp
          have HG:=zh (show Bs (WA.alloc (.cells #[.int .u8 (x1:Int),.int .u8 (x2:Int),.int .u8 (x6:Int)] 5)) (some ⟨WA.heap.size,0,none⟩) 3 [x1,x2,x6]from bs_new WA 5 (0,0) [x1,x2,x6] HSB.out);replace HX:=zh (zxa HX.out (.cells #[.int .u8 (x1:Int),.int .u8 (x2:Int),.int .u8 (x6:Int)] 5));generalize WA.heap.size=G at*;generalize WA.alloc (.cells #[.int .u8 (x1:Int),.int .u8 (x2:Int),.int .u8 (x6:Int)] 5)=WA at*;have HS:=zh (MKS.out _ HX.out);refine hK.out _ _ HS.out fun _=>?_;clear hK K
          (try simp only[Act.put,zzA,zzB,zzC])
          refine held_more (S':=fun W=>(W.cell? ⟨xb,0,none⟩=some (.int .i64 t)∧W.cell? ⟨xb,1,none⟩=some (.int .u8 (x1:Int))∧W.cell? ⟨xb,2,none⟩=some (.int .u8 (x2:Int))∧W.cell? ⟨xb,3,none⟩=some (.int .u16 (x3:Int))∧W.cell? ⟨xb,4,none⟩=some (.int .u16 (x4:Int))∧W.cell? ⟨xb,5,none⟩=some (.int .u16 (x5:Int))∧W.cell? ⟨xb,6,none⟩=some (.int .u8 (x6:Int)))∧Bs W (some ⟨G,0,none⟩) 3 [x1,x2,x6]) (fun W h=>h.1) _ _ _ _ ?_;replace HS:=zh (And.intro HS.out HG.out)
          (refine zqK (i:=17) (v:= .string KB) rfl (Or.inl ⟨by rfl,?_⟩) HS.out ?_)
          · (intro w' hSw;obtain⟨⟨s0,s1,s2,s3,s4,s5,s6⟩,hg⟩:=hSw;have hcv:=HCV.out w' G 3 hg;go_simp;try with_reducible rfl)
          (try simp only[Act.put,zzA,zzB,zzC])
          refine zqO (i:=5) (by kernel_rfl) rfl fun K hK=>?_;go_simp;refine(HK1.out _).mono ?_;rintro e WA ⟨rfl,hE⟩;replace HX:=zh (zxt HX.out hE);replace HG:=zh (HG.out.ext hE);have HS:=zh (And.intro (MKS.out _ HX.out) HG.out);clear hE
          (try go_wp2_with fail)
          refine hK.out _ _ HS.out fun _=>?_;clear hK K
          (try simp only[Act.put,zzA,zzB,zzC])
          iterate 2
           refine zqT (v:=?_) HS.out rfl ?_ ?_;rotate_left
           · intro w' hSw;obtain⟨⟨s0,s1,s2,s3,s4,s5,s6⟩,hg⟩:=hSw;go_simp;try with_reducible rfl
           (try simp only[Act.put,zzA,zzB,zzC])
          refine zqO (i:=23) (by kernel_rfl) rfl fun K hK=>?_;go_simp;refine(HK2.out _).mono ?_;rintro e WA ⟨rfl,hE⟩;replace HX:=zh (zxt HX.out hE);replace HG:=zh (HG.out.ext hE);have HS:=zh (And.intro (MKS.out _ HX.out) HG.out);clear hE
          (try go_wp2_with fail)
          refine hK.out _ _ HS.out fun _=>?_;clear hK K
          (try simp only[Act.put,zzA,zzB,zzC])
          (refine zqT (v:=?_) HS.out rfl ?_ ?_);rotate_left
          · intro w' hSw;obtain⟨⟨s0,s1,s2,s3,s4,s5,s6⟩,hg⟩:=hSw;go_simp;try with_reducible rfl
          (try simp only[Act.put,zzA,zzB,zzC])
          refine zqO (i:=29) (by kernel_rfl) rfl fun K hK=>?_;go_simp;refine(HK3.out _).mono ?_;rintro e WA ⟨rfl,hE⟩;replace HX:=zh (zxt HX.out hE);replace HG:=zh (HG.out.ext hE);have HS:=zh (And.intro (MKS.out _ HX.out) HG.out);clear hE
          (try go_wp2_with fail)
          refine hK.out _ _ HS.out fun _=>?_;clear hK K
          (try simp only[Act.put,zzA,zzB,zzC])
          (refine zqT (v:=?_) HS.out rfl ?_ ?_);rotate_left
          · intro w' hSw;obtain⟨⟨s0,s1,s2,s3,s4,s5,s6⟩,hg⟩:=hSw;go_simp;try with_reducible rfl
          (try simp only[Act.put,zzA,zzB,zzC])
          refine zqO (i:=35) (by kernel_rfl) rfl fun K hK=>?_;go_simp;refine(HK4.out _).mono ?_;rintro e WA ⟨rfl,hE⟩;replace HX:=zh (zxt HX.out hE);replace HG:=zh (HG.out.ext hE);have HS:=zh (And.intro (MKS.out _ HX.out) HG.out);clear hE
          (try go_wp2_with fail)
          refine hK.out _ _ HS.out fun _=>?_;clear hK K
          (try simp only[Act.put,zzA,zzB,zzC])
          iterate 2
           refine zqT (v:=?_) HS.out rfl ?_ ?_;rotate_left
           · intro w' hSw;obtain⟨⟨s0,s1,s2,s3,s4,s5,s6⟩,hg⟩:=hSw;go_simp;try with_reducible rfl
           (try simp only[Act.put,zzA,zzB,zzC])
          refine zw39 (by kernel_rfl) ?_ _;go_wp2_with fail;rw[HSA.out];have d0:=(MKS.out _ HX.out).1;skip
          go_roundg (gh-1)
          case measure=>omega
          case rel=>exact⟨i+1,t,eachI l each t,P++(vb d++([x1,x2,x6]++(vb x3++(vb x4++vb x5)))),by omega,by go_num,rfl,rfl,ht4,HSM.out,HPN.out,zxt HEX.out HX.out,HTK.out⟩
    · obtain rfl:gh=0:=by omega
      have y2:¬(i:Int)<(m:Int):=by omega
      have HTF:Hid (T=some P):=zh (by
        rw[HTI.out,zw21 (by rw[HLEN.out];omega)];simp[pacedB,encV])
      clear HTI;obtain⟨S,hS⟩:∃S,S=strOf P:=⟨_,rfl⟩;have HSS:=zh hS;rw[←hS];clear hS;go_wp2_with fail;exact bodyPost_ret (v:= .tuple #[.string S,.int .i64 0]) (by simp[results,Tryz.results72,go_sem]) rfl ⟨HE.out,by rw[HTF.out,HSS.out];rfl⟩
end Go.Proofs.YtbopblbhjcemaaaGreatDoor.Fil
