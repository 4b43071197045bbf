/- Contracts of package lz: a place is remembered. -/
import Derived.Test.YtbopblbhjcemaaaGreatDoorF03
import Derived.Test.YtbopblbhjcemaaaGreatDoorF04
set_option maxHeartbeats 16000000
set_option maxRecDepth 100000
set_option linter.all false
open Go.ChangeShapes Go.WideShapes Go.ChangeAt Go.RowKit
namespace Go.Proofs.YtbopblbhjcemaaaGreatDoor.Lz
open Wire Go.Proofs.YtbopblbhjcemaaaGreatDoor.Map32
structure Keep (base:Nat) (w w':World):Prop where
 low:Below base w w'
 rows:∀(i:Nat) cs fr,w.heap[i]? =some (Obj.cells cs 5 fr)→w'.heap[i]? =w.heap[i]?
theorem Keep.refl (base:Nat) (w:World):Keep base w w:=⟨Below.refl _ _,fun _ _ _ _=>rfl⟩
theorem Keep.trans {base:Nat} {a b c:World} (h:Keep base a b) (k:Keep base b c):Keep base a c:=
 ⟨h.low.trans k.low,fun i cs fr hi=>(k.rows i cs fr ((h.rows i cs fr hi).trans hi)).trans (h.rows i cs fr hi)⟩
theorem Keep.ext {base:Nat} {a b:World} (h:Ext a b) (hb:base≤a.heap.size):Keep base a b:=
 ⟨h.mono hb,fun i cs fr hi=>h.block i (Array.getElem?_eq_some_iff.1 hi).1⟩
theorem Keep.grown {base:Nat} {a b:World} {row:Option Nat} (h:a.grownBy b row) (hb:base≤a.heap.size) (hr:∀k:Nat,row=some k→base≤k∧∀cs fr,a.heap[k]? ≠some (Obj.cells cs 5 fr)):Keep base a b:=
 ⟨⟨h.os,h.tape,h.output,h.size,fun k hk=>h.block k (by omega) (fun e=>by have:=(hr k e.symm).1;omega)⟩,
  fun i cs fr hi=>h.block i (Array.getElem?_eq_some_iff.1 hi).1 (fun e=>(hr i e.symm).2 cs fr hi)⟩
theorem Keep.bs {base:Nat} {a b:World} {A:Option Addr} {n:Nat} {xs:List Nat} (h:Keep base a b) (hB:Bs a A n xs) (hA:∀ad,A=some ad→ad.block<base):Bs b A n xs:=by
 refine⟨hB.1,hB.2.1,fun h0=>?_⟩;obtain⟨g,o,rfl,hg,hc⟩:=hB.2.2 h0;have hgb:=hA _ rfl;refine⟨g,o,rfl,zw9 hg h.low.size,fun j hj=>?_⟩;exact(h.low.cell (p:=⟨g,o+j,none⟩) hgb).trans (hc j hj)
theorem keep_map {base b:Nat} {a c:World} {M:Nat→Option Value} (h:MapR a b M) (hb:base≤b) (hg:a.grownBy c (some b)):Keep base a c:=
 Keep.grown hg (by have:=h.lt;omega) (fun k hk=>by
  obtain rfl:=zw13 hk;refine⟨hb,fun cs fr e=>?_⟩;obtain⟨es,cl,L,hh,_⟩:=h;rw[hh]at e;cases e)
theorem keep_row {base:Nat} {a c:World} {v:Value} {zs:List Nat} (h:(v= .slice none 0 0∧zs=[])∨Sl a base 3 v zs) (hb:base≤a.heap.size) (hg:a.grownBy c v.ownBlock):Keep base a c:=
 Keep.grown hg hb (fun k hk=>by
  rcases h with ⟨rfl,_⟩ | hs
  ·cases hk
  ·obtain⟨g,o,cap,cur,rfl,hbg,hh,_⟩:=hs
   obtain rfl:=zw13 hk;exact⟨hbg,fun cs fr e=>by rw[hh]at e;have:=(Obj.cells.inj (zw13 e)).2.1;revert this;decide⟩)
theorem zeroRow (w:World):(zeroValue 60).run Tryz.prog w= .ok (.slice none 0 0) w:=by kernel_rfl
theorem infoInt:(Tryz.prog.info? 3).map (fun i=>(i.zero,i.size,i.bytes))=some (some (.int .i64 0),1,8):=by kernel_rfl
theorem grown_refl (w:World) (row:Option Nat):w.grownBy w row:=⟨rfl,rfl,rfl,zw8 _,fun _ _ _=>rfl⟩
def Mid (w w':World) (base b:Nat) (xs:List Nat) (p:Nat):Prop:=∃M,Groups w' base 3 b M (fun k=>last16 (pls xs (p+1-4096) p k))∧Keep base w w'
def RemPost (w:World) (base b:Nat) (xs:List Nat) (p:Nat) (w':World):Prop:=∃M,Groups w' base 3 b M (seen xs p)∧Keep base w w'
theorem remember (A:Option Addr) (N c p base b:Nat) (xs:List Nat) (M:Nat→Option Value) (w:World) (hB:Bs w A N xs) (hA:∀ad,A=some ad→ad.block<base) (hG:Groups w base 3 b M (seen xs p)) (hp:p<N) (hN:N≤1000000):
  Calls Tryz.prog 121 #[.map (some b),.slice A N c,.int .i64 (p:Int)] w fun e w'=>e= .returned (.tuple #[])∧RemPost w base b xs (p+1) w':=by
 have hxl:xs.length=N:=hB.1;have hbw:base≤w.heap.size:=by have:=hG.map.lt;have:=hG.at_;omega
 have HB:=zh hB;have HA:=zh hA;have HG:=zh hG;have HXL:=zh hxl;clear hB hA hG hxl;go_enter Tryz.func121,Tryz.ntmps121;go_wp2_with fail;by_cases h4:4096≤p
 ·have HK:=zh h4
  rw[show((p:Int)-4096)=((p-4096:Nat):Int)from by omega];refine(three_yes A N c (p-4096) xs w HB.out hN (by omega)).mono ?_;rintro e w1 ⟨rfl,b1⟩;have HG1:=zh (HG.out.ext b1);have HW1:=zh (Keep.ext b1 hbw);generalize hk1:key xs (p-4096)=k1;have hkl:k1<4294967296:=by
   have:=HB.out.2.1 (p-4096);have:=HB.out.2.1 (p-4096+1);have:=HB.out.2.1 (p-4096+2);rw[←hk1];unfold key;omega
  have HK1:=zh hk1;clear hk1;have hmd:∀k,k≠k1→last16 (pls xs (p+1-4096) p k)=seen xs p k:=fun k hk=>seen_lo h4 (by rw[HXL.out];omega) (by rw[HK1.out];exact Ne.symm hk);have HMD:=zh hmd;clear hmd;rcases HG1.out.look k1 with ⟨hv,hs0⟩ | ⟨hv,hs0,hsl⟩
  ·have hrun:=run_look (P:=Tryz.prog) HG1.out.map Tryz.underlying187 Tryz.underlying53 (zeroRow w1) k1
   rw[hv]at hrun;have HMID:Hid (Mid w w1 base b xs p):=zh ⟨M,HG1.out.same (fun _=>rfl) (fun k=>by
    by_cases hk:k=k1
    ·rcases seen_lo_here (xs:=xs) (at_:=p) (k:=k1) h4 (by rw[HXL.out];omega) HK1.out with ⟨r,e1,e2⟩ | ⟨e1,e2⟩
     ·rw[hs0]at e1;cases e1
     ·rw[hk];exact e1.symm
    ·exact HMD.out k hk),HW1.out⟩
   clear hv hs0;go_wp2_with fail;clear hrun;obtain⟨M2,hG2,hW2⟩:=HMID.out;have HG2:=zh hG2;have HW2:=zh hW2;clear hG2 hW2 HMID;by_cases h3:p+3≤N
   ·refine(three_yes A N c p xs _ (HW2.out.bs HB.out HA.out) hN h3).mono ?_
    rintro e w3 ⟨rfl,b3⟩;have HW3:=zh (HW2.out.trans (Keep.ext b3 (by have:=HG2.out.map.lt;have:=HG2.out.at_;omega)));have HG3:=zh (HG2.out.ext b3);have HF3:=zh (fun k=>seen_hi (xs:=xs) (at_:=p) (k:=k));generalize hk2:key xs p=k2 at*;have HK2:=zh hk2;clear hk2;obtain⟨i3,hi0,hz0,hz1,hz2⟩:=info_parts infoInt;have HI:=zh (And.intro hi0 (And.intro hz0 (And.intro hz1 hz2)));clear hi0 hz0 hz1 hz2;have hbs:=HG3.out.map.lt;have hbb:=HG3.out.at_;rcases HG3.out.look k2 with ⟨hv,hs0⟩ | ⟨hv,hs0,hsl⟩
    ·have hrun:=run_look (P:=Tryz.prog) HG3.out.map Tryz.underlying187 Tryz.underlying53 (zeroRow w3) k2
     rw[hv]at hrun;have HV:=zh hv;have HS0:=zh hs0;clear hv hs0;have HGA:=zh (HG3.out.ext (zxa (zxr w3) (.cells #[.int .i64 (p:Int)] 3)));have hy:(w3.alloc (.cells #[.int .i64 (p:Int)] 3)).cell? ⟨w3.heap.size,0,none⟩=some (.int .i64 (p:Int)):=(Blk.new w3 _ _).cell 0;have HY:=zh hy;clear hy;go_wp2_with (first | (at_builtin;refine wpList_more (base:=base) (e:=3) rfl (.tmp 69) (.tmp 71) 60 rfl i3 (.int .i64 0) Tryz.underlying60 HI.out.1 HI.out.2.1 HI.out.2.2.1 HI.out.2.2.2 rfl (.slice none 0 0) [] (.inl ⟨rfl,rfl⟩) ⟨w3.heap.size,0,none⟩ p rfl rfl HY.out (by simp) (by simp;omega) ?_;intro v4 w4 hs4 hg4 hb4;have HS4:=zh hs4;have HG4:=zh hg4;have HB4:=zh hb4;have HM4:=zh (HGA.out.map.kept hg4 (by intro h;cases h));clear hs4 hg4 hb4) | (at_mapUpdate;refine wpList_put rfl (.tmp 67) (.tmp 68) (.tmp 72) rfl Tryz.underlying187 Tryz.underlying53 rfl HM4.out k2 v4 rfl rfl ?_;intro w5 hm5 hg5;have HM5:=zh hm5;have HG5:=zh hg5;clear hm5 hg5))
     have HBB:Hid (v4.ownBlock=((M2 k2).getD (.slice none 0 0)).ownBlock∨∃g,v4.ownBlock=some g∧(w3.alloc (.cells #[.int .i64 (p:Int)] 3)).heap.size≤g):=zh (by
      rw[HV.out];rcases HB4.out with h | h
      ·exact .inl h
      ·exact .inr ⟨_,h,zw8 _⟩)
     have KR:Hid ((Value.slice none 0 0= .slice none 0 0∧([]:List Nat)=[])∨Sl (w3.alloc (.cells #[.int .i64 (p:Int)] 3)) base 3 (.slice none 0 0) []):=zh (.inl ⟨rfl,rfl⟩);have HFF:Hid (∀k,seen xs (p+1) k=if k=k2 then []++[p]else last16 (pls xs (p+1-4096) p k)):=zh (fun k=>by
      by_cases hk:k=k2
      ·rw[if_pos hk,hk,HF3.out,if_pos ⟨by rw[HXL.out];exact h3,rfl⟩,HS0.out];rfl
      ·rw[if_neg hk,HF3.out,if_neg (fun h=>hk h.2.symm)])
     refine bodyPost_end (results_none rfl _ _ _) rfl ?_;exact⟨rfl,_,(HGA.out.put k2 (by simp) (by rw[HV.out];exact HG4.out) HS4.out HBB.out HM5.out HG5.out).same (fun _=>rfl) HFF.out,HW3.out.trans ((Keep.ext (zxa (zxr w3) _) (by omega)).trans ((keep_row KR.out (by simp;omega) HG4.out).trans (keep_map HM4.out hbb HG5.out)))⟩
    ·obtain⟨g,o,cap,hve,hc1,hc2,hgb⟩:=hsl.shape
     have hrun:=run_look (P:=Tryz.prog) HG3.out.map Tryz.underlying187 Tryz.underlying53 (zeroRow w3) k2;rw[hve]at hrun hsl;have hn16:(last16 (pls xs (p+1-4096) p k2)).length≤16:=by rw[last16_len];omega
     have HVB:Hid (((M2 k2).getD (.slice none 0 0)).ownBlock=some g):=zh (by rw[hve];rfl);have HV:=zh hve;clear hve hv;have HGA:=zh (HG3.out.ext (zxa (zxr w3) (.cells #[.int .i64 (p:Int)] 3)));have hy:(w3.alloc (.cells #[.int .i64 (p:Int)] 3)).cell? ⟨w3.heap.size,0,none⟩=some (.int .i64 (p:Int)):=(Blk.new w3 _ _).cell 0;have HY:=zh hy;clear hy;obtain⟨zs,hzs⟩:∃zs,zs=last16 (pls xs (p+1-4096) p k2):=⟨_,rfl⟩;rw[←hzs]at hsl hrun hc1 hn16;have HZS:=zh hzs;clear hzs hs0;by_cases h16:zs.length=16
     ·cases zs with
      | nil=>simp at h16
      | cons z r=>
       have hr15:r.length=15:=by simpa using h16
       have HSA0:=zh (Sl.tail (n:=r.length) hsl);rw[h16]at hrun hc1;rw[hr15]at HSA0;have HSA:=zh (HSA0.out.ext (zxa (zxr w3) (.cells #[.int .i64 (p:Int)] 3)));clear hsl;go_wp2_with (first | (at_builtin;refine wpList_more (base:=base) (e:=3) rfl (.tmp 69) (.tmp 71) 60 rfl i3 (.int .i64 0) Tryz.underlying60 HI.out.1 HI.out.2.1 HI.out.2.2.1 HI.out.2.2.2 rfl (.slice (some ⟨g,o+1,none⟩) 15 (cap-1)) r (.inr HSA.out) ⟨w3.heap.size,0,none⟩ p rfl rfl HY.out (by omega) (by simp;omega) ?_;intro v4 w4 hs4 hg4 hb4;have HS4:=zh hs4;have HG4:=zh hg4;have HB4:=zh hb4;have HM4:=zh (HGA.out.map.kept hg4 (ne_sl HGA.out.map HSA.out).symm);clear hs4 hg4 hb4) | (at_mapUpdate;refine wpList_put rfl (.tmp 67) (.tmp 68) (.tmp 72) rfl Tryz.underlying187 Tryz.underlying53 rfl HM4.out k2 v4 rfl rfl ?_;intro w5 hm5 hg5;have HM5:=zh hm5;have HG5:=zh hg5;clear hm5 hg5))
       have HBB:Hid (v4.ownBlock=((M2 k2).getD (.slice none 0 0)).ownBlock∨∃g,v4.ownBlock=some g∧(w3.alloc (.cells #[.int .i64 (p:Int)] 3)).heap.size≤g):=zh (by
        rw[HVB.out];rcases HB4.out with h | h
        ·exact .inl h
        ·exact .inr ⟨_,h,zw8 _⟩)
       have KR:=zh (Or.inr (a:=(Value.slice (some ⟨g,o+1,none⟩) 15 (cap-1)= .slice none 0 0∧r=[])) HSA.out);have HFF:Hid (∀k,seen xs (p+1) k=if k=k2 then r++[p]else last16 (pls xs (p+1-4096) p k)):=zh (fun k=>by
        by_cases hk:k=k2
        ·rw[if_pos hk,hk,HF3.out,if_pos ⟨by rw[HXL.out];exact h3,rfl⟩,←HZS.out,if_pos h16];rfl
        ·rw[if_neg hk,HF3.out,if_neg (fun h=>hk h.2.symm)])
       refine bodyPost_end (results_none rfl _ _ _) rfl ?_;exact⟨rfl,_,(HGA.out.put k2 (by simp) (by rw[HVB.out];exact HG4.out) HS4.out HBB.out HM5.out HG5.out).same (fun _=>rfl) HFF.out,HW3.out.trans ((Keep.ext (zxa (zxr w3) _) (by omega)).trans ((keep_row KR.out (by simp;omega) HG4.out).trans (keep_map HM4.out hbb HG5.out)))⟩
     ·have HSA:=zh (hsl.ext (zxa (zxr w3) (.cells #[.int .i64 (p:Int)] 3)))
      have q16:((zs.length:Int)==16)=false:=zw12.2 (by omega);clear hsl;go_wp2_with (first | (at_builtin;refine wpList_more (base:=base) (e:=3) rfl (.tmp 69) (.tmp 71) 60 rfl i3 (.int .i64 0) Tryz.underlying60 HI.out.1 HI.out.2.1 HI.out.2.2.1 HI.out.2.2.2 rfl (.slice (some ⟨g,o,none⟩) zs.length cap) zs (.inr HSA.out) ⟨w3.heap.size,0,none⟩ p rfl rfl HY.out (by omega) (by simp;omega) ?_;intro v4 w4 hs4 hg4 hb4;have HS4:=zh hs4;have HG4:=zh hg4;have HB4:=zh hb4;have HM4:=zh (HGA.out.map.kept hg4 (ne_sl HGA.out.map HSA.out).symm);clear hs4 hg4 hb4) | (at_mapUpdate;refine wpList_put rfl (.tmp 67) (.tmp 68) (.tmp 72) rfl Tryz.underlying187 Tryz.underlying53 rfl HM4.out k2 v4 rfl rfl ?_;intro w5 hm5 hg5;have HM5:=zh hm5;have HG5:=zh hg5;clear hm5 hg5))
      have HBB:Hid (v4.ownBlock=((M2 k2).getD (.slice none 0 0)).ownBlock∨∃g,v4.ownBlock=some g∧(w3.alloc (.cells #[.int .i64 (p:Int)] 3)).heap.size≤g):=zh (by
       rw[HVB.out];rcases HB4.out with h | h
       ·exact .inl h
       ·exact .inr ⟨_,h,zw8 _⟩)
      have KR:=zh (Or.inr (a:=(Value.slice (some ⟨g,o,none⟩) zs.length cap= .slice none 0 0∧zs=[])) HSA.out);have HFF:Hid (∀k,seen xs (p+1) k=if k=k2 then zs++[p]else last16 (pls xs (p+1-4096) p k)):=zh (fun k=>by
       by_cases hk:k=k2
       ·rw[if_pos hk,hk,HF3.out,if_pos ⟨by rw[HXL.out];exact h3,rfl⟩,←HZS.out,if_neg h16]
       ·rw[if_neg hk,HF3.out,if_neg (fun h=>hk h.2.symm)])
      refine bodyPost_end (results_none rfl _ _ _) rfl ?_;exact⟨rfl,_,(HGA.out.put k2 (by simp) (by rw[HVB.out];exact HG4.out) HS4.out HBB.out HM5.out HG5.out).same (fun _=>rfl) HFF.out,HW3.out.trans ((Keep.ext (zxa (zxr w3) _) (by omega)).trans ((keep_row KR.out (by simp;omega) HG4.out).trans (keep_map HM4.out hbb HG5.out)))⟩
   ·have HS1:Hid (∀k,seen xs (p+1) k=last16 (pls xs (p+1-4096) p k)):=zh (fun k=>by rw[seen_hi,if_neg (fun hh=>by rw[HXL.out]at hh;exact h3 hh.1)])
    refine(three_no A N c (p:Int) _ hN (by omega) (by omega) (.inr (by omega))).mono ?_;rintro e w3 ⟨rfl,rfl⟩;go_wp2_with fail;refine bodyPost_ret (results_none rfl _ _ _) rfl ?_;exact⟨rfl,M2,HG2.out.same (fun _=>rfl) HS1.out,HW2.out⟩
  ·obtain⟨g,o,cap,hve,hc1,hc2,hgb⟩:=hsl.shape
   have hrun:=run_look (P:=Tryz.prog) HG1.out.map Tryz.underlying187 Tryz.underlying53 (zeroRow w1) k1;rw[hve]at hrun hsl hv;have hn16:=seen_len xs p k1;rcases seen_lo_here (xs:=xs) (at_:=p) (k:=k1) h4 (by rw[HXL.out];omega) HK1.out with ⟨r,e1,e2⟩ | ⟨e1,e2⟩
   ·rw[e1]at hrun hsl hc1 hn16
    have c0:=hsl.cells 0 (by simp);have f0:=hsl.frozen 0 (by simp);simp only[zw3,Nat.add_zero,List.getD_cons_zero]at c0 hrun hc1 hn16 f0;have q9:(((p-4096:Nat):Int)==(p:Int)-4096)=true:=beq_iff_eq.2 (by omega);have HSL:=zh hsl;have HV:=zh hv;have HE2:=zh e2;have HE1:=zh e1;clear hsl hv e2 e1 hs0 hve
    cases r with
    | nil=>
     go_wp2_with (refine wpList_del rfl (.tmp 49) (.tmp 50) 53 rfl Tryz.underlying187 Tryz.underlying53 rfl HG1.out.map k1 rfl ?_;intro w2 hm2 hg2)
     have HMID:Hid (Mid w w2 base b xs p):=zh ⟨_,(HG1.out.del k1 hm2 hg2).same (fun _=>rfl) (fun k=>by
      by_cases hk:k=k1
      ·rw[if_pos hk,hk];exact HE2.out
      ·rw[if_neg hk];exact HMD.out k hk),HW1.out.trans (keep_map HG1.out.map HG1.out.at_ hg2)⟩
     clear hm2 hg2 hrun;obtain⟨M2,hG2,hW2⟩:=HMID.out;have HG2:=zh hG2;have HW2:=zh hW2;clear hG2 hW2 HMID;by_cases h3:p+3≤N
     ·refine(three_yes A N c p xs _ (HW2.out.bs HB.out HA.out) hN h3).mono ?_
      rintro e w3 ⟨rfl,b3⟩;have HW3:=zh (HW2.out.trans (Keep.ext b3 (by have:=HG2.out.map.lt;have:=HG2.out.at_;omega)));have HG3:=zh (HG2.out.ext b3);have HF3:=zh (fun k=>seen_hi (xs:=xs) (at_:=p) (k:=k));generalize hk2:key xs p=k2 at*;have HK2:=zh hk2;clear hk2;obtain⟨i3,hi0,hz0,hz1,hz2⟩:=info_parts infoInt;have HI:=zh (And.intro hi0 (And.intro hz0 (And.intro hz1 hz2)));clear hi0 hz0 hz1 hz2;have hbs:=HG3.out.map.lt;have hbb:=HG3.out.at_;rcases HG3.out.look k2 with ⟨hv,hs0⟩ | ⟨hv,hs0,hsl⟩
      ·have hrun:=run_look (P:=Tryz.prog) HG3.out.map Tryz.underlying187 Tryz.underlying53 (zeroRow w3) k2
       rw[hv]at hrun;have HV:=zh hv;have HS0:=zh hs0;clear hv hs0;have HGA:=zh (HG3.out.ext (zxa (zxr w3) (.cells #[.int .i64 (p:Int)] 3)));have hy:(w3.alloc (.cells #[.int .i64 (p:Int)] 3)).cell? ⟨w3.heap.size,0,none⟩=some (.int .i64 (p:Int)):=(Blk.new w3 _ _).cell 0;have HY:=zh hy;clear hy;go_wp2_with (first | (at_builtin;refine wpList_more (base:=base) (e:=3) rfl (.tmp 69) (.tmp 71) 60 rfl i3 (.int .i64 0) Tryz.underlying60 HI.out.1 HI.out.2.1 HI.out.2.2.1 HI.out.2.2.2 rfl (.slice none 0 0) [] (.inl ⟨rfl,rfl⟩) ⟨w3.heap.size,0,none⟩ p rfl rfl HY.out (by simp) (by simp;omega) ?_;intro v4 w4 hs4 hg4 hb4;have HS4:=zh hs4;have HG4:=zh hg4;have HB4:=zh hb4;have HM4:=zh (HGA.out.map.kept hg4 (by intro h;cases h));clear hs4 hg4 hb4) | (at_mapUpdate;refine wpList_put rfl (.tmp 67) (.tmp 68) (.tmp 72) rfl Tryz.underlying187 Tryz.underlying53 rfl HM4.out k2 v4 rfl rfl ?_;intro w5 hm5 hg5;have HM5:=zh hm5;have HG5:=zh hg5;clear hm5 hg5))
       have HBB:Hid (v4.ownBlock=((M2 k2).getD (.slice none 0 0)).ownBlock∨∃g,v4.ownBlock=some g∧(w3.alloc (.cells #[.int .i64 (p:Int)] 3)).heap.size≤g):=zh (by
        rw[HV.out];rcases HB4.out with h | h
        ·exact .inl h
        ·exact .inr ⟨_,h,zw8 _⟩)
       have KR:Hid ((Value.slice none 0 0= .slice none 0 0∧([]:List Nat)=[])∨Sl (w3.alloc (.cells #[.int .i64 (p:Int)] 3)) base 3 (.slice none 0 0) []):=zh (.inl ⟨rfl,rfl⟩);have HFF:Hid (∀k,seen xs (p+1) k=if k=k2 then []++[p]else last16 (pls xs (p+1-4096) p k)):=zh (fun k=>by
        by_cases hk:k=k2
        ·rw[if_pos hk,hk,HF3.out,if_pos ⟨by rw[HXL.out];exact h3,rfl⟩,HS0.out];rfl
        ·rw[if_neg hk,HF3.out,if_neg (fun h=>hk h.2.symm)])
       refine bodyPost_end (results_none rfl _ _ _) rfl ?_;exact⟨rfl,_,(HGA.out.put k2 (by simp) (by rw[HV.out];exact HG4.out) HS4.out HBB.out HM5.out HG5.out).same (fun _=>rfl) HFF.out,HW3.out.trans ((Keep.ext (zxa (zxr w3) _) (by omega)).trans ((keep_row KR.out (by simp;omega) HG4.out).trans (keep_map HM4.out hbb HG5.out)))⟩
      ·obtain⟨g,o,cap,hve,hc1,hc2,hgb⟩:=hsl.shape
       have hrun:=run_look (P:=Tryz.prog) HG3.out.map Tryz.underlying187 Tryz.underlying53 (zeroRow w3) k2;rw[hve]at hrun hsl;have hn16:(last16 (pls xs (p+1-4096) p k2)).length≤16:=by rw[last16_len];omega
       have HVB:Hid (((M2 k2).getD (.slice none 0 0)).ownBlock=some g):=zh (by rw[hve];rfl);have HV:=zh hve;clear hve hv;have HGA:=zh (HG3.out.ext (zxa (zxr w3) (.cells #[.int .i64 (p:Int)] 3)));have hy:(w3.alloc (.cells #[.int .i64 (p:Int)] 3)).cell? ⟨w3.heap.size,0,none⟩=some (.int .i64 (p:Int)):=(Blk.new w3 _ _).cell 0;have HY:=zh hy;clear hy;obtain⟨zs,hzs⟩:∃zs,zs=last16 (pls xs (p+1-4096) p k2):=⟨_,rfl⟩;rw[←hzs]at hsl hrun hc1 hn16;have HZS:=zh hzs;clear hzs hs0;by_cases h16:zs.length=16
       ·cases zs with
        | nil=>simp at h16
        | cons z r=>
         have hr15:r.length=15:=by simpa using h16
         have HSA0:=zh (Sl.tail (n:=r.length) hsl);rw[h16]at hrun hc1;rw[hr15]at HSA0;have HSA:=zh (HSA0.out.ext (zxa (zxr w3) (.cells #[.int .i64 (p:Int)] 3)));clear hsl;go_wp2_with (first | (at_builtin;refine wpList_more (base:=base) (e:=3) rfl (.tmp 69) (.tmp 71) 60 rfl i3 (.int .i64 0) Tryz.underlying60 HI.out.1 HI.out.2.1 HI.out.2.2.1 HI.out.2.2.2 rfl (.slice (some ⟨g,o+1,none⟩) 15 (cap-1)) r (.inr HSA.out) ⟨w3.heap.size,0,none⟩ p rfl rfl HY.out (by omega) (by simp;omega) ?_;intro v4 w4 hs4 hg4 hb4;have HS4:=zh hs4;have HG4:=zh hg4;have HB4:=zh hb4;have HM4:=zh (HGA.out.map.kept hg4 (ne_sl HGA.out.map HSA.out).symm);clear hs4 hg4 hb4) | (at_mapUpdate;refine wpList_put rfl (.tmp 67) (.tmp 68) (.tmp 72) rfl Tryz.underlying187 Tryz.underlying53 rfl HM4.out k2 v4 rfl rfl ?_;intro w5 hm5 hg5;have HM5:=zh hm5;have HG5:=zh hg5;clear hm5 hg5))
         have HBB:Hid (v4.ownBlock=((M2 k2).getD (.slice none 0 0)).ownBlock∨∃g,v4.ownBlock=some g∧(w3.alloc (.cells #[.int .i64 (p:Int)] 3)).heap.size≤g):=zh (by
          rw[HVB.out];rcases HB4.out with h | h
          ·exact .inl h
          ·exact .inr ⟨_,h,zw8 _⟩)
         have KR:=zh (Or.inr (a:=(Value.slice (some ⟨g,o+1,none⟩) 15 (cap-1)= .slice none 0 0∧r=[])) HSA.out);have HFF:Hid (∀k,seen xs (p+1) k=if k=k2 then r++[p]else last16 (pls xs (p+1-4096) p k)):=zh (fun k=>by
          by_cases hk:k=k2
          ·rw[if_pos hk,hk,HF3.out,if_pos ⟨by rw[HXL.out];exact h3,rfl⟩,←HZS.out,if_pos h16];rfl
          ·rw[if_neg hk,HF3.out,if_neg (fun h=>hk h.2.symm)])
         refine bodyPost_end (results_none rfl _ _ _) rfl ?_;exact⟨rfl,_,(HGA.out.put k2 (by simp) (by rw[HVB.out];exact HG4.out) HS4.out HBB.out HM5.out HG5.out).same (fun _=>rfl) HFF.out,HW3.out.trans ((Keep.ext (zxa (zxr w3) _) (by omega)).trans ((keep_row KR.out (by simp;omega) HG4.out).trans (keep_map HM4.out hbb HG5.out)))⟩
       ·have HSA:=zh (hsl.ext (zxa (zxr w3) (.cells #[.int .i64 (p:Int)] 3)))
        have q16:((zs.length:Int)==16)=false:=zw12.2 (by omega);clear hsl;go_wp2_with (first | (at_builtin;refine wpList_more (base:=base) (e:=3) rfl (.tmp 69) (.tmp 71) 60 rfl i3 (.int .i64 0) Tryz.underlying60 HI.out.1 HI.out.2.1 HI.out.2.2.1 HI.out.2.2.2 rfl (.slice (some ⟨g,o,none⟩) zs.length cap) zs (.inr HSA.out) ⟨w3.heap.size,0,none⟩ p rfl rfl HY.out (by omega) (by simp;omega) ?_;intro v4 w4 hs4 hg4 hb4;have HS4:=zh hs4;have HG4:=zh hg4;have HB4:=zh hb4;have HM4:=zh (HGA.out.map.kept hg4 (ne_sl HGA.out.map HSA.out).symm);clear hs4 hg4 hb4) | (at_mapUpdate;refine wpList_put rfl (.tmp 67) (.tmp 68) (.tmp 72) rfl Tryz.underlying187 Tryz.underlying53 rfl HM4.out k2 v4 rfl rfl ?_;intro w5 hm5 hg5;have HM5:=zh hm5;have HG5:=zh hg5;clear hm5 hg5))
        have HBB:Hid (v4.ownBlock=((M2 k2).getD (.slice none 0 0)).ownBlock∨∃g,v4.ownBlock=some g∧(w3.alloc (.cells #[.int .i64 (p:Int)] 3)).heap.size≤g):=zh (by
         rw[HVB.out];rcases HB4.out with h | h
         ·exact .inl h
         ·exact .inr ⟨_,h,zw8 _⟩)
        have KR:=zh (Or.inr (a:=(Value.slice (some ⟨g,o,none⟩) zs.length cap= .slice none 0 0∧zs=[])) HSA.out);have HFF:Hid (∀k,seen xs (p+1) k=if k=k2 then zs++[p]else last16 (pls xs (p+1-4096) p k)):=zh (fun k=>by
         by_cases hk:k=k2
         ·rw[if_pos hk,hk,HF3.out,if_pos ⟨by rw[HXL.out];exact h3,rfl⟩,←HZS.out,if_neg h16]
         ·rw[if_neg hk,HF3.out,if_neg (fun h=>hk h.2.symm)])
        refine bodyPost_end (results_none rfl _ _ _) rfl ?_;exact⟨rfl,_,(HGA.out.put k2 (by simp) (by rw[HVB.out];exact HG4.out) HS4.out HBB.out HM5.out HG5.out).same (fun _=>rfl) HFF.out,HW3.out.trans ((Keep.ext (zxa (zxr w3) _) (by omega)).trans ((keep_row KR.out (by simp;omega) HG4.out).trans (keep_map HM4.out hbb HG5.out)))⟩
     ·have HS1:Hid (∀k,seen xs (p+1) k=last16 (pls xs (p+1-4096) p k)):=zh (fun k=>by rw[seen_hi,if_neg (fun hh=>by rw[HXL.out]at hh;exact h3 hh.1)])
      refine(three_no A N c (p:Int) _ hN (by omega) (by omega) (.inr (by omega))).mono ?_;rintro e w3 ⟨rfl,rfl⟩;go_wp2_with fail;refine bodyPost_ret (results_none rfl _ _ _) rfl ?_;exact⟨rfl,M2,HG2.out.same (fun _=>rfl) HS1.out,HW2.out⟩
    | cons z2 r2=>
     simp only[zw3]at hrun hc1 hn16;have q1:(1:Int)<((r2.length+1+1:Nat):Int):=by omega
     go_wp2_with (at_mapUpdate;refine wpList_put rfl (.tmp 34) (.tmp 35) (.tmp 37) rfl Tryz.underlying187 Tryz.underlying53 rfl HG1.out.map k1 _ rfl rfl ?_;intro w2 hm2 hg2)
     have HMID:Hid (Mid w w2 base b xs p):=zh ⟨_,(HG1.out.put k1 (zs':=z2::r2) (by simp) (grown_refl _ _) (Sl.tail (n:=r2.length+1) HSL.out) (.inl (by rw[HV.out];rfl)) hm2 hg2).same (fun _=>rfl) (fun k=>by
      by_cases hk:k=k1
      ·rw[if_pos hk,hk];exact HE2.out
      ·rw[if_neg hk];exact HMD.out k hk),HW1.out.trans (keep_map HG1.out.map HG1.out.at_ hg2)⟩
     clear hm2 hg2 hrun;obtain⟨M2,hG2,hW2⟩:=HMID.out;have HG2:=zh hG2;have HW2:=zh hW2;clear hG2 hW2 HMID;by_cases h3:p+3≤N
     ·refine(three_yes A N c p xs _ (HW2.out.bs HB.out HA.out) hN h3).mono ?_
      rintro e w3 ⟨rfl,b3⟩;have HW3:=zh (HW2.out.trans (Keep.ext b3 (by have:=HG2.out.map.lt;have:=HG2.out.at_;omega)));have HG3:=zh (HG2.out.ext b3);have HF3:=zh (fun k=>seen_hi (xs:=xs) (at_:=p) (k:=k));generalize hk2:key xs p=k2 at*;have HK2:=zh hk2;clear hk2;obtain⟨i3,hi0,hz0,hz1,hz2⟩:=info_parts infoInt;have HI:=zh (And.intro hi0 (And.intro hz0 (And.intro hz1 hz2)));clear hi0 hz0 hz1 hz2;have hbs:=HG3.out.map.lt;have hbb:=HG3.out.at_;rcases HG3.out.look k2 with ⟨hv,hs0⟩ | ⟨hv,hs0,hsl⟩
      ·have hrun:=run_look (P:=Tryz.prog) HG3.out.map Tryz.underlying187 Tryz.underlying53 (zeroRow w3) k2
       rw[hv]at hrun;have HV:=zh hv;have HS0:=zh hs0;clear hv hs0;have HGA:=zh (HG3.out.ext (zxa (zxr w3) (.cells #[.int .i64 (p:Int)] 3)));have hy:(w3.alloc (.cells #[.int .i64 (p:Int)] 3)).cell? ⟨w3.heap.size,0,none⟩=some (.int .i64 (p:Int)):=(Blk.new w3 _ _).cell 0;have HY:=zh hy;clear hy;go_wp2_with (first | (at_builtin;refine wpList_more (base:=base) (e:=3) rfl (.tmp 69) (.tmp 71) 60 rfl i3 (.int .i64 0) Tryz.underlying60 HI.out.1 HI.out.2.1 HI.out.2.2.1 HI.out.2.2.2 rfl (.slice none 0 0) [] (.inl ⟨rfl,rfl⟩) ⟨w3.heap.size,0,none⟩ p rfl rfl HY.out (by simp) (by simp;omega) ?_;intro v4 w4 hs4 hg4 hb4;have HS4:=zh hs4;have HG4:=zh hg4;have HB4:=zh hb4;have HM4:=zh (HGA.out.map.kept hg4 (by intro h;cases h));clear hs4 hg4 hb4) | (at_mapUpdate;refine wpList_put rfl (.tmp 67) (.tmp 68) (.tmp 72) rfl Tryz.underlying187 Tryz.underlying53 rfl HM4.out k2 v4 rfl rfl ?_;intro w5 hm5 hg5;have HM5:=zh hm5;have HG5:=zh hg5;clear hm5 hg5))
       have HBB:Hid (v4.ownBlock=((M2 k2).getD (.slice none 0 0)).ownBlock∨∃g,v4.ownBlock=some g∧(w3.alloc (.cells #[.int .i64 (p:Int)] 3)).heap.size≤g):=zh (by
        rw[HV.out];rcases HB4.out with h | h
        ·exact .inl h
        ·exact .inr ⟨_,h,zw8 _⟩)
       have KR:Hid ((Value.slice none 0 0= .slice none 0 0∧([]:List Nat)=[])∨Sl (w3.alloc (.cells #[.int .i64 (p:Int)] 3)) base 3 (.slice none 0 0) []):=zh (.inl ⟨rfl,rfl⟩);have HFF:Hid (∀k,seen xs (p+1) k=if k=k2 then []++[p]else last16 (pls xs (p+1-4096) p k)):=zh (fun k=>by
        by_cases hk:k=k2
        ·rw[if_pos hk,hk,HF3.out,if_pos ⟨by rw[HXL.out];exact h3,rfl⟩,HS0.out];rfl
        ·rw[if_neg hk,HF3.out,if_neg (fun h=>hk h.2.symm)])
       refine bodyPost_end (results_none rfl _ _ _) rfl ?_;exact⟨rfl,_,(HGA.out.put k2 (by simp) (by rw[HV.out];exact HG4.out) HS4.out HBB.out HM5.out HG5.out).same (fun _=>rfl) HFF.out,HW3.out.trans ((Keep.ext (zxa (zxr w3) _) (by omega)).trans ((keep_row KR.out (by simp;omega) HG4.out).trans (keep_map HM4.out hbb HG5.out)))⟩
      ·obtain⟨g,o,cap,hve,hc1,hc2,hgb⟩:=hsl.shape
       have hrun:=run_look (P:=Tryz.prog) HG3.out.map Tryz.underlying187 Tryz.underlying53 (zeroRow w3) k2;rw[hve]at hrun hsl;have hn16:(last16 (pls xs (p+1-4096) p k2)).length≤16:=by rw[last16_len];omega
       have HVB:Hid (((M2 k2).getD (.slice none 0 0)).ownBlock=some g):=zh (by rw[hve];rfl);have HV:=zh hve;clear hve hv;have HGA:=zh (HG3.out.ext (zxa (zxr w3) (.cells #[.int .i64 (p:Int)] 3)));have hy:(w3.alloc (.cells #[.int .i64 (p:Int)] 3)).cell? ⟨w3.heap.size,0,none⟩=some (.int .i64 (p:Int)):=(Blk.new w3 _ _).cell 0;have HY:=zh hy;clear hy;obtain⟨zs,hzs⟩:∃zs,zs=last16 (pls xs (p+1-4096) p k2):=⟨_,rfl⟩;rw[←hzs]at hsl hrun hc1 hn16;have HZS:=zh hzs;clear hzs hs0;by_cases h16:zs.length=16
       ·cases zs with
        | nil=>simp at h16
        | cons z r=>
         have hr15:r.length=15:=by simpa using h16
         have HSA0:=zh (Sl.tail (n:=r.length) hsl);rw[h16]at hrun hc1;rw[hr15]at HSA0;have HSA:=zh (HSA0.out.ext (zxa (zxr w3) (.cells #[.int .i64 (p:Int)] 3)));clear hsl;go_wp2_with (first | (at_builtin;refine wpList_more (base:=base) (e:=3) rfl (.tmp 69) (.tmp 71) 60 rfl i3 (.int .i64 0) Tryz.underlying60 HI.out.1 HI.out.2.1 HI.out.2.2.1 HI.out.2.2.2 rfl (.slice (some ⟨g,o+1,none⟩) 15 (cap-1)) r (.inr HSA.out) ⟨w3.heap.size,0,none⟩ p rfl rfl HY.out (by omega) (by simp;omega) ?_;intro v4 w4 hs4 hg4 hb4;have HS4:=zh hs4;have HG4:=zh hg4;have HB4:=zh hb4;have HM4:=zh (HGA.out.map.kept hg4 (ne_sl HGA.out.map HSA.out).symm);clear hs4 hg4 hb4) | (at_mapUpdate;refine wpList_put rfl (.tmp 67) (.tmp 68) (.tmp 72) rfl Tryz.underlying187 Tryz.underlying53 rfl HM4.out k2 v4 rfl rfl ?_;intro w5 hm5 hg5;have HM5:=zh hm5;have HG5:=zh hg5;clear hm5 hg5))
         have HBB:Hid (v4.ownBlock=((M2 k2).getD (.slice none 0 0)).ownBlock∨∃g,v4.ownBlock=some g∧(w3.alloc (.cells #[.int .i64 (p:Int)] 3)).heap.size≤g):=zh (by
          rw[HVB.out];rcases HB4.out with h | h
          ·exact .inl h
          ·exact .inr ⟨_,h,zw8 _⟩)
         have KR:=zh (Or.inr (a:=(Value.slice (some ⟨g,o+1,none⟩) 15 (cap-1)= .slice none 0 0∧r=[])) HSA.out);have HFF:Hid (∀k,seen xs (p+1) k=if k=k2 then r++[p]else last16 (pls xs (p+1-4096) p k)):=zh (fun k=>by
          by_cases hk:k=k2
          ·rw[if_pos hk,hk,HF3.out,if_pos ⟨by rw[HXL.out];exact h3,rfl⟩,←HZS.out,if_pos h16];rfl
          ·rw[if_neg hk,HF3.out,if_neg (fun h=>hk h.2.symm)])
         refine bodyPost_end (results_none rfl _ _ _) rfl ?_;exact⟨rfl,_,(HGA.out.put k2 (by simp) (by rw[HVB.out];exact HG4.out) HS4.out HBB.out HM5.out HG5.out).same (fun _=>rfl) HFF.out,HW3.out.trans ((Keep.ext (zxa (zxr w3) _) (by omega)).trans ((keep_row KR.out (by simp;omega) HG4.out).trans (keep_map HM4.out hbb HG5.out)))⟩
       ·have HSA:=zh (hsl.ext (zxa (zxr w3) (.cells #[.int .i64 (p:Int)] 3)))
        have q16:((zs.length:Int)==16)=false:=zw12.2 (by omega);clear hsl;go_wp2_with (first | (at_builtin;refine wpList_more (base:=base) (e:=3) rfl (.tmp 69) (.tmp 71) 60 rfl i3 (.int .i64 0) Tryz.underlying60 HI.out.1 HI.out.2.1 HI.out.2.2.1 HI.out.2.2.2 rfl (.slice (some ⟨g,o,none⟩) zs.length cap) zs (.inr HSA.out) ⟨w3.heap.size,0,none⟩ p rfl rfl HY.out (by omega) (by simp;omega) ?_;intro v4 w4 hs4 hg4 hb4;have HS4:=zh hs4;have HG4:=zh hg4;have HB4:=zh hb4;have HM4:=zh (HGA.out.map.kept hg4 (ne_sl HGA.out.map HSA.out).symm);clear hs4 hg4 hb4) | (at_mapUpdate;refine wpList_put rfl (.tmp 67) (.tmp 68) (.tmp 72) rfl Tryz.underlying187 Tryz.underlying53 rfl HM4.out k2 v4 rfl rfl ?_;intro w5 hm5 hg5;have HM5:=zh hm5;have HG5:=zh hg5;clear hm5 hg5))
        have HBB:Hid (v4.ownBlock=((M2 k2).getD (.slice none 0 0)).ownBlock∨∃g,v4.ownBlock=some g∧(w3.alloc (.cells #[.int .i64 (p:Int)] 3)).heap.size≤g):=zh (by
         rw[HVB.out];rcases HB4.out with h | h
         ·exact .inl h
         ·exact .inr ⟨_,h,zw8 _⟩)
        have KR:=zh (Or.inr (a:=(Value.slice (some ⟨g,o,none⟩) zs.length cap= .slice none 0 0∧zs=[])) HSA.out);have HFF:Hid (∀k,seen xs (p+1) k=if k=k2 then zs++[p]else last16 (pls xs (p+1-4096) p k)):=zh (fun k=>by
         by_cases hk:k=k2
         ·rw[if_pos hk,hk,HF3.out,if_pos ⟨by rw[HXL.out];exact h3,rfl⟩,←HZS.out,if_neg h16]
         ·rw[if_neg hk,HF3.out,if_neg (fun h=>hk h.2.symm)])
        refine bodyPost_end (results_none rfl _ _ _) rfl ?_;exact⟨rfl,_,(HGA.out.put k2 (by simp) (by rw[HVB.out];exact HG4.out) HS4.out HBB.out HM5.out HG5.out).same (fun _=>rfl) HFF.out,HW3.out.trans ((Keep.ext (zxa (zxr w3) _) (by omega)).trans ((keep_row KR.out (by simp;omega) HG4.out).trans (keep_map HM4.out hbb HG5.out)))⟩
     ·have HS1:Hid (∀k,seen xs (p+1) k=last16 (pls xs (p+1-4096) p k)):=zh (fun k=>by rw[seen_hi,if_neg (fun hh=>by rw[HXL.out]at hh;exact h3 hh.1)])
      refine(three_no A N c (p:Int) _ hN (by omega) (by omega) (.inr (by omega))).mono ?_;rintro e w3 ⟨rfl,rfl⟩;go_wp2_with fail;refine bodyPost_ret (results_none rfl _ _ _) rfl ?_;exact⟨rfl,M2,HG2.out.same (fun _=>rfl) HS1.out,HW2.out⟩
   ·have HMID:Hid (Mid w w1 base b xs p):=zh ⟨M,HG1.out.same (fun _=>rfl) (fun k=>by
     by_cases hk:k=k1
     ·rw[hk];exact e1.symm
     ·exact HMD.out k hk),HW1.out⟩
    obtain⟨z,r,hzr⟩:=List.exists_cons_of_ne_nil hs0;have hz:=e2 z r hzr;rw[hzr]at hrun hsl hc1 hn16;have c0:=hsl.cells 0 (by simp);have f0:=hsl.frozen 0 (by simp);simp only[zw3,Nat.add_zero,List.getD_cons_zero]at c0 hrun hc1 hn16 f0;have q9:((z:Int)==(p:Int)-4096)=false:=zw12.2 (by omega);clear hsl hv e1 e2 hs0 hve hzr
    cases r with
    | nil=>
     go_wp2_with fail;clear hrun;obtain⟨M2,hG2,hW2⟩:=HMID.out;have HG2:=zh hG2;have HW2:=zh hW2;clear hG2 hW2 HMID;by_cases h3:p+3≤N
     ·refine(three_yes A N c p xs _ (HW2.out.bs HB.out HA.out) hN h3).mono ?_
      rintro e w3 ⟨rfl,b3⟩;have HW3:=zh (HW2.out.trans (Keep.ext b3 (by have:=HG2.out.map.lt;have:=HG2.out.at_;omega)));have HG3:=zh (HG2.out.ext b3);have HF3:=zh (fun k=>seen_hi (xs:=xs) (at_:=p) (k:=k));generalize hk2:key xs p=k2 at*;have HK2:=zh hk2;clear hk2;obtain⟨i3,hi0,hz0,hz1,hz2⟩:=info_parts infoInt;have HI:=zh (And.intro hi0 (And.intro hz0 (And.intro hz1 hz2)));clear hi0 hz0 hz1 hz2;have hbs:=HG3.out.map.lt;have hbb:=HG3.out.at_;rcases HG3.out.look k2 with ⟨hv,hs0⟩ | ⟨hv,hs0,hsl⟩
      ·have hrun:=run_look (P:=Tryz.prog) HG3.out.map Tryz.underlying187 Tryz.underlying53 (zeroRow w3) k2
       rw[hv]at hrun;have HV:=zh hv;have HS0:=zh hs0;clear hv hs0;have HGA:=zh (HG3.out.ext (zxa (zxr w3) (.cells #[.int .i64 (p:Int)] 3)));have hy:(w3.alloc (.cells #[.int .i64 (p:Int)] 3)).cell? ⟨w3.heap.size,0,none⟩=some (.int .i64 (p:Int)):=(Blk.new w3 _ _).cell 0;have HY:=zh hy;clear hy;go_wp2_with (first | (at_builtin;refine wpList_more (base:=base) (e:=3) rfl (.tmp 69) (.tmp 71) 60 rfl i3 (.int .i64 0) Tryz.underlying60 HI.out.1 HI.out.2.1 HI.out.2.2.1 HI.out.2.2.2 rfl (.slice none 0 0) [] (.inl ⟨rfl,rfl⟩) ⟨w3.heap.size,0,none⟩ p rfl rfl HY.out (by simp) (by simp;omega) ?_;intro v4 w4 hs4 hg4 hb4;have HS4:=zh hs4;have HG4:=zh hg4;have HB4:=zh hb4;have HM4:=zh (HGA.out.map.kept hg4 (by intro h;cases h));clear hs4 hg4 hb4) | (at_mapUpdate;refine wpList_put rfl (.tmp 67) (.tmp 68) (.tmp 72) rfl Tryz.underlying187 Tryz.underlying53 rfl HM4.out k2 v4 rfl rfl ?_;intro w5 hm5 hg5;have HM5:=zh hm5;have HG5:=zh hg5;clear hm5 hg5))
       have HBB:Hid (v4.ownBlock=((M2 k2).getD (.slice none 0 0)).ownBlock∨∃g,v4.ownBlock=some g∧(w3.alloc (.cells #[.int .i64 (p:Int)] 3)).heap.size≤g):=zh (by
        rw[HV.out];rcases HB4.out with h | h
        ·exact .inl h
        ·exact .inr ⟨_,h,zw8 _⟩)
       have KR:Hid ((Value.slice none 0 0= .slice none 0 0∧([]:List Nat)=[])∨Sl (w3.alloc (.cells #[.int .i64 (p:Int)] 3)) base 3 (.slice none 0 0) []):=zh (.inl ⟨rfl,rfl⟩);have HFF:Hid (∀k,seen xs (p+1) k=if k=k2 then []++[p]else last16 (pls xs (p+1-4096) p k)):=zh (fun k=>by
        by_cases hk:k=k2
        ·rw[if_pos hk,hk,HF3.out,if_pos ⟨by rw[HXL.out];exact h3,rfl⟩,HS0.out];rfl
        ·rw[if_neg hk,HF3.out,if_neg (fun h=>hk h.2.symm)])
       refine bodyPost_end (results_none rfl _ _ _) rfl ?_;exact⟨rfl,_,(HGA.out.put k2 (by simp) (by rw[HV.out];exact HG4.out) HS4.out HBB.out HM5.out HG5.out).same (fun _=>rfl) HFF.out,HW3.out.trans ((Keep.ext (zxa (zxr w3) _) (by omega)).trans ((keep_row KR.out (by simp;omega) HG4.out).trans (keep_map HM4.out hbb HG5.out)))⟩
      ·obtain⟨g,o,cap,hve,hc1,hc2,hgb⟩:=hsl.shape
       have hrun:=run_look (P:=Tryz.prog) HG3.out.map Tryz.underlying187 Tryz.underlying53 (zeroRow w3) k2;rw[hve]at hrun hsl;have hn16:(last16 (pls xs (p+1-4096) p k2)).length≤16:=by rw[last16_len];omega
       have HVB:Hid (((M2 k2).getD (.slice none 0 0)).ownBlock=some g):=zh (by rw[hve];rfl);have HV:=zh hve;clear hve hv;have HGA:=zh (HG3.out.ext (zxa (zxr w3) (.cells #[.int .i64 (p:Int)] 3)));have hy:(w3.alloc (.cells #[.int .i64 (p:Int)] 3)).cell? ⟨w3.heap.size,0,none⟩=some (.int .i64 (p:Int)):=(Blk.new w3 _ _).cell 0;have HY:=zh hy;clear hy;obtain⟨zs,hzs⟩:∃zs,zs=last16 (pls xs (p+1-4096) p k2):=⟨_,rfl⟩;rw[←hzs]at hsl hrun hc1 hn16;have HZS:=zh hzs;clear hzs hs0;by_cases h16:zs.length=16
       ·cases zs with
        | nil=>simp at h16
        | cons z r=>
         have hr15:r.length=15:=by simpa using h16
         have HSA0:=zh (Sl.tail (n:=r.length) hsl);rw[h16]at hrun hc1;rw[hr15]at HSA0;have HSA:=zh (HSA0.out.ext (zxa (zxr w3) (.cells #[.int .i64 (p:Int)] 3)));clear hsl;go_wp2_with (first | (at_builtin;refine wpList_more (base:=base) (e:=3) rfl (.tmp 69) (.tmp 71) 60 rfl i3 (.int .i64 0) Tryz.underlying60 HI.out.1 HI.out.2.1 HI.out.2.2.1 HI.out.2.2.2 rfl (.slice (some ⟨g,o+1,none⟩) 15 (cap-1)) r (.inr HSA.out) ⟨w3.heap.size,0,none⟩ p rfl rfl HY.out (by omega) (by simp;omega) ?_;intro v4 w4 hs4 hg4 hb4;have HS4:=zh hs4;have HG4:=zh hg4;have HB4:=zh hb4;have HM4:=zh (HGA.out.map.kept hg4 (ne_sl HGA.out.map HSA.out).symm);clear hs4 hg4 hb4) | (at_mapUpdate;refine wpList_put rfl (.tmp 67) (.tmp 68) (.tmp 72) rfl Tryz.underlying187 Tryz.underlying53 rfl HM4.out k2 v4 rfl rfl ?_;intro w5 hm5 hg5;have HM5:=zh hm5;have HG5:=zh hg5;clear hm5 hg5))
         have HBB:Hid (v4.ownBlock=((M2 k2).getD (.slice none 0 0)).ownBlock∨∃g,v4.ownBlock=some g∧(w3.alloc (.cells #[.int .i64 (p:Int)] 3)).heap.size≤g):=zh (by
          rw[HVB.out];rcases HB4.out with h | h
          ·exact .inl h
          ·exact .inr ⟨_,h,zw8 _⟩)
         have KR:=zh (Or.inr (a:=(Value.slice (some ⟨g,o+1,none⟩) 15 (cap-1)= .slice none 0 0∧r=[])) HSA.out);have HFF:Hid (∀k,seen xs (p+1) k=if k=k2 then r++[p]else last16 (pls xs (p+1-4096) p k)):=zh (fun k=>by
          by_cases hk:k=k2
          ·rw[if_pos hk,hk,HF3.out,if_pos ⟨by rw[HXL.out];exact h3,rfl⟩,←HZS.out,if_pos h16];rfl
          ·rw[if_neg hk,HF3.out,if_neg (fun h=>hk h.2.symm)])
         refine bodyPost_end (results_none rfl _ _ _) rfl ?_;exact⟨rfl,_,(HGA.out.put k2 (by simp) (by rw[HVB.out];exact HG4.out) HS4.out HBB.out HM5.out HG5.out).same (fun _=>rfl) HFF.out,HW3.out.trans ((Keep.ext (zxa (zxr w3) _) (by omega)).trans ((keep_row KR.out (by simp;omega) HG4.out).trans (keep_map HM4.out hbb HG5.out)))⟩
       ·have HSA:=zh (hsl.ext (zxa (zxr w3) (.cells #[.int .i64 (p:Int)] 3)))
        have q16:((zs.length:Int)==16)=false:=zw12.2 (by omega);clear hsl;go_wp2_with (first | (at_builtin;refine wpList_more (base:=base) (e:=3) rfl (.tmp 69) (.tmp 71) 60 rfl i3 (.int .i64 0) Tryz.underlying60 HI.out.1 HI.out.2.1 HI.out.2.2.1 HI.out.2.2.2 rfl (.slice (some ⟨g,o,none⟩) zs.length cap) zs (.inr HSA.out) ⟨w3.heap.size,0,none⟩ p rfl rfl HY.out (by omega) (by simp;omega) ?_;intro v4 w4 hs4 hg4 hb4;have HS4:=zh hs4;have HG4:=zh hg4;have HB4:=zh hb4;have HM4:=zh (HGA.out.map.kept hg4 (ne_sl HGA.out.map HSA.out).symm);clear hs4 hg4 hb4) | (at_mapUpdate;refine wpList_put rfl (.tmp 67) (.tmp 68) (.tmp 72) rfl Tryz.underlying187 Tryz.underlying53 rfl HM4.out k2 v4 rfl rfl ?_;intro w5 hm5 hg5;have HM5:=zh hm5;have HG5:=zh hg5;clear hm5 hg5))
        have HBB:Hid (v4.ownBlock=((M2 k2).getD (.slice none 0 0)).ownBlock∨∃g,v4.ownBlock=some g∧(w3.alloc (.cells #[.int .i64 (p:Int)] 3)).heap.size≤g):=zh (by
         rw[HVB.out];rcases HB4.out with h | h
         ·exact .inl h
         ·exact .inr ⟨_,h,zw8 _⟩)
        have KR:=zh (Or.inr (a:=(Value.slice (some ⟨g,o,none⟩) zs.length cap= .slice none 0 0∧zs=[])) HSA.out);have HFF:Hid (∀k,seen xs (p+1) k=if k=k2 then zs++[p]else last16 (pls xs (p+1-4096) p k)):=zh (fun k=>by
         by_cases hk:k=k2
         ·rw[if_pos hk,hk,HF3.out,if_pos ⟨by rw[HXL.out];exact h3,rfl⟩,←HZS.out,if_neg h16]
         ·rw[if_neg hk,HF3.out,if_neg (fun h=>hk h.2.symm)])
        refine bodyPost_end (results_none rfl _ _ _) rfl ?_;exact⟨rfl,_,(HGA.out.put k2 (by simp) (by rw[HVB.out];exact HG4.out) HS4.out HBB.out HM5.out HG5.out).same (fun _=>rfl) HFF.out,HW3.out.trans ((Keep.ext (zxa (zxr w3) _) (by omega)).trans ((keep_row KR.out (by simp;omega) HG4.out).trans (keep_map HM4.out hbb HG5.out)))⟩
     ·have HS1:Hid (∀k,seen xs (p+1) k=last16 (pls xs (p+1-4096) p k)):=zh (fun k=>by rw[seen_hi,if_neg (fun hh=>by rw[HXL.out]at hh;exact h3 hh.1)])
      refine(three_no A N c (p:Int) _ hN (by omega) (by omega) (.inr (by omega))).mono ?_;rintro e w3 ⟨rfl,rfl⟩;go_wp2_with fail;refine bodyPost_ret (results_none rfl _ _ _) rfl ?_;exact⟨rfl,M2,HG2.out.same (fun _=>rfl) HS1.out,HW2.out⟩
    | cons z2 r2=>
     simp only[zw3]at hrun hc1 hn16;have q1:(1:Int)<((r2.length+1+1:Nat):Int):=by omega
     have q2:(((r2.length+1+1:Nat):Int)==1)=false:=zw12.2 (by omega);go_wp2_with fail;clear hrun;obtain⟨M2,hG2,hW2⟩:=HMID.out;have HG2:=zh hG2;have HW2:=zh hW2;clear hG2 hW2 HMID;by_cases h3:p+3≤N
     ·refine(three_yes A N c p xs _ (HW2.out.bs HB.out HA.out) hN h3).mono ?_
      rintro e w3 ⟨rfl,b3⟩;have HW3:=zh (HW2.out.trans (Keep.ext b3 (by have:=HG2.out.map.lt;have:=HG2.out.at_;omega)));have HG3:=zh (HG2.out.ext b3);have HF3:=zh (fun k=>seen_hi (xs:=xs) (at_:=p) (k:=k));generalize hk2:key xs p=k2 at*;have HK2:=zh hk2;clear hk2;obtain⟨i3,hi0,hz0,hz1,hz2⟩:=info_parts infoInt;have HI:=zh (And.intro hi0 (And.intro hz0 (And.intro hz1 hz2)));clear hi0 hz0 hz1 hz2;have hbs:=HG3.out.map.lt;have hbb:=HG3.out.at_;rcases HG3.out.look k2 with ⟨hv,hs0⟩ | ⟨hv,hs0,hsl⟩
      ·have hrun:=run_look (P:=Tryz.prog) HG3.out.map Tryz.underlying187 Tryz.underlying53 (zeroRow w3) k2
       rw[hv]at hrun;have HV:=zh hv;have HS0:=zh hs0;clear hv hs0;have HGA:=zh (HG3.out.ext (zxa (zxr w3) (.cells #[.int .i64 (p:Int)] 3)));have hy:(w3.alloc (.cells #[.int .i64 (p:Int)] 3)).cell? ⟨w3.heap.size,0,none⟩=some (.int .i64 (p:Int)):=(Blk.new w3 _ _).cell 0;have HY:=zh hy;clear hy;go_wp2_with (first | (at_builtin;refine wpList_more (base:=base) (e:=3) rfl (.tmp 69) (.tmp 71) 60 rfl i3 (.int .i64 0) Tryz.underlying60 HI.out.1 HI.out.2.1 HI.out.2.2.1 HI.out.2.2.2 rfl (.slice none 0 0) [] (.inl ⟨rfl,rfl⟩) ⟨w3.heap.size,0,none⟩ p rfl rfl HY.out (by simp) (by simp;omega) ?_;intro v4 w4 hs4 hg4 hb4;have HS4:=zh hs4;have HG4:=zh hg4;have HB4:=zh hb4;have HM4:=zh (HGA.out.map.kept hg4 (by intro h;cases h));clear hs4 hg4 hb4) | (at_mapUpdate;refine wpList_put rfl (.tmp 67) (.tmp 68) (.tmp 72) rfl Tryz.underlying187 Tryz.underlying53 rfl HM4.out k2 v4 rfl rfl ?_;intro w5 hm5 hg5;have HM5:=zh hm5;have HG5:=zh hg5;clear hm5 hg5))
       have HBB:Hid (v4.ownBlock=((M2 k2).getD (.slice none 0 0)).ownBlock∨∃g,v4.ownBlock=some g∧(w3.alloc (.cells #[.int .i64 (p:Int)] 3)).heap.size≤g):=zh (by
        rw[HV.out];rcases HB4.out with h | h
        ·exact .inl h
        ·exact .inr ⟨_,h,zw8 _⟩)
       have KR:Hid ((Value.slice none 0 0= .slice none 0 0∧([]:List Nat)=[])∨Sl (w3.alloc (.cells #[.int .i64 (p:Int)] 3)) base 3 (.slice none 0 0) []):=zh (.inl ⟨rfl,rfl⟩);have HFF:Hid (∀k,seen xs (p+1) k=if k=k2 then []++[p]else last16 (pls xs (p+1-4096) p k)):=zh (fun k=>by
        by_cases hk:k=k2
        ·rw[if_pos hk,hk,HF3.out,if_pos ⟨by rw[HXL.out];exact h3,rfl⟩,HS0.out];rfl
        ·rw[if_neg hk,HF3.out,if_neg (fun h=>hk h.2.symm)])
       refine bodyPost_end (results_none rfl _ _ _) rfl ?_;exact⟨rfl,_,(HGA.out.put k2 (by simp) (by rw[HV.out];exact HG4.out) HS4.out HBB.out HM5.out HG5.out).same (fun _=>rfl) HFF.out,HW3.out.trans ((Keep.ext (zxa (zxr w3) _) (by omega)).trans ((keep_row KR.out (by simp;omega) HG4.out).trans (keep_map HM4.out hbb HG5.out)))⟩
      ·obtain⟨g,o,cap,hve,hc1,hc2,hgb⟩:=hsl.shape
       have hrun:=run_look (P:=Tryz.prog) HG3.out.map Tryz.underlying187 Tryz.underlying53 (zeroRow w3) k2;rw[hve]at hrun hsl;have hn16:(last16 (pls xs (p+1-4096) p k2)).length≤16:=by rw[last16_len];omega
       have HVB:Hid (((M2 k2).getD (.slice none 0 0)).ownBlock=some g):=zh (by rw[hve];rfl);have HV:=zh hve;clear hve hv;have HGA:=zh (HG3.out.ext (zxa (zxr w3) (.cells #[.int .i64 (p:Int)] 3)));have hy:(w3.alloc (.cells #[.int .i64 (p:Int)] 3)).cell? ⟨w3.heap.size,0,none⟩=some (.int .i64 (p:Int)):=(Blk.new w3 _ _).cell 0;have HY:=zh hy;clear hy;obtain⟨zs,hzs⟩:∃zs,zs=last16 (pls xs (p+1-4096) p k2):=⟨_,rfl⟩;rw[←hzs]at hsl hrun hc1 hn16;have HZS:=zh hzs;clear hzs hs0;by_cases h16:zs.length=16
       ·cases zs with
        | nil=>simp at h16
        | cons z r=>
         have hr15:r.length=15:=by simpa using h16
         have HSA0:=zh (Sl.tail (n:=r.length) hsl);rw[h16]at hrun hc1;rw[hr15]at HSA0;have HSA:=zh (HSA0.out.ext (zxa (zxr w3) (.cells #[.int .i64 (p:Int)] 3)));clear hsl;go_wp2_with (first | (at_builtin;refine wpList_more (base:=base) (e:=3) rfl (.tmp 69) (.tmp 71) 60 rfl i3 (.int .i64 0) Tryz.underlying60 HI.out.1 HI.out.2.1 HI.out.2.2.1 HI.out.2.2.2 rfl (.slice (some ⟨g,o+1,none⟩) 15 (cap-1)) r (.inr HSA.out) ⟨w3.heap.size,0,none⟩ p rfl rfl HY.out (by omega) (by simp;omega) ?_;intro v4 w4 hs4 hg4 hb4;have HS4:=zh hs4;have HG4:=zh hg4;have HB4:=zh hb4;have HM4:=zh (HGA.out.map.kept hg4 (ne_sl HGA.out.map HSA.out).symm);clear hs4 hg4 hb4) | (at_mapUpdate;refine wpList_put rfl (.tmp 67) (.tmp 68) (.tmp 72) rfl Tryz.underlying187 Tryz.underlying53 rfl HM4.out k2 v4 rfl rfl ?_;intro w5 hm5 hg5;have HM5:=zh hm5;have HG5:=zh hg5;clear hm5 hg5))
         have HBB:Hid (v4.ownBlock=((M2 k2).getD (.slice none 0 0)).ownBlock∨∃g,v4.ownBlock=some g∧(w3.alloc (.cells #[.int .i64 (p:Int)] 3)).heap.size≤g):=zh (by
          rw[HVB.out];rcases HB4.out with h | h
          ·exact .inl h
          ·exact .inr ⟨_,h,zw8 _⟩)
         have KR:=zh (Or.inr (a:=(Value.slice (some ⟨g,o+1,none⟩) 15 (cap-1)= .slice none 0 0∧r=[])) HSA.out);have HFF:Hid (∀k,seen xs (p+1) k=if k=k2 then r++[p]else last16 (pls xs (p+1-4096) p k)):=zh (fun k=>by
          by_cases hk:k=k2
          ·rw[if_pos hk,hk,HF3.out,if_pos ⟨by rw[HXL.out];exact h3,rfl⟩,←HZS.out,if_pos h16];rfl
          ·rw[if_neg hk,HF3.out,if_neg (fun h=>hk h.2.symm)])
         refine bodyPost_end (results_none rfl _ _ _) rfl ?_;exact⟨rfl,_,(HGA.out.put k2 (by simp) (by rw[HVB.out];exact HG4.out) HS4.out HBB.out HM5.out HG5.out).same (fun _=>rfl) HFF.out,HW3.out.trans ((Keep.ext (zxa (zxr w3) _) (by omega)).trans ((keep_row KR.out (by simp;omega) HG4.out).trans (keep_map HM4.out hbb HG5.out)))⟩
       ·have HSA:=zh (hsl.ext (zxa (zxr w3) (.cells #[.int .i64 (p:Int)] 3)))
        have q16:((zs.length:Int)==16)=false:=zw12.2 (by omega);clear hsl;go_wp2_with (first | (at_builtin;refine wpList_more (base:=base) (e:=3) rfl (.tmp 69) (.tmp 71) 60 rfl i3 (.int .i64 0) Tryz.underlying60 HI.out.1 HI.out.2.1 HI.out.2.2.1 HI.out.2.2.2 rfl (.slice (some ⟨g,o,none⟩) zs.length cap) zs (.inr HSA.out) ⟨w3.heap.size,0,none⟩ p rfl rfl HY.out (by omega) (by simp;omega) ?_;intro v4 w4 hs4 hg4 hb4;have HS4:=zh hs4;have HG4:=zh hg4;have HB4:=zh hb4;have HM4:=zh (HGA.out.map.kept hg4 (ne_sl HGA.out.map HSA.out).symm);clear hs4 hg4 hb4) | (at_mapUpdate;refine wpList_put rfl (.tmp 67) (.tmp 68) (.tmp 72) rfl Tryz.underlying187 Tryz.underlying53 rfl HM4.out k2 v4 rfl rfl ?_;intro w5 hm5 hg5;have HM5:=zh hm5;have HG5:=zh hg5;clear hm5 hg5))
        have HBB:Hid (v4.ownBlock=((M2 k2).getD (.slice none 0 0)).ownBlock∨∃g,v4.ownBlock=some g∧(w3.alloc (.cells #[.int .i64 (p:Int)] 3)).heap.size≤g):=zh (by
         rw[HVB.out];rcases HB4.out with h | h
         ·exact .inl h
         ·exact .inr ⟨_,h,zw8 _⟩)
        have KR:=zh (Or.inr (a:=(Value.slice (some ⟨g,o,none⟩) zs.length cap= .slice none 0 0∧zs=[])) HSA.out);have HFF:Hid (∀k,seen xs (p+1) k=if k=k2 then zs++[p]else last16 (pls xs (p+1-4096) p k)):=zh (fun k=>by
         by_cases hk:k=k2
         ·rw[if_pos hk,hk,HF3.out,if_pos ⟨by rw[HXL.out];exact h3,rfl⟩,←HZS.out,if_neg h16]
         ·rw[if_neg hk,HF3.out,if_neg (fun h=>hk h.2.symm)])
        refine bodyPost_end (results_none rfl _ _ _) rfl ?_;exact⟨rfl,_,(HGA.out.put k2 (by simp) (by rw[HVB.out];exact HG4.out) HS4.out HBB.out HM5.out HG5.out).same (fun _=>rfl) HFF.out,HW3.out.trans ((Keep.ext (zxa (zxr w3) _) (by omega)).trans ((keep_row KR.out (by simp;omega) HG4.out).trans (keep_map HM4.out hbb HG5.out)))⟩
     ·have HS1:Hid (∀k,seen xs (p+1) k=last16 (pls xs (p+1-4096) p k)):=zh (fun k=>by rw[seen_hi,if_neg (fun hh=>by rw[HXL.out]at hh;exact h3 hh.1)])
      refine(three_no A N c (p:Int) _ hN (by omega) (by omega) (.inr (by omega))).mono ?_;rintro e w3 ⟨rfl,rfl⟩;go_wp2_with fail;refine bodyPost_ret (results_none rfl _ _ _) rfl ?_;exact⟨rfl,M2,HG2.out.same (fun _=>rfl) HS1.out,HW2.out⟩
 ·have HMID:Hid (Mid w w base b xs p):=zh ⟨M,HG.out.same (fun _=>rfl) (fun k=>seen_lo_few (by omega)),Keep.refl _ _⟩
  refine(three_no A N c ((p:Int)-4096) w hN (by omega) (by omega) (.inl (by omega))).mono ?_;rintro e w1 ⟨rfl,rfl⟩;go_wp2_with fail;obtain⟨M2,hG2,hW2⟩:=HMID.out;have HG2:=zh hG2;have HW2:=zh hW2;clear hG2 hW2 HMID;by_cases h3:p+3≤N
  ·refine(three_yes A N c p xs _ (HW2.out.bs HB.out HA.out) hN h3).mono ?_
   rintro e w3 ⟨rfl,b3⟩;have HW3:=zh (HW2.out.trans (Keep.ext b3 (by have:=HG2.out.map.lt;have:=HG2.out.at_;omega)));have HG3:=zh (HG2.out.ext b3);have HF3:=zh (fun k=>seen_hi (xs:=xs) (at_:=p) (k:=k));generalize hk2:key xs p=k2 at*;have HK2:=zh hk2;clear hk2;obtain⟨i3,hi0,hz0,hz1,hz2⟩:=info_parts infoInt;have HI:=zh (And.intro hi0 (And.intro hz0 (And.intro hz1 hz2)));clear hi0 hz0 hz1 hz2;have hbs:=HG3.out.map.lt;have hbb:=HG3.out.at_;rcases HG3.out.look k2 with ⟨hv,hs0⟩ | ⟨hv,hs0,hsl⟩
   ·have hrun:=run_look (P:=Tryz.prog) HG3.out.map Tryz.underlying187 Tryz.underlying53 (zeroRow w3) k2
    rw[hv]at hrun;have HV:=zh hv;have HS0:=zh hs0;clear hv hs0;have HGA:=zh (HG3.out.ext (zxa (zxr w3) (.cells #[.int .i64 (p:Int)] 3)));have hy:(w3.alloc (.cells #[.int .i64 (p:Int)] 3)).cell? ⟨w3.heap.size,0,none⟩=some (.int .i64 (p:Int)):=(Blk.new w3 _ _).cell 0;have HY:=zh hy;clear hy;go_wp2_with (first | (at_builtin;refine wpList_more (base:=base) (e:=3) rfl (.tmp 69) (.tmp 71) 60 rfl i3 (.int .i64 0) Tryz.underlying60 HI.out.1 HI.out.2.1 HI.out.2.2.1 HI.out.2.2.2 rfl (.slice none 0 0) [] (.inl ⟨rfl,rfl⟩) ⟨w3.heap.size,0,none⟩ p rfl rfl HY.out (by simp) (by simp;omega) ?_;intro v4 w4 hs4 hg4 hb4;have HS4:=zh hs4;have HG4:=zh hg4;have HB4:=zh hb4;have HM4:=zh (HGA.out.map.kept hg4 (by intro h;cases h));clear hs4 hg4 hb4) | (at_mapUpdate;refine wpList_put rfl (.tmp 67) (.tmp 68) (.tmp 72) rfl Tryz.underlying187 Tryz.underlying53 rfl HM4.out k2 v4 rfl rfl ?_;intro w5 hm5 hg5;have HM5:=zh hm5;have HG5:=zh hg5;clear hm5 hg5))
    have HBB:Hid (v4.ownBlock=((M2 k2).getD (.slice none 0 0)).ownBlock∨∃g,v4.ownBlock=some g∧(w3.alloc (.cells #[.int .i64 (p:Int)] 3)).heap.size≤g):=zh (by
     rw[HV.out];rcases HB4.out with h | h
     ·exact .inl h
     ·exact .inr ⟨_,h,zw8 _⟩)
    have KR:Hid ((Value.slice none 0 0= .slice none 0 0∧([]:List Nat)=[])∨Sl (w3.alloc (.cells #[.int .i64 (p:Int)] 3)) base 3 (.slice none 0 0) []):=zh (.inl ⟨rfl,rfl⟩);have HFF:Hid (∀k,seen xs (p+1) k=if k=k2 then []++[p]else last16 (pls xs (p+1-4096) p k)):=zh (fun k=>by
     by_cases hk:k=k2
     ·rw[if_pos hk,hk,HF3.out,if_pos ⟨by rw[HXL.out];exact h3,rfl⟩,HS0.out];rfl
     ·rw[if_neg hk,HF3.out,if_neg (fun h=>hk h.2.symm)])
    refine bodyPost_end (results_none rfl _ _ _) rfl ?_;exact⟨rfl,_,(HGA.out.put k2 (by simp) (by rw[HV.out];exact HG4.out) HS4.out HBB.out HM5.out HG5.out).same (fun _=>rfl) HFF.out,HW3.out.trans ((Keep.ext (zxa (zxr w3) _) (by omega)).trans ((keep_row KR.out (by simp;omega) HG4.out).trans (keep_map HM4.out hbb HG5.out)))⟩
   ·obtain⟨g,o,cap,hve,hc1,hc2,hgb⟩:=hsl.shape
    have hrun:=run_look (P:=Tryz.prog) HG3.out.map Tryz.underlying187 Tryz.underlying53 (zeroRow w3) k2;rw[hve]at hrun hsl;have hn16:(last16 (pls xs (p+1-4096) p k2)).length≤16:=by rw[last16_len];omega
    have HVB:Hid (((M2 k2).getD (.slice none 0 0)).ownBlock=some g):=zh (by rw[hve];rfl);have HV:=zh hve;clear hve hv;have HGA:=zh (HG3.out.ext (zxa (zxr w3) (.cells #[.int .i64 (p:Int)] 3)));have hy:(w3.alloc (.cells #[.int .i64 (p:Int)] 3)).cell? ⟨w3.heap.size,0,none⟩=some (.int .i64 (p:Int)):=(Blk.new w3 _ _).cell 0;have HY:=zh hy;clear hy;obtain⟨zs,hzs⟩:∃zs,zs=last16 (pls xs (p+1-4096) p k2):=⟨_,rfl⟩;rw[←hzs]at hsl hrun hc1 hn16;have HZS:=zh hzs;clear hzs hs0;by_cases h16:zs.length=16
    ·cases zs with
     | nil=>simp at h16
     | cons z r=>
      have hr15:r.length=15:=by simpa using h16
      have HSA0:=zh (Sl.tail (n:=r.length) hsl);rw[h16]at hrun hc1;rw[hr15]at HSA0;have HSA:=zh (HSA0.out.ext (zxa (zxr w3) (.cells #[.int .i64 (p:Int)] 3)));clear hsl;go_wp2_with (first | (at_builtin;refine wpList_more (base:=base) (e:=3) rfl (.tmp 69) (.tmp 71) 60 rfl i3 (.int .i64 0) Tryz.underlying60 HI.out.1 HI.out.2.1 HI.out.2.2.1 HI.out.2.2.2 rfl (.slice (some ⟨g,o+1,none⟩) 15 (cap-1)) r (.inr HSA.out) ⟨w3.heap.size,0,none⟩ p rfl rfl HY.out (by omega) (by simp;omega) ?_;intro v4 w4 hs4 hg4 hb4;have HS4:=zh hs4;have HG4:=zh hg4;have HB4:=zh hb4;have HM4:=zh (HGA.out.map.kept hg4 (ne_sl HGA.out.map HSA.out).symm);clear hs4 hg4 hb4) | (at_mapUpdate;refine wpList_put rfl (.tmp 67) (.tmp 68) (.tmp 72) rfl Tryz.underlying187 Tryz.underlying53 rfl HM4.out k2 v4 rfl rfl ?_;intro w5 hm5 hg5;have HM5:=zh hm5;have HG5:=zh hg5;clear hm5 hg5))
      have HBB:Hid (v4.ownBlock=((M2 k2).getD (.slice none 0 0)).ownBlock∨∃g,v4.ownBlock=some g∧(w3.alloc (.cells #[.int .i64 (p:Int)] 3)).heap.size≤g):=zh (by
       rw[HVB.out];rcases HB4.out with h | h
       ·exact .inl h
       ·exact .inr ⟨_,h,zw8 _⟩)
      have KR:=zh (Or.inr (a:=(Value.slice (some ⟨g,o+1,none⟩) 15 (cap-1)= .slice none 0 0∧r=[])) HSA.out);have HFF:Hid (∀k,seen xs (p+1) k=if k=k2 then r++[p]else last16 (pls xs (p+1-4096) p k)):=zh (fun k=>by
       by_cases hk:k=k2
       ·rw[if_pos hk,hk,HF3.out,if_pos ⟨by rw[HXL.out];exact h3,rfl⟩,←HZS.out,if_pos h16];rfl
       ·rw[if_neg hk,HF3.out,if_neg (fun h=>hk h.2.symm)])
      refine bodyPost_end (results_none rfl _ _ _) rfl ?_;exact⟨rfl,_,(HGA.out.put k2 (by simp) (by rw[HVB.out];exact HG4.out) HS4.out HBB.out HM5.out HG5.out).same (fun _=>rfl) HFF.out,HW3.out.trans ((Keep.ext (zxa (zxr w3) _) (by omega)).trans ((keep_row KR.out (by simp;omega) HG4.out).trans (keep_map HM4.out hbb HG5.out)))⟩
    ·have HSA:=zh (hsl.ext (zxa (zxr w3) (.cells #[.int .i64 (p:Int)] 3)))
     have q16:((zs.length:Int)==16)=false:=zw12.2 (by omega);clear hsl;go_wp2_with (first | (at_builtin;refine wpList_more (base:=base) (e:=3) rfl (.tmp 69) (.tmp 71) 60 rfl i3 (.int .i64 0) Tryz.underlying60 HI.out.1 HI.out.2.1 HI.out.2.2.1 HI.out.2.2.2 rfl (.slice (some ⟨g,o,none⟩) zs.length cap) zs (.inr HSA.out) ⟨w3.heap.size,0,none⟩ p rfl rfl HY.out (by omega) (by simp;omega) ?_;intro v4 w4 hs4 hg4 hb4;have HS4:=zh hs4;have HG4:=zh hg4;have HB4:=zh hb4;have HM4:=zh (HGA.out.map.kept hg4 (ne_sl HGA.out.map HSA.out).symm);clear hs4 hg4 hb4) | (at_mapUpdate;refine wpList_put rfl (.tmp 67) (.tmp 68) (.tmp 72) rfl Tryz.underlying187 Tryz.underlying53 rfl HM4.out k2 v4 rfl rfl ?_;intro w5 hm5 hg5;have HM5:=zh hm5;have HG5:=zh hg5;clear hm5 hg5))
     have HBB:Hid (v4.ownBlock=((M2 k2).getD (.slice none 0 0)).ownBlock∨∃g,v4.ownBlock=some g∧(w3.alloc (.cells #[.int .i64 (p:Int)] 3)).heap.size≤g):=zh (by
      rw[HVB.out];rcases HB4.out with h | h
      ·exact .inl h
      ·exact .inr ⟨_,h,zw8 _⟩)
     have KR:=zh (Or.inr (a:=(Value.slice (some ⟨g,o,none⟩) zs.length cap= .slice none 0 0∧zs=[])) HSA.out);have HFF:Hid (∀k,seen xs (p+1) k=if k=k2 then zs++[p]else last16 (pls xs (p+1-4096) p k)):=zh (fun k=>by
      by_cases hk:k=k2
      ·rw[if_pos hk,hk,HF3.out,if_pos ⟨by rw[HXL.out];exact h3,rfl⟩,←HZS.out,if_neg h16]
      ·rw[if_neg hk,HF3.out,if_neg (fun h=>hk h.2.symm)])
     refine bodyPost_end (results_none rfl _ _ _) rfl ?_;exact⟨rfl,_,(HGA.out.put k2 (by simp) (by rw[HVB.out];exact HG4.out) HS4.out HBB.out HM5.out HG5.out).same (fun _=>rfl) HFF.out,HW3.out.trans ((Keep.ext (zxa (zxr w3) _) (by omega)).trans ((keep_row KR.out (by simp;omega) HG4.out).trans (keep_map HM4.out hbb HG5.out)))⟩
  ·have HS1:Hid (∀k,seen xs (p+1) k=last16 (pls xs (p+1-4096) p k)):=zh (fun k=>by rw[seen_hi,if_neg (fun hh=>by rw[HXL.out]at hh;exact h3 hh.1)])
   refine(three_no A N c (p:Int) _ hN (by omega) (by omega) (.inr (by omega))).mono ?_;rintro e w3 ⟨rfl,rfl⟩;go_wp2_with fail;refine bodyPost_ret (results_none rfl _ _ _) rfl ?_;exact⟨rfl,M2,HG2.out.same (fun _=>rfl) HS1.out,HW2.out⟩
end Go.Proofs.YtbopblbhjcemaaaGreatDoor.Lz
