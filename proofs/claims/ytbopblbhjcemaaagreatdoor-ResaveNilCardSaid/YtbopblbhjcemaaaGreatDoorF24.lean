
import Derived.Test.YtbopblbhjcemaaaGreatDoorFilK
set_option maxHeartbeats 16000000
set_option maxRecDepth 100000
set_option linter.all false
open Go.ChangeShapes Go.WideShapes Go.ChangeAt Go.RowKit
namespace Go.Proofs.YtbopblbhjcemaaaGreatDoor.Fil
open Wire
open Rec
open Trk (Sl Tv Tk TkV mayT encT takeT NewT TuPost)
open Log (Hv Ev En cH cS cV mayH putL encH RSt nx va pN pI pF thL takeL OwnR_mono' OwnR_keep)
theorem OW.far {b D:Nat} {o:Ob5} {xs:List Nat} {w w':World} {cs:Array Value} {at_:Nat} (h:OW b D o xs w cs at_) (hk:∀g,g<D→w'.heap[g]? =w.heap[g]?) (hs:w.heap.size≤w'.heap.size):OW b D o xs w' cs at_:=by
  obtain⟨h1,h2,h3,h4,h5,h6,h7⟩:=h.high;have hbl:∀{g:Nat} {t:TypeId} {c:Array Value},g<D→Blk w g t c→Blk w' g t c:=fun hg hb=>(hk _ hg).trans hb;refine⟨hbl h1 h.op,hbl h2 h.fl,hbl h3 h.bo,hbl h4 h.bf,?_,fun i hi=>?_,h.tlt,⟨h.bytes.1,h.bytes.2.1,fun hp=>?_⟩,h.cell,h.nc,h.low,⟨h1,h2,h3,h4,h5,h6,zw10 h7 hs⟩,h.apart⟩
  · obtain⟨x,hx⟩:=h.be
    exact⟨x,hbl h5 hx⟩
  · have hl:0<D:=by have:=h.tlt;have:=h.low.1;omega
    exact(World.cell?_of_block (a:=⟨0,i,none⟩) (hk _ hl)).trans (h.tab i hi)
  · obtain⟨q,u,e,hq,hc⟩:=h.bytes.2.2 hp
    cases e
    exact⟨_,_,rfl,zw9 hq hs,fun j hj=>(World.cell?_of_block (a:=⟨o.q,0+j,none⟩) (hk _ h6)).trans (hc j hj)⟩
theorem place_app {base : Nat} {w : World} {p vx : Value} {ps : List Nat} {a : Nat} (h3 : OwnR base w 3 1 cN p ps) (hsrc : Src Tryz.prog 1 60 vx 1 (cN a) w) (hb : ps.length ≤ 100000000) (hs : base ≤ w.heap.size) :
    ∃p' w',(Builtin.append_ #[60,60] 60 #[p,vx]).run Tryz.prog w= .ok p' w'∧OwnR base w' 3 1 cN p' (ps++[a])∧Grew w w' p p':=by
  obtain⟨i0,hi0,hq⟩:=Option.map_eq_some_iff.1 infoN;simp only[Prod.mk.injEq]at hq;obtain⟨hz0,hz1,hz2⟩:=hq;obtain⟨p',w',r1,r2,r3⟩:=run_app_own2 (P:=Tryz.prog) 60 60 60 3 i0 (.int .i64 0) 1 8 Tryz.underlying60 hi0 hz0 hz1 hz2 rfl base p ps.length (ps.flatMap cN) h3 vx 1 (cN a) hsrc (by unfold maxLen;omega) (by omega) hs;refine⟨p',w',r1,?_,r3⟩;unfold OwnR;rw[zw0,List.flatMap_append,List.flatMap_cons,List.flatMap_nil,zw18];exact r2
def TW (b D:Nat) (o:Ob5) (xs:List Nat) (bgf:Nat→Nat) (w:World) (x0:Hv) (sv0 lv:Value) (n k:Nat) (t:Tv) (ta te:Int) (ia:Int) (i:Nat) (p:Value) (wr:World):Prop:=
  OW b D o xs wr (cFl (.slice (some ⟨o.q,0,none⟩) o.n o.c) x0 sv0 lv n k t ta te p ia) (bgf i)∧OwnR w.heap.size wr 3 1 cN p ((List.range i).map bgf)∧Kp b D w wr∧D≤w.heap.size
section
variable {b D : Nat} {o : Ob5} {xs : List Nat} {bgf : Nat → Nat} {w wr w' : World} {x0 : Hv} {sv0 lv : Value} {n k : Nat} {t : Tv} {ta te : Int} {ia : Int} {i : Nat} {p : Value}
theorem TW.ext (h:TW b D o xs bgf w x0 sv0 lv n k t ta te ia i p wr) (e:Ext wr w'):TW b D o xs bgf w x0 sv0 lv n k t ta te ia i p w':=⟨h.1.ext e,h.2.1.ext e,h.2.2.1.trans (Kp.ext e),h.2.2.2⟩
theorem TW.place {p' : Value} {A c : _} (h : TW b D o xs bgf w x0 sv0 lv n k t ta te ia i p wr) (hO : OwnR w.heap.size w' 3 1 cN p' ((List.range i).map bgf ++ [bgf i])) (hG : Grew wr w' p p') (hp : p' = .slice A ((List.range i).map bgf ++ [bgf i]).length c) :
    OW b D o xs w' (cFl (.slice (some ⟨o.q,0,none⟩) o.n o.c) x0 sv0 lv n k t ta te p ia) (bgf i)∧∃w9,w9=w'.setCell ⟨o.F,18,none⟩ p'∧OW b D o xs w9 (cFl (.slice (some ⟨o.q,0,none⟩) o.n o.c) x0 sv0 lv n k t ta te p' ia) (bgf i)∧OwnR w.heap.size w9 3 1 cN p' ((List.range (i+1)).map bgf)∧Kp b D w w9:=by
  obtain⟨h1,h2,h3,h4⟩:=h;have hob:∀g,p.ownBlock=some g→w.heap.size≤g:=fun g e=>(zw23 h2 g e).1;have hk:∀g,g<w.heap.size→w'.heap[g]? =wr.heap[g]? :=fun g hg=>hG.1.block g (zw9 hg h3.size) (fun e=>by have:=hob g e.symm;omega);have hw':OW b D o xs w' (cFl (.slice (some ⟨o.q,0,none⟩) o.n o.c) x0 sv0 lv n k t ta te p ia) (bgf i):=h1.far (fun g hg=>hk g (by omega)) hG.1.size;obtain⟨w9,hw9,g1,g2⟩:=hw'.setP p';refine⟨hw',w9,hw9,g1,?_,?_⟩
  · have e:(List.range (i+1)).map bgf=(List.range i).map bgf++[bgf i]:=by rw[List.range_succ,List.map_append];rfl
    rw[e];exact OwnR_keep hO (fun g q1 q2=>g2.block g q2 (.inr (zw10 h4 q1)))
  · refine Kp.trans ⟨hG.1.os.trans h3.os,hG.1.tape.trans h3.tape,hG.1.output.trans h3.output,zw10 h3.size hG.1.size,fun g q1 q2=>(hk g q1).trans (h3.block g q1 q2)⟩ g2
end
def LRel (b D:Nat) (o:Ob5) (xs:List Nat) (bgf:Nat→Nat) (w:World) (x0:Hv) (sv0 lv:Value) (n k:Nat) (t:Tv) (ta te:Int) (ia:Int) (gh:Nat) (iv:Value) (wr:World):Prop:=
  ∃(i:Nat) (A:Option Addr) (m c:Nat),i+gh=n+1∧iv= .int .i64 (i:Int)∧TW b D o xs bgf w x0 sv0 lv n k t ta te ia i (.slice A m c) wr
def S5Post (b D:Nat) (o:Ob5) (xs:List Nat) (bgf:Nat→Nat) (x0:Hv) (sv0 lv:Value) (n k:Nat) (t:Tv) (ta te:Int) (ia:Int) (w:World) (e:Ending) (w':World):Prop:=
  ∃A m c,Stp b D o xs (cFl (.slice (some ⟨o.q,0,none⟩) o.n o.c) x0 sv0 lv n k t ta te (.slice A m c) ia) (bgf (n+1)) w e w'∧OwnR D w' 3 1 cN (.slice A m c) ((List.range (n+1)).map bgf)
theorem s5_ok (b D : Nat) (o : Ob5) (xs : List Nat) (bgf : Nat → Nat) (x0 : Hv) (sv0 lv : Value) (n k : Nat) (t : Tv) (ta te : Int) (ia : Int) (w : World)
    (h:OW b D o xs w (cFl (.slice (some ⟨o.q,0,none⟩) o.n o.c) x0 sv0 lv n k t ta te (.slice none 0 0) ia) (bgf 0)) (ht:∀i,i≤n→∃hw sz bd,Chk.readAt xs (bgf i:Nat)= .ok (kd k i) hw sz bd (bgf (i+1))) (hn:n≤4096) (hk:1≤k∧k≤256):
    Calls Tryz.prog 66 #[.pointer (some ⟨o.bf,0,none⟩),.pointer (some ⟨o.bo,0,none⟩)] w (S5Post b D o xs bgf x0 sv0 lv n k t ta te ia w):=by
  have HREL:Hid (LRel b D o xs bgf w x0 sv0 lv n k t ta te ia (n+1) (.int .i64 0) w):=zh ⟨0,none,0,0,by omega,rfl,h,OwnR.nil _ _ _ _ _,Kp.rfl' _ _ _,h.high.2.2.2.2.2.2⟩;have HSK:=zh (fun(i:Nat) (hi:i≤n) (w':World) (p:Value) (h:OW b D o xs w' (cFl (.slice (some ⟨o.q,0,none⟩) o.n o.c) x0 sv0 lv n k t ta te p ia) (bgf i))=>(show Calls Tryz.prog 67 #[.pointer (some ⟨o.O,0,none⟩),.int .u8 (kd k i:Int)] w' (Stp b D o xs (cFl (.slice (some ⟨o.q,0,none⟩) o.n o.c) x0 sv0 lv n k t ta te p ia) (bgf (i+1)) w')from by
    obtain⟨hw,sz,bd,e⟩:=ht i hi;exact skip_ok b D o xs _ (bgf i) (kd k i) hw sz bd (bgf (i+1)) w' h e))
  have HW:=zh h;obtain⟨O,F,bo,bf,be_,q,n0,c0⟩:=o;simp only at HSK ⊢;clear h ht;have f0:=HW.out.bf.cell 0;have f1:=HW.out.fl.cell 8;simp only[cFl,zzD,zzE,zzF]at f0 f1;obtain⟨M,hM⟩:∃M,M=n+1:=⟨_,rfl⟩;have hn1:(n:Int)+1=(M:Int):=by omega
  have hMb:M≤4097:=by omega
  rw[←hM]at HREL;replace hM:=zh hM;go_enter Tryz.func66,Tryz.ntmps66;go_wp2_with fail;clear f0 f1
  go_loopg [9] M (fun gh iv wr=>LRel b D ⟨O,F,bo,bf,be_,q,n0,c0⟩ xs bgf w x0 sv0 lv n k t ta te ia gh iv wr)
  case atStart=>exact HREL.out
  case round=>
    obtain⟨i,A,m,c,hi,rfl,hx⟩:=hrel;obtain⟨wi,rfl⟩:∃wi:World,wi=wr:=⟨_,rfl⟩;obtain⟨gh,rfl⟩:∃gh:Nat,gh=gk:=⟨_,rfl⟩;have HX:=zh hx;clear hx HREL;have y1:(0:Int)≤(i:Int):=by omega
    have hi:i+gh=M:=by rw[hM.out];exact hi
    by_cases hlt:i<M
    · have y2:(i:Int)<(M:Int):=by omega
      have HIL:Hid (i≤n):=zh (by have:=hM.out;omega);have HKD:=zh (fun(W:World)=>(show Calls Tryz.prog 68 #[.int .i64 (i:Int),.int .i64 (k:Int)] W (fun e w'=>e= .returned (.int .u8 (kd k i:Int))∧W=w')from kind_st i k (by omega) (by omega) (by omega) W));obtain⟨bi,hbi⟩:∃q,q=bgf i:=⟨_,rfl⟩;have HBI:=zh hbi;go_upto_region 3 with fail;have HXJ:=zh (HX.out.ext (zxd (zxr wi)));have HS:=zh (And.intro (HXJ.out.1.bo.cell 0) (And.intro (HXJ.out.1.bf.cell 0) (HXJ.out.1.op.cell 1)));simp only[cFl,zzD,zzE,zzF]at HS;rw[←hbi]at HS;clear hbi;refine zw38 (S:=fun W=>W.cell? ⟨bo,0,none⟩=some (.pointer (some ⟨O,0,none⟩))∧W.cell? ⟨bf,0,none⟩=some (.pointer (some ⟨F,0,none⟩))∧W.cell? ⟨O,1,none⟩=some (.int .i64 (bi:Int))) hmxF HS.out (fun _=>?_);generalize wi.drew=w13 at*
      (refine zqK (i:=0) (v:=?_) rfl (Or.inl ⟨by rfl,?_⟩) HS.out ?_);rotate_left
      · (intro w' hSw;obtain⟨s0,s1,s2⟩:=hSw;go_simp;try with_reducible rfl)
      (try simp only[Act.put,zzA,zzB,zzC])
      (refine zqK (i:=1) (v:=?_) rfl (Or.inl ⟨by rfl,?_⟩) HS.out ?_);rotate_left
      · (intro w' hSw;obtain⟨s0,s1,s2⟩:=hSw;go_simp;try with_reducible rfl)
      (try simp only[Act.put,zzA,zzB,zzC])
      iterate 2
       refine zqU (v:=?_) HS.out rfl ?_ ?_;rotate_left
       · intro w' hSw;obtain⟨s0,s1,s2⟩:=hSw;go_simp;try with_reducible rfl
       (try simp only[Act.put,zzA,zzB,zzC])
      (refine zqK (i:=5) (v:=?_) rfl (Or.inl ⟨by rfl,?_⟩) HS.out ?_);rotate_left
      · (intro w' hSw;obtain⟨s0,s1,s2⟩:=hSw;go_simp;try with_reducible rfl)
      (try simp only[Act.put,zzA,zzB,zzC])
      iterate 2
       refine zqU (v:=?_) HS.out rfl ?_ ?_;rotate_left
       · intro w' hSw;obtain⟨s0,s1,s2⟩:=hSw;go_simp;try with_reducible rfl
       (try simp only[Act.put,zzA,zzB,zzC])
      (refine zqK (i:=8) (v:=?_) rfl (Or.inl ⟨by rfl,?_⟩) HS.out ?_);rotate_left
      · (intro w' hSw;obtain⟨s0,s1,s2⟩:=hSw;go_simp;try with_reducible rfl)
      (try simp only[Act.put,zzA,zzB,zzC])
      refine zw41 (rs:=[4,9]) (by kernel_rfl) (by simp) ?_;refine zqC rfl (fun K hK=>?_) (zqC rfl (fun K hK=>?_) zw42)
      · have c18:=HXJ.out.1.fl.cell 18
        simp only[cFl,zzD,zzE,zzF]at c18;go_simp;clear c18;refine hK.out _ _ HS.out fun _=>?_;clear hK K
        (try simp only[Act.put,zzA,zzB,zzC])
        refine zqO (i:=9) (by kernel_rfl) rfl fun K hK=>?_;have HSRC:=zh (src_rec (P:=Tryz.prog) (e':=3) Tryz.underlying60 w13 (cN bi) rfl (by intro u hu;simp[cN]at hu;subst hu;rfl) 1);replace HXJ:=zh (HXJ.out.ext (zxa (zxr w13) (.cells (cN bi).toArray 3)));simp only[cN]at HSRC HXJ;have HS:=zh (And.intro (HXJ.out.1.bo.cell 0) (And.intro (HXJ.out.1.bf.cell 0) (HXJ.out.1.op.cell 1)));simp only[cFl,zzD,zzE,zzF]at HS;rw[←HBI.out]at HS;go_simp;refine hK.out _ _ HS.out fun _=>?_;clear hK K
        (try simp only[Act.put,zzA,zzB,zzC])
        refine zqO (i:=10) (by kernel_rfl) rfl fun K hK=>?_;obtain⟨p',wq,hrun,hO,hG⟩:=place_app (a:=bi) HXJ.out.2.1 HSRC.out (by rw[zw4,zw37];omega) HXJ.out.2.2.1.size;rw[HBI.out]at hO;obtain⟨A5,c5,hp5,_⟩:=hO.shape;have HPL:=zh (HXJ.out.place hO hG hp5);rw[zw0,zw4,zw37,zw27]at hp5;subst hp5;have HRUN:=zh hrun;clear hrun hO hG;have HS:=zh (And.intro (HPL.out.1.bo.cell 0) (And.intro (HPL.out.1.bf.cell 0) (HPL.out.1.op.cell 1)));simp only[cFl,zzD,zzE,zzF]at HS;rw[←HBI.out]at HS;refine wanted_append (by rfl) (.tmp 16) (.tmp 21) 60 60 (by rfl) _ _ (by rfl) (by rfl) HRUN.out ?_;refine hK.out _ _ HS.out fun _=>?_;clear hK K
        (try simp only[Act.put,zzA,zzB,zzC])
        iterate 2
         refine zqU (v:=?_) HS.out rfl ?_ ?_;rotate_left
         · intro w' hSw;obtain⟨s0,s1,s2⟩:=hSw;go_simp;try with_reducible rfl
         (try simp only[Act.put,zzA,zzB,zzC])
        refine zqO (i:=13) (by kernel_rfl) rfl fun K hK=>?_;have c18:=HPL.out.1.fl.cell 18;have z18:=HPL.out.1.fl.frozen 18;simp only[cFl,zzD,zzE,zzF]at c18;obtain⟨w9,hw9,g1,g2,g3⟩:=HPL.out.2;have HQ:=zh (And.intro g1 (And.intro g2 g3));replace hw9:=zh hw9;clear g1 g2 g3;go_simp;rw[←hw9.out];clear hw9 c18 z18;have HS:=zh (And.intro (HQ.out.1.bo.cell 0) (And.intro (HQ.out.1.bf.cell 0) (HQ.out.1.op.cell 1)));simp only[cFl,zzD,zzE,zzF]at HS;rw[←HBI.out]at HS;refine hK.out _ _ HS.out fun _=>?_;clear hK K
        (try simp only[Act.put,zzA,zzB,zzC])
        refine zw39 (by kernel_rfl) ?_ _;clear HPL HRUN HSRC;go_upto_region 4 with fail;replace HQ:=zh (And.intro (HQ.out.1.ext (zxd (zxr w9))) (And.intro (HQ.out.2.1.ext (zxd (zxr w9))) (HQ.out.2.2.trans (Kp.ext (zxd (zxr w9))))));have HS:=zh (And.intro (HQ.out.1.bo.cell 0) (And.intro (HQ.out.1.bf.cell 0) (HQ.out.1.fl.cell 9)));simp only[cFl,zzD,zzE,zzF]at HS;refine zw38 (S:=fun W=>W.cell? ⟨bo,0,none⟩=some (.pointer (some ⟨O,0,none⟩))∧W.cell? ⟨bf,0,none⟩=some (.pointer (some ⟨F,0,none⟩))∧W.cell? ⟨F,9,none⟩=some (.int .i64 (k:Int))) hmxF HS.out (fun _=>?_);generalize w9.drew=w10 at*
        (refine zqK (i:=0) (v:=?_) rfl (Or.inl ⟨by rfl,?_⟩) HS.out ?_);rotate_left
        · (intro w' hSw;obtain⟨s0,s1,s2⟩:=hSw;go_simp;try with_reducible rfl)
        (try simp only[Act.put,zzA,zzB,zzC])
        (refine zqU (v:=?_) HS.out rfl ?_ ?_);rotate_left
        · intro w' hSw;obtain⟨s0,s1,s2⟩:=hSw;go_simp;try with_reducible rfl
        (try simp only[Act.put,zzA,zzB,zzC])
        (refine zqK (i:=2) (v:=?_) rfl (Or.inl ⟨by rfl,?_⟩) HS.out ?_);rotate_left
        · (intro w' hSw;obtain⟨s0,s1,s2⟩:=hSw;go_simp;try with_reducible rfl)
        (try simp only[Act.put,zzA,zzB,zzC])
        iterate 3
         refine zqU (v:=?_) HS.out rfl ?_ ?_;rotate_left
         · intro w' hSw;obtain⟨s0,s1,s2⟩:=hSw;go_simp;try with_reducible rfl
         (try simp only[Act.put,zzA,zzB,zzC])
        (refine zqK (i:=6) (v:=?_) rfl (Or.inl ⟨by rfl,?_⟩) HS.out ?_);rotate_left
        · (intro w' hSw;obtain⟨s0,s1,s2⟩:=hSw;go_simp;try with_reducible rfl)
        (try simp only[Act.put,zzA,zzB,zzC])
        refine zqO (i:=7) (by kernel_rfl) rfl fun K hK=>?_;go_simp;refine(HKD.out _).mono ?_;rintro e w14 ⟨rfl,rfl⟩
        (try go_wp2_with fail)
        refine hK.out _ _ HS.out fun _=>?_;clear hK K
        (try simp only[Act.put,zzA,zzB,zzC])
        refine zqO (i:=8) (by kernel_rfl) rfl fun K hK=>?_;go_simp;refine(HSK.out i HIL.out _ _ HQ.out.1).mono ?_;rintro e w15 ⟨rfl,hX,hK⟩;have HR:=zh (And.intro hX (And.intro (OwnR_keep HQ.out.2.1 (fun g q1 q2=>hK.block g q2 (.inr (zw10 HXJ.out.2.2.2 q1)))) (And.intro (HQ.out.2.2.trans hK) HXJ.out.2.2.2)));clear hX hK;have HS:=zh (And.intro (HR.out.1.bo.cell 0) (And.intro (HR.out.1.bf.cell 0) (HR.out.1.fl.cell 9)));simp only[cFl,zzD,zzE,zzF]at HS
        (try go_wp2_with fail)
        refine hK.out _ _ HS.out fun _=>?_;clear hK K
        (try simp only[Act.put,zzA,zzB,zzC])
        refine zw39 (by kernel_rfl) ?_ _;clear HQ HXJ HX HS;go_wp2_with fail
        go_roundg (gh-1)
        case measure=>omega
        case rel=>exact⟨i+1,_,_,_,by have:=hM.out;omega,by go_num,HR.out⟩
      · have HSRC:=zh (src_rec (P:=Tryz.prog) (e':=3) Tryz.underlying60 w13 (cN bi) rfl (by intro u hu;simp[cN]at hu;subst hu;rfl) 1)
        replace HXJ:=zh (HXJ.out.ext (zxa (zxr w13) (.cells (cN bi).toArray 3)));simp only[cN]at HSRC HXJ;have HS:=zh (And.intro (HXJ.out.1.bo.cell 0) (And.intro (HXJ.out.1.bf.cell 0) (HXJ.out.1.op.cell 1)));simp only[cFl,zzD,zzE,zzF]at HS;rw[←HBI.out]at HS;go_simp;refine hK.out _ _ HS.out fun _=>?_;clear hK K
        (try simp only[Act.put,zzA,zzB,zzC])
        refine zqO (i:=4) (by kernel_rfl) rfl fun K hK=>?_;have c18:=HXJ.out.1.fl.cell 18;simp only[cFl,zzD,zzE,zzF]at c18;go_simp;clear c18;refine hK.out _ _ HS.out fun _=>?_;clear hK K
        (try simp only[Act.put,zzA,zzB,zzC])
        refine zqO (i:=10) (by kernel_rfl) rfl fun K hK=>?_;obtain⟨p',wq,hrun,hO,hG⟩:=place_app (a:=bi) HXJ.out.2.1 HSRC.out (by rw[zw4,zw37];omega) HXJ.out.2.2.1.size;rw[HBI.out]at hO;obtain⟨A5,c5,hp5,_⟩:=hO.shape;have HPL:=zh (HXJ.out.place hO hG hp5);rw[zw0,zw4,zw37,zw27]at hp5;subst hp5;have HRUN:=zh hrun;clear hrun hO hG;have HS:=zh (And.intro (HPL.out.1.bo.cell 0) (And.intro (HPL.out.1.bf.cell 0) (HPL.out.1.op.cell 1)));simp only[cFl,zzD,zzE,zzF]at HS;rw[←HBI.out]at HS;refine wanted_append (by rfl) (.tmp 16) (.tmp 21) 60 60 (by rfl) _ _ (by rfl) (by rfl) HRUN.out ?_;refine hK.out _ _ HS.out fun _=>?_;clear hK K
        (try simp only[Act.put,zzA,zzB,zzC])
        iterate 2
         refine zqU (v:=?_) HS.out rfl ?_ ?_;rotate_left
         · intro w' hSw;obtain⟨s0,s1,s2⟩:=hSw;go_simp;try with_reducible rfl
         (try simp only[Act.put,zzA,zzB,zzC])
        refine zqO (i:=13) (by kernel_rfl) rfl fun K hK=>?_;have c18:=HPL.out.1.fl.cell 18;have z18:=HPL.out.1.fl.frozen 18;simp only[cFl,zzD,zzE,zzF]at c18;obtain⟨w9,hw9,g1,g2,g3⟩:=HPL.out.2;have HQ:=zh (And.intro g1 (And.intro g2 g3));replace hw9:=zh hw9;clear g1 g2 g3;go_simp;rw[←hw9.out];clear hw9 c18 z18;have HS:=zh (And.intro (HQ.out.1.bo.cell 0) (And.intro (HQ.out.1.bf.cell 0) (HQ.out.1.op.cell 1)));simp only[cFl,zzD,zzE,zzF]at HS;rw[←HBI.out]at HS;refine hK.out _ _ HS.out fun _=>?_;clear hK K
        (try simp only[Act.put,zzA,zzB,zzC])
        refine zw39 (by kernel_rfl) ?_ _;clear HPL HRUN HSRC;go_upto_region 4 with fail;replace HQ:=zh (And.intro (HQ.out.1.ext (zxd (zxr w9))) (And.intro (HQ.out.2.1.ext (zxd (zxr w9))) (HQ.out.2.2.trans (Kp.ext (zxd (zxr w9))))));have HS:=zh (And.intro (HQ.out.1.bo.cell 0) (And.intro (HQ.out.1.bf.cell 0) (HQ.out.1.fl.cell 9)));simp only[cFl,zzD,zzE,zzF]at HS;refine zw38 (S:=fun W=>W.cell? ⟨bo,0,none⟩=some (.pointer (some ⟨O,0,none⟩))∧W.cell? ⟨bf,0,none⟩=some (.pointer (some ⟨F,0,none⟩))∧W.cell? ⟨F,9,none⟩=some (.int .i64 (k:Int))) hmxF HS.out (fun _=>?_);generalize w9.drew=w10 at*
        (refine zqK (i:=0) (v:=?_) rfl (Or.inl ⟨by rfl,?_⟩) HS.out ?_);rotate_left
        · (intro w' hSw;obtain⟨s0,s1,s2⟩:=hSw;go_simp;try with_reducible rfl)
        (try simp only[Act.put,zzA,zzB,zzC])
        (refine zqU (v:=?_) HS.out rfl ?_ ?_);rotate_left
        · intro w' hSw;obtain⟨s0,s1,s2⟩:=hSw;go_simp;try with_reducible rfl
        (try simp only[Act.put,zzA,zzB,zzC])
        (refine zqK (i:=2) (v:=?_) rfl (Or.inl ⟨by rfl,?_⟩) HS.out ?_);rotate_left
        · (intro w' hSw;obtain⟨s0,s1,s2⟩:=hSw;go_simp;try with_reducible rfl)
        (try simp only[Act.put,zzA,zzB,zzC])
        iterate 3
         refine zqU (v:=?_) HS.out rfl ?_ ?_;rotate_left
         · intro w' hSw;obtain⟨s0,s1,s2⟩:=hSw;go_simp;try with_reducible rfl
         (try simp only[Act.put,zzA,zzB,zzC])
        (refine zqK (i:=6) (v:=?_) rfl (Or.inl ⟨by rfl,?_⟩) HS.out ?_);rotate_left
        · (intro w' hSw;obtain⟨s0,s1,s2⟩:=hSw;go_simp;try with_reducible rfl)
        (try simp only[Act.put,zzA,zzB,zzC])
        refine zqO (i:=7) (by kernel_rfl) rfl fun K hK=>?_;go_simp;refine(HKD.out _).mono ?_;rintro e w14 ⟨rfl,rfl⟩
        (try go_wp2_with fail)
        refine hK.out _ _ HS.out fun _=>?_;clear hK K
        (try simp only[Act.put,zzA,zzB,zzC])
        refine zqO (i:=8) (by kernel_rfl) rfl fun K hK=>?_;go_simp;refine(HSK.out i HIL.out _ _ HQ.out.1).mono ?_;rintro e w15 ⟨rfl,hX,hK⟩;have HR:=zh (And.intro hX (And.intro (OwnR_keep HQ.out.2.1 (fun g q1 q2=>hK.block g q2 (.inr (zw10 HXJ.out.2.2.2 q1)))) (And.intro (HQ.out.2.2.trans hK) HXJ.out.2.2.2)));clear hX hK;have HS:=zh (And.intro (HR.out.1.bo.cell 0) (And.intro (HR.out.1.bf.cell 0) (HR.out.1.fl.cell 9)));simp only[cFl,zzD,zzE,zzF]at HS
        (try go_wp2_with fail)
        refine hK.out _ _ HS.out fun _=>?_;clear hK K
        (try simp only[Act.put,zzA,zzB,zzC])
        refine zw39 (by kernel_rfl) ?_ _;clear HQ HXJ HX HS;go_wp2_with fail
        go_roundg (gh-1)
        case measure=>omega
        case rel=>exact⟨i+1,_,_,_,by have:=hM.out;omega,by go_num,HR.out⟩
    · obtain rfl:gh=0:=by omega
      have hin:i=n+1:=by have:=hM.out;omega
      have y2:¬(i:Int)<(M:Int):=by have:=hM.out;omega
      have HX2:=zh (hin▸HX.out);clear HX hin;go_wp2_with fail
      go_end0
      exact⟨A,m,c,⟨rfl,HX2.out.1,HX2.out.2.2.1⟩,OwnR_mono' HX2.out.2.1 HX2.out.2.2.2⟩
theorem s6_ok (b D : Nat) (o : Ob5) (xs : List Nat) (at_ : Nat) (x0 : Hv) (sv0 lv : Value) (N K : Int) (t : Tv) (ta te : Int) (A : Option Addr) (m c : Nat) (ia : Int) (ps : List Nat) (next : Nat) (w : World)
    (h:OW b D o xs w (cFl (.slice (some ⟨o.q,0,none⟩) o.n o.c) x0 sv0 lv N K t ta te (.slice A m c) ia) at_) (ht:Chk.takeAt xs (at_:Int) 2097152= .ok 7 (idx 0 ps) next) (hz:0<(idx 0 ps).length) (hO:OwnR D w 3 1 cN (.slice A m c) ps) (hu:up 0 ps) (hl:ps.length≤1000000):
    Calls Tryz.prog 69 #[.pointer (some ⟨o.bo,0,none⟩),.pointer (some ⟨o.bf,0,none⟩)] w (Stp b D o xs (cFl (.slice (some ⟨o.q,0,none⟩) o.n o.c) x0 sv0 lv N K t ta te (.slice A m c) at_) next w):=by
  have HW:=zh h;have HTK:=zh (fun(w':World) (ia:Int) (h:OW b D o xs w' (cFl (.slice (some ⟨o.q,0,none⟩) o.n o.c) x0 sv0 lv N K t ta te (.slice A m c) ia) at_)=>take_ok b D o xs _ at_ 7 (idx 0 ps) next w' h ht hz);have HOR:=zh hO;have hml:m=ps.length:=by
    obtain⟨a1,a2,e,_⟩:=hO.shape;exact(Value.slice.inj e).2.1
  subst hml;have HIX:=zh (fun(w':World) (hB:RowR w' A ps.length 1 cN ps)=>index_st A ps.length c ps w' hB hu hl);obtain⟨O,F,bo,bf,be_,q,n0,c0⟩:=o;simp only at HTK ⊢;obtain⟨m,hm⟩:∃q,ps.length=q:=⟨_,rfl⟩;rw[hm]at HW HTK HOR HIX ⊢;have HSI:=zh (idx_small ps 0);generalize idx 0 ps=zz at*;obtain⟨nz,hnz⟩:∃q,zz.length=q:=⟨_,rfl⟩;rw[hnz]at HTK;replace hnz:=zh hnz;clear h ht hz hO hu hl hm;go_enter Tryz.func69,Tryz.ntmps69;go_upto_region 0 with fail;have HX:=zh (HW.out.ext (zxd (zxr w)));have HK:=zh (Kp.ext (b:=b) (D:=D) (zxd (zxr w)));have HS:=zh (And.intro (HX.out.bo.cell 0) (And.intro (HX.out.bf.cell 0) (HX.out.op.cell 1)));simp only[cFl,zzD,zzE,zzF]at HS;refine zw38 (S:=fun W=>W.cell? ⟨bo,0,none⟩=some (.pointer (some ⟨O,0,none⟩))∧W.cell? ⟨bf,0,none⟩=some (.pointer (some ⟨F,0,none⟩))∧W.cell? ⟨O,1,none⟩=some (.int .i64 (at_:Int))) hmxF HS.out (fun _=>?_);generalize w.drew=w1 at*
  (refine zqK (i:=0) (v:=?_) rfl (Or.inl ⟨by rfl,?_⟩) HS.out ?_);rotate_left
  · (intro w' hSw;obtain⟨s0,s1,s2⟩:=hSw;go_simp;try with_reducible rfl)
  (try simp only[Act.put,zzA,zzB,zzC])
  (refine zqK (i:=1) (v:=?_) rfl (Or.inl ⟨by rfl,?_⟩) HS.out ?_);rotate_left
  · (intro w' hSw;obtain⟨s0,s1,s2⟩:=hSw;go_simp;try with_reducible rfl)
  (try simp only[Act.put,zzA,zzB,zzC])
  iterate 2
   refine zqU (v:=?_) HS.out rfl ?_ ?_;rotate_left
   · intro w' hSw;obtain⟨s0,s1,s2⟩:=hSw;go_simp;try with_reducible rfl
   (try simp only[Act.put,zzA,zzB,zzC])
  (refine zqK (i:=4) (v:=?_) rfl (Or.inl ⟨by rfl,?_⟩) HS.out ?_);rotate_left
  · (intro w' hSw;obtain⟨s0,s1,s2⟩:=hSw;go_simp;try with_reducible rfl)
  (try simp only[Act.put,zzA,zzB,zzC])
  iterate 2
   refine zqU (v:=?_) HS.out rfl ?_ ?_;rotate_left
   · intro w' hSw;obtain⟨s0,s1,s2⟩:=hSw;go_simp;try with_reducible rfl
   (try simp only[Act.put,zzA,zzB,zzC])
  refine zqO (i:=7) (by kernel_rfl) rfl fun K hK=>?_;obtain⟨w9,hw9,hh1,hh2⟩:=HX.out.setI (at_:Int);have HH:=zh (And.intro hh1 hh2);clear hh1 hh2
  try simp only at hw9
  replace hw9:=zh hw9;have z19:=HX.out.fl.frozen 19;have c19:=HX.out.fl.cell 19;simp only[cFl,zzD,zzE,zzF]at c19;go_simp;rw[←hw9.out];clear hw9;replace HX:=zh HH.out.1;replace HK:=zh (HK.out.trans HH.out.2);clear z19 c19 HH;have HS:=zh (And.intro (HX.out.bo.cell 0) (And.intro (HX.out.bf.cell 0) (HX.out.op.cell 1)));simp only[cFl,zzD,zzE,zzF]at HS;skip;refine hK.out _ _ HS.out fun _=>?_;clear hK K
  (try simp only[Act.put,zzA,zzB,zzC])
  refine zw39 (by kernel_rfl) ?_ _;go_upto_region 1 with fail;replace HX:=zh (HX.out.ext (zxd (zxr w9)));replace HK:=zh (HK.out.trans (Kp.ext (zxd (zxr w9))));replace HOR:=zh (HK.out.own HOR.out);have HS:=zh (And.intro (HX.out.bo.cell 0) (And.intro (HX.out.bf.cell 0) (HX.out.fl.cell 18)));simp only[cFl,zzD,zzE,zzF]at HS;refine zw38 (S:=fun W=>W.cell? ⟨bo,0,none⟩=some (.pointer (some ⟨O,0,none⟩))∧W.cell? ⟨bf,0,none⟩=some (.pointer (some ⟨F,0,none⟩))∧W.cell? ⟨F,18,none⟩=some (.slice A m c)) hmxF HS.out (fun _=>?_);generalize w9.drew=w1 at*
  (refine zqK (i:=0) (v:=?_) rfl (Or.inl ⟨by rfl,?_⟩) HS.out ?_);rotate_left
  · (intro w' hSw;obtain⟨s0,s1,s2⟩:=hSw;go_simp;try with_reducible rfl)
  (try simp only[Act.put,zzA,zzB,zzC])
  (refine zqK (i:=2) (v:=?_) rfl (Or.inl ⟨by rfl,?_⟩) HS.out ?_);rotate_left
  · (intro w' hSw;obtain⟨s0,s1,s2⟩:=hSw;go_simp;try with_reducible rfl)
  (try simp only[Act.put,zzA,zzB,zzC])
  iterate 2
   refine zqU (v:=?_) HS.out rfl ?_ ?_;rotate_left
   · intro w' hSw;obtain⟨s0,s1,s2⟩:=hSw;go_simp;try with_reducible rfl
   (try simp only[Act.put,zzA,zzB,zzC])
  (refine zqK (i:=5) (v:=?_) rfl (Or.inl ⟨by rfl,?_⟩) HS.out ?_);rotate_left
  · (intro w' hSw;obtain⟨s0,s1,s2⟩:=hSw;go_simp;try with_reducible rfl)
  (try simp only[Act.put,zzA,zzB,zzC])
  refine zqO (i:=1) (by kernel_rfl) rfl fun K hK=>?_;go_simp;refine(HTK.out _ at_ HX.out).mono ?_;rintro e w2 ⟨g',o',c',rfl,hB,hD,hX,hK⟩;replace HX:=zh hX;have HB:=zh hB;replace HOR:=zh (hK.own HOR.out);replace HK:=zh (HK.out.trans hK);clear hB hD hX hK;have HS:=zh (And.intro (HX.out.bo.cell 0) (And.intro (HX.out.bf.cell 0) (HX.out.fl.cell 18)));simp only[cFl,zzD,zzE,zzF]at HS
  (try go_wp2_with fail)
  refine hK.out _ _ HS.out fun _=>?_;clear hK K
  (try simp only[Act.put,zzA,zzB,zzC])
  refine zqO (i:=6) (by kernel_rfl) rfl fun K hK=>?_;go_simp;refine(HIX.out _ (OwnR.row cN_len HOR.out)).mono ?_;rintro e w3 ⟨v,rfl,hO2,hE⟩;replace HX:=zh (HX.out.ext hE);replace HK:=zh (HK.out.trans (Kp.ext hE));replace HB:=zh (HB.out.ext hE);obtain⟨A7,c7,hv7,_⟩:=hO2.shape;rw[hnz.out]at hv7;subst hv7;have HB7:=zh (hO2.bs (small_mem HSI.out)).2;clear hO2 hE;have HS:=zh (And.intro (HX.out.bo.cell 0) (And.intro (HX.out.bf.cell 0) (HX.out.fl.cell 18)));simp only[cFl,zzD,zzE,zzF]at HS
  (try go_wp2_with fail)
  refine hK.out _ _ HS.out fun _=>?_;clear hK K
  (try simp only[Act.put,zzA,zzB,zzC])
  refine zqO (i:=7) (by kernel_rfl) rfl fun K hK=>?_;go_simp;refine(Delta.same_yes _ _ nz c' nz c7 zz _ HB.out HB7.out).mono ?_;rintro e w4 ⟨rfl,rfl⟩
  (try go_wp2_with fail)
  refine hK.out _ _ HS.out fun _=>?_;clear hK K
  (try simp only[Act.put,zzA,zzB,zzC])
  refine zqO (i:=8) (by kernel_rfl) rfl fun K hK=>?_;go_simp;refine(must_ok _ _).mono ?_;rintro e w5 ⟨rfl,rfl⟩
  (try go_wp2_with fail)
  refine hK.out _ _ HS.out fun _=>?_;clear hK K
  (try simp only[Act.put,zzA,zzB,zzC])
  refine zw39 (by kernel_rfl) ?_ _;go_wp2_with fail
  go_end0
  exact⟨rfl,HX.out,HK.out⟩
def fns (O b:Nat):Array Value:= #[.func (.func 54) #[.pointer (some ⟨O,0,none⟩)] #[],
 .func (.func 55) #[] #[.pointer (some ⟨b,0,none⟩),.pointer (some ⟨b+1,0,none⟩),.pointer (some ⟨b+2,0,none⟩)],
 .func (.func 58) #[] #[.pointer (some ⟨b,0,none⟩),.pointer (some ⟨b+1,0,none⟩)],
 .func (.func 62) #[] #[.pointer (some ⟨b,0,none⟩),.pointer (some ⟨b+1,0,none⟩),.pointer (some ⟨b+2,0,none⟩)],
 .func (.func 64) #[] #[.pointer (some ⟨b,0,none⟩),.pointer (some ⟨b+1,0,none⟩),.pointer (some ⟨b+2,0,none⟩)],
 .func (.func 66) #[] #[.pointer (some ⟨b+1,0,none⟩),.pointer (some ⟨b,0,none⟩)],
 .func (.func 69) #[] #[.pointer (some ⟨b,0,none⟩),.pointer (some ⟨b+1,0,none⟩)],
 .func (.func 71) #[.pointer (some ⟨O,0,none⟩)] #[]]
def StPost (w:World) (O F b:Nat) (e:Ending) (w':World):Prop:=
 e= .returned (.slice (some ⟨b+3,0,none⟩) 8 8)∧Blk w' b 89 #[.pointer (some ⟨O,0,none⟩)]∧Blk w' (b+1) 30 #[.pointer (some ⟨F,0,none⟩)]∧Blk w' (b+2) 23 #[.int .i64 0]∧Blk w' (b+3) 1 (fns O b)∧Ext w w'∧w'.heap.size=b+4
theorem steps_st (w:World) (O F:Nat) (a:Int) (h:Blk w O 92 #[.pointer (some ⟨F,0,none⟩),.int .i64 a]):
  Calls Tryz.prog 29 #[.pointer (some ⟨O,0,none⟩)] w (StPost w O F w.heap.size):=by
 have hmf:∀(fn:Fn) (first cap:Array Value) (w:World),(Instr.makeFunc fn first cap).run Tryz.prog w= .ok (.func fn first cap) w:=fun _ _ _ _=>rfl;have f0:=h.cell 0;have hl:=h.lt;have HH:=zh h;simp only[zzD,zzE,zzF]at f0;clear h;go_enter Tryz.func29,Tryz.ntmps29;go_wp2_with fail;have q1:(w.alloc (.cells #[.pointer (some ⟨O,0,none⟩)] 89)).heap.size=w.heap.size+1:=zw22 _ _;have b0:=Blk.new w 89 #[.pointer (some ⟨O,0,none⟩)];have b1:=Blk.new (w.alloc (.cells #[.pointer (some ⟨O,0,none⟩)] 89)) 30 #[.pointer (some ⟨F,0,none⟩)];have b2:=Blk.new ((w.alloc (.cells #[.pointer (some ⟨O,0,none⟩)] 89)).alloc (.cells #[.pointer (some ⟨F,0,none⟩)] 30)) 23 #[.int .i64 0];have b3:=Blk.new (((w.alloc (.cells #[.pointer (some ⟨O,0,none⟩)] 89)).alloc (.cells #[.pointer (some ⟨F,0,none⟩)] 30)).alloc (.cells #[.int .i64 0] 23)) 1 (fns O w.heap.size);simp only[zw22]at b1 b2 b3;go_ret;refine⟨rfl,((b0.alloc _).alloc _).alloc _,(b1.alloc _).alloc _,b2.alloc _,b3,zxa (zxa (zxa (zxa (zxr _) _) _) _) _,?_⟩;simp only[zw22]
theorem catch_idle (p q:Addr) (w:World):
  CallsD Tryz.prog 26 #[.pointer (some p),.pointer (some q)] .returning w fun e u' w'=>e= .returned (.tuple #[])∧u'= .returning∧w'=w:=by
 refine callsD_of_wpS Tryz.func26 rfl fun c₀ cs hu=>?_;simp only[Tryz.ntmps26,List.size_toArray,zw3,zw26,Nat.reduceAdd,Nat.reduceSub,Array.replicate_succ,Array.replicate_zero,List.push_toArray,List.append_toArray,zw17,List.cons_append];apply wpS_seq;apply wpS_region;simp[wpOpsS,go_sem,recoverD,hu,Tryz.ntmps26,Exit.thenS];refine wpS_of_wp ?_;go_wp2_with fail;cases c₀
 simp_all [bodyPostS,results,Tryz.results26]
end Go.Proofs.YtbopblbhjcemaaaGreatDoor.Fil
