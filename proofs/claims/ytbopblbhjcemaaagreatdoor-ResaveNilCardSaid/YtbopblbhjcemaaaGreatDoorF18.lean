
import Derived.Test.YtbopblbhjcemaaaGreatDoorF14
set_option maxHeartbeats 16000000
set_option maxRecDepth 100000
set_option linter.all false
open Go.ChangeShapes Go.WideShapes Go.ChangeAt Go.RowKit
namespace Go.Proofs.YtbopblbhjcemaaaGreatDoor.Log
open Wire
def pE (L:List Nat):Option (En × List Nat):=
 match pI L with
 | none=>none
 | some (s,L1)=>match pB 3 L1 with
  | none=>none
  | some (ys,L2)=>match pN L2 with
   | none=>none
   | some (u,L3)=>match pN L3 with
    | none=>none
    | some (t,L4)=>match pN L4 with
     | none=>none
     | some (g,L5)=>some (⟨s,ys.getD 0 0,ys.getD 1 0,ys.getD 2 0,u,t,g⟩,L5)
def En.words (e:En):Prop:=e.unit≤65535∧e.tile≤65535∧e.target≤65535
instance (e:En):Decidable e.words:=by unfold En.words;infer_instance
def pL (n:Nat):Nat→Nat→Nat→List Nat→Option (List En × List Nat)
 | 0,_,_,L=>some ([],L)
 | left+1,last,each,L=>match pE L with
  | none=>none
  | some (x,R)=>if x.words∧last+x.tick<n∧each' last each (last+x.tick)≤32 then
    match pL n left (last+x.tick) (each' last each (last+x.tick)) R with
    | none=>none
    | some (es,R')=>some (({x with tick:=last+x.tick}:En)::es,R')
   else none
theorem three_of {α:Type}:∀{l:List α},l.length=3→∃a b c,l=[a,b,c]
 | [a,b,c],_=>⟨a,b,c,rfl⟩
theorem pE_put {last:Nat} {e:En} (hf:e.fits) (hs:e.tick-last≤2147483647) (ys:List Nat):pE (enc1 last e++ys)=some ({e with tick:=e.tick-last},ys):=by
 obtain⟨h1,h2,h3,h4,h5,h6⟩:=hf;unfold enc1;simp only[zw7];unfold pE;rw[pI_put hs];simp only;rw[show([e.player,e.doing,e.kind]++(vb e.unit++(vb e.tile++(vb e.target++ys))))=[e.player,e.doing,e.kind]++(vb e.unit++(vb e.tile++(vb e.target++ys)))from rfl,show(3:Nat)=[e.player,e.doing,e.kind].length from rfl,pB_put];simp only;rw[pN_put (by omega)];simp only;rw[pN_put (by omega)];simp only;rw[pN_put (by omega)];rfl
theorem pL_put (n:Nat) (hn:n≤2147483647):∀(es:List En) (last each:Nat) (ys:List Nat),(∀e∈es,e.fits)→paced n last each es→pL n es.length last each (encs last es++ys)=some (es,ys):=by
 intro es
 induction es with
 | nil=>intro last each ys _ _;rfl
 | cons e es ih=>
  intro last each ys hf hp;obtain⟨p1,p2,p3,p4⟩:=hp;have hfe:=hf e (by simp);obtain⟨h1,h2,h3,h4,h5,h6⟩:=hfe;rw[zw3,encs,zw7,pL,pE_put (hf e (by simp)) (by omega)];simp only;rw[show last+(e.tick-last)=e.tick from by omega,if_pos ⟨⟨h4,h5,h6⟩,p2,p3⟩,ih e.tick _ ys (fun x hx=>hf x (by simp[hx])) p4]
theorem pE_ok {L R:List Nat} (hL:∀c∈L,c<256) {x:En} (h:pE L=some (x,R)) (last:Nat):L=enc1 last {x with tick:=last+x.tick}++R∧x.tick≤2147483647∧x.player<256∧x.doing<256∧x.kind<256∧x.unit<18446744073709551616∧x.tile<18446744073709551616∧x.target<18446744073709551616:=by
 unfold pE at h
 split at h
 ·cases h
 rename_i s L1 h1
 split at h
 ·cases h
 rename_i ys L2 h2
 split at h
 ·cases h
 rename_i u L3 h3
 split at h
 ·cases h
 rename_i t L4 h4
 split at h
 ·cases h
 rename_i g L5 h5;cases h
 obtain⟨e1,f1⟩:=pI_ok hL h1;have hL1:∀c∈L1,c<256:=fun c hc=>hL c (by rw[e1];exact List.mem_append_right _ hc);obtain⟨e2,f2⟩:=pB_ok h2;have hL2:∀c∈L2,c<256:=fun c hc=>hL1 c (by rw[e2];exact List.mem_append_right _ hc);obtain⟨e3,f3⟩:=pN_ok hL2 h3;have hL3:∀c∈L3,c<256:=fun c hc=>hL2 c (by rw[e3];exact List.mem_append_right _ hc);obtain⟨e4,f4⟩:=pN_ok hL3 h4;have hL4:∀c∈L4,c<256:=fun c hc=>hL3 c (by rw[e4];exact List.mem_append_right _ hc);obtain⟨e5,f5⟩:=pN_ok hL4 h5;obtain⟨a,b,c,rfl⟩:=three_of f2;have hy:∀x∈[a,b,c],x<256:=fun x hx=>hL1 x (by rw[e2];exact List.mem_append_left _ hx);refine⟨?_,f1,hy a (by simp),hy b (by simp),hy c (by simp),f3,f4,f5⟩;unfold enc1;simp only[zw44,zw7];rw[←e5,←e4,←e3];exact e1.trans (congrArg _ e2)
theorem chain5 {L:List Nat}:(nx pN (nx pN (nx pN (nx (pB 3) (nx pI (some L)))))=none∧pE L=none)∨
  ∃s L1 ys L2 u L3 t L4 g L5,pI L=some (s,L1)∧pB 3 L1=some (ys,L2)∧pN L2=some (u,L3)∧pN L3=some (t,L4)∧pN L4=some (g,L5)∧pE L=some (⟨s,ys.getD 0 0,ys.getD 1 0,ys.getD 2 0,u,t,g⟩,L5)∧
   nx pI (some L)=some L1∧nx (pB 3) (some L1)=some L2∧nx pN (some L2)=some L3∧nx pN (some L3)=some L4∧nx pN (some L4)=some L5∧va pI 0 (some L)=s∧va pN 0 (some L2)=u∧va pN 0 (some L3)=t∧va pN 0 (some L4)=g:=by
 cases h1:pI L with
 | none=>left;simp[nx,h1,pE]
 | some p1=>
  obtain⟨s,L1⟩:=p1
  cases h2:pB 3 L1 with
  | none=>left;simp[nx,h1,h2,pE]
  | some p2=>
   obtain⟨ys,L2⟩:=p2
   cases h3:pN L2 with
   | none=>left;simp[nx,h1,h2,h3,pE]
   | some p3=>
    obtain⟨u,L3⟩:=p3
    cases h4:pN L3 with
    | none=>left;simp[nx,h1,h2,h3,h4,pE]
    | some p4=>
     obtain⟨t,L4⟩:=p4
     cases h5:pN L4 with
     | none=>left;simp[nx,h1,h2,h3,h4,h5,pE]
     | some p5=>
      obtain⟨g,L5⟩:=p5
      right
      exact⟨s,L1,ys,L2,u,L3,t,L4,g,L5,rfl,h2,h3,h4,h5,by simp[pE,h1,h2,h3,h4,h5],by simp[nx,h1],by simp[nx,h2],by simp[nx,h3],by simp[nx,h4],by simp[nx,h5],by simp[va,h1],by simp[va,h3],by simp[va,h4],by simp[va,h5]⟩
theorem results_cell2 {P:Program} {fn:Func} {p q:Tmp} {ty:TypeId} (h:fn.results= #[.cell p ty,.tmp q]) (tmps:Array Value) (w:World) (g:Nat) (t:TypeId) (cs:Array Value) (fr:Nat × Nat) (d:TypeDesc)
  (hp:tmps.getD p undef= .pointer (some ⟨g,0,none⟩)) (hg:w.heap[g]? =some (.cells cs t fr)) (b:Value) (hq:tmps.getD q undef=b)
  (hu:P.underlying ty=some d) (hd:(match d with | .struct _ | .array _ _=>true | _=>false)=true) (hi:(P.info? ty).map (·.size)=some cs.size):
  (results fn tmps).run P w= .ok (.tuple #[.agg cs,b]) w:=by
 have hp':tmps[p]?.getD undef= .pointer (some ⟨g,0,none⟩):=by simpa using hp
 have hq':tmps[q]?.getD undef=b:=by simpa using hq
 simp[results,h,hp',hq',asAddr,run_loadVar_row w g t ty cs fr d hg hu hd hi]
theorem gb_far {a w:World} {r:Option Nat} (h:a.grownBy w r) {p:Addr} (hp:a.heap.size≤p.block) (u:Value):a.grownBy (w.setCell p u) r:=
 ⟨h.os,h.tape,h.output,by have:=h.size;simpa [World.setCell]using this,fun k hk hr=>(zw46 w p u k (by omega)).trans (h.block k hk hr)⟩
theorem gb_alloc {a w:World} {r:Option Nat} (h:a.grownBy w r) (o:Obj):a.grownBy (w.alloc o) r:=
 ⟨h.os,h.tape,h.output,zw10 h.size (by rw[zw22];omega),fun k hk hr=>(zw47 w o k (zw9 hk h.size)).trans (h.block k hk hr)⟩
theorem gb_drew {a w:World} {r:Option Nat} (h:a.grownBy w r):a.grownBy w.drew r:=⟨h.os,h.tape,h.output,h.size,h.block⟩
def RIn (B g:Nat) (A:Option Addr) (n:Nat):Prop:=g<B∧∀a,A=some a→0<n→a.block<B
theorem RSt.rin {w:World} {g:Nat} {A:Option Addr} {n c:Nat} {xs:List Nat} {st:Option (List Nat)} (h:RSt w g A n c xs st):RIn w.heap.size g A n:=by
 refine⟨h.lt,fun a ha hp=>?_⟩;obtain⟨a',e,h1,hr,hB,h4,hm⟩:=h;obtain⟨b,o,e1,hl,hc⟩:=hB.1.2.2 hp;obtain rfl:=zw13 (ha.symm.trans e1);exact hl
theorem RSt.keep {w w':World} {B g:Nat} {A:Option Addr} {n c:Nat} {xs:List Nat} {st:Option (List Nat)} (hi:RIn B g A n) (h:RSt w g A n c xs st) (hk:∀k,k<B→w'.heap[k]? =w.heap[k]?) (hs:w.heap.size≤w'.heap.size):RSt w' g A n c xs st:=
 h.far (hk g hi.1) (fun a ha hp i=>World.cell?_of_block (hk _ (hi.2 a ha hp))) hs
theorem RSt.set {w:World} {B g:Nat} {A:Option Addr} {n c:Nat} {xs:List Nat} {st:Option (List Nat)} (hi:RIn B g A n) (h:RSt w g A n c xs st) {p:Addr} (hp:B≤p.block) (u:Value):RSt (w.setCell p u) g A n c xs st:=
 h.keep hi (fun k hk=>zw46 w p u k (by omega)) (by simp[World.setCell])
def EV (t p d u l g k:Int):Value:= .agg #[.int .i64 t,.int .u8 p,.int .u8 d,.int .u16 u,.int .u16 l,.int .u16 g,.int .u8 k]
def EPost (w:World) (g:Nat) (A:Option Addr) (n c:Nat) (xs L:List Nat) (last:Int) (e:Ending) (w':World):Prop:=
 w.grownBy w' (some g)∧match pE L with
 | none=>e= .returned (.tuple #[EV 0 0 0 0 0 0 0,.bool false])∧RSt w' g A n c xs none
 | some (x,R)=>e= .returned (.tuple #[EV (last+x.tick) x.player x.doing (IntKind.u16.wrap x.unit) (IntKind.u16.wrap x.tile) (IntKind.u16.wrap x.target) x.kind,.bool (decide x.words)])∧RSt w' g A n c xs (some R)
theorem blk_kept {w w':World} {g r:Nat} {t:TypeId} {cs:Array Value} (h:Blk w g t cs) (k:w.grownBy w' (some r)) (hne:g≠r):Blk w' g t cs:=(k.block g h.lt (by simpa using hne)).trans h
theorem bs_kept {w w':World} {A:Option Addr} {n r:Nat} {xs:List Nat} (h:Bs w A n xs) (k:w.grownBy w' (some r)) (hne:0<n→∀a,A=some a→a.block≠r):Bs w' A n xs:=by
  rcases Nat.eq_zero_or_pos n with rfl | hp
  · exact⟨h.1,h.2.1,fun h0=>absurd h0 (by omega)⟩
  · exact h.kept k (fun a ha=>by simpa using hne hp a ha)
def zeroEn:Array Value:= #[.int .i64 0,.int .u8 0,.int .u8 0,.int .u16 0,.int .u16 0,.int .u16 0,.int .u8 0]
theorem entry_st (g n c : Nat) (A : Option Addr) (xs L : List Nat) (last : Int) (h1 : 0 ≤ last) (h2 : last ≤ 1000000) (w : World) (h : RSt w g A n c xs (some L)) :
    Calls Tryz.prog 104 #[.pointer (some ⟨g,0,none⟩),.int .i64 last] w (EPost w g A n c xs L last):=by
  have hg:=h.lt;have hE0:=zxa (zxr w) (.cells #[.int .i64 0,.int .u8 0,.int .u8 0,.int .u16 0,.int .u16 0,.int .u16 0,.int .u8 0] 116);have hB0:=Blk.new w 116 #[.int .i64 0,.int .u8 0,.int .u8 0,.int .u16 0,.int .u16 0,.int .u16 0,.int .u8 0];have HA:=zh (int_st g n c A xs (some L) _ (h.ext hE0));have HE0:=zh hE0;have HB0:=zh hB0;have HG:=zh hg;have HR0:=zh h.rin;have HC:=zh (chain5 (L:=L));clear h hE0 hg hB0;go_enter Tryz.func104,Tryz.ntmps104;go_wp2_with fail;refine(HA.out).mono ?_;rintro e w1 ⟨rfl,hz1,hS1,hG1⟩;generalize hva:va pI 0 (some L)=z at*;have HV0:=zh hva;clear hva;have HS1:=zh hS1;have HG1:=zh hG1;clear hS1 hG1;have HA1:=zh (bytes_st g n c 3 (by omega) A xs _ w1 HS1.out);go_wp2_with fail;refine(HA1.out).mono ?_;rintro e w2 ⟨⟨v,rfl,hv⟩,hS2,hG2⟩;have HV:=zh hv;have HS2:=zh hS2;have HG2:=zh hG2;clear hv hS2 hG2;have HA2:=zh (num_st g n c A xs _ w2 HS2.out);go_wp2_with fail;refine(HA2.out).mono ?_;rintro e w3 ⟨rfl,hz3,hS3,hG3⟩;generalize hva:va pN 0 (nx (pB 3) (nx pI (some L)))=u at*;have HVu:=zh hva;clear hva;have HS3:=zh hS3;have HG3:=zh hG3;clear hS3 hG3;have HA3:=zh (num_st g n c A xs _ w3 HS3.out);go_wp2_with fail;refine(HA3.out).mono ?_;rintro e w4 ⟨rfl,hz4,hS4,hG4⟩;generalize hva:va pN 0 (nx pN (nx (pB 3) (nx pI (some L))))=t at*;have HVt:=zh hva;clear hva;have HS4:=zh hS4;have HG4:=zh hG4;clear hS4 hG4;have HA4:=zh (num_st g n c A xs _ w4 HS4.out);go_wp2_with fail;refine(HA4.out).mono ?_;rintro e w5 ⟨rfl,hz5,hS5,hG5⟩;generalize hva:va pN 0 (nx pN (nx pN (nx (pB 3) (nx pI (some L)))))=gg at*
  have HVg:=zh hva;clear hva;have HS5:=zh hS5;have HG5:=zh hG5;clear hS5 hG5;have HA5:=zh (err_st g n c A xs _ w5 HS5.out);have HGG:Hid (w.grownBy w5 (some g)):=zh (gb_trans (gb_trans (gb_trans (gb_trans (gb_trans (gb_ext HE0.out _) HG1.out) HG2.out) HG3.out) HG4.out) HG5.out);have hne:w.heap.size≠g:=by have:=HG.out;omega
  have hBR:=blk_kept (blk_kept (blk_kept (blk_kept (blk_kept HB0.out HG1.out hne) HG2.out hne) HG3.out hne) HG4.out hne) HG5.out hne;have HBR:=zh hBR;have a0:=fun i=>hBR.cell i;have a1:=fun i=>hBR.frozen i;clear hBR;go_wp2_with fail;refine(HA5.out).mono ?_;rintro e w6 ⟨x,rfl,hx,rfl⟩;rcases HC.out with ⟨c1,c2⟩ | ⟨s,L1,ys,L2,u',L3,t',L4,g',L5,c1,c2,c3,c4,c5,c6,d1,d2,d3,d4,d5,f1,f2,f3,f4⟩
  · have hx':¬x=0:=hx.2 c1
    have HX:=zh (And.intro c1 c2);clear c1 c2 hx;go_wp2_with fail;have hb1:=((((((HBR.out.set_ 0 (.int .i64 0)).set_ 1 (.int .u8 0)).set_ 2 (.int .u8 0)).set_ 3 (.int .u16 0)).set_ 4 (.int .u16 0)).set_ 5 (.int .u16 0)).set_ 6 (.int .u8 0);refine bodyPost_ret (v:= .tuple #[EV 0 0 0 0 0 0 0,.bool false]) (results_cell2 Tryz.results104 _ _ w.heap.size 116 _ (0,0) _ rfl hb1 _ rfl Tryz.underlying116 rfl (by kernel_rfl)) rfl ?_;refine⟨gb_far (gb_far (gb_far (gb_far (gb_far (gb_far (gb_far HGG.out (zw8 _) _) (zw8 _) _) (zw8 _) _) (zw8 _) _) (zw8 _) _) (zw8 _) _) (zw8 _) _,?_⟩;rw[HX.out.2];refine⟨rfl,?_⟩;have hr:=HS5.out;rw[HX.out.1]at hr;exact((((((hr.set HR0.out (zw8 _) _).set HR0.out (zw8 _) _).set HR0.out (zw8 _) _).set HR0.out (zw8 _) _).set HR0.out (zw8 _) _).set HR0.out (zw8 _) _).set HR0.out (zw8 _) _
  · have q2:nx (pB 3) (nx pI (some L))=some L2:=by rw[d1,d2]
    have q3:nx pN (nx (pB 3) (nx pI (some L)))=some L3:=by rw[q2,d3]
    have q4:nx pN (nx pN (nx (pB 3) (nx pI (some L))))=some L4:=by rw[q3,d4]
    have q5:nx pN (nx pN (nx pN (nx (pB 3) (nx pI (some L)))))=some L5:=by rw[q4,d5]
    have hx':x=0:=by
      by_cases h0:x=0
      · exact h0
      · exact absurd (hx.1 h0) (by rw[q5];simp)
    obtain rfl:z=s:=f1;obtain rfl:u=u':=by rw[←HVu.out,q2,f2]
    obtain rfl:t=t':=by rw[←HVt.out,q3,f3]
    obtain rfl:gg=g':=by rw[←HVg.out,q4,f4]
    obtain rfl:=hx';have HPE:=zh c6;obtain⟨y0,y1,y2,rfl⟩:=three_of (pB_ok c2).2;have hGot:GotF w1.heap.size w2 [y0,y1,y2] v:=by
      rcases HV.out with ⟨h0,_⟩ | ⟨ys',R',h0,hG⟩
      · rw[d1,Option.bind_some,c2]at h0;cases h0
      · rw[d1,Option.bind_some,c2]at h0;cases h0;exact hG
    obtain⟨A',c',rfl,hc3,hc4,hc5,hBs,hfar⟩:=hGot;have hgw:g<w1.heap.size:=(HS1.out).lt;have hne3:0<([y0,y1,y2]:List Nat).length→∀a,A'=some a→a.block≠g:=fun hp a ha=>by have:=hfar hp a ha;omega
    have hBs5:=bs_kept (bs_kept (bs_kept hBs HG3.out hne3) HG4.out hne3) HG5.out hne3;obtain⟨b,o,rfl,hlt,hcs⟩:=hBs5.2.2 (by simp);have e0:=hcs 0 (by simp);have e1:=hcs 1 (by simp);have e2:=hcs 2 (by simp);have l0:=hBs5.2.1 0;have l1:=hBs5.2.1 1;have l2:=hBs5.2.1 2;simp only[Nat.add_zero,List.getD_cons_zero,List.getD_cons_succ]at e0 e1 e2 l0 l1 l2;have HQ5:=zh q5;clear a0 a1;clear hx c1 c2 c3 c4 c5 c6 d1 d2 d3 d4 d5 f2 f3 f4 q2 q3 q4 q5 hc5 hBs hfar hne3 hBs5 hcs;simp only[zw3,zw26,Nat.zero_add,Nat.reduceAdd]at*;go_wp2_with fail;have MKS:=zh (fun(w':World) (e:Ext w5 w')=>(⟨kc e e0,kc e e1,kc e e2,zh e⟩:w'.cell? ⟨b,o,none⟩=some (.int .u8 (y0:Int))∧w'.cell? ⟨b,o+1,none⟩=some (.int .u8 (y1:Int))∧w'.cell? ⟨b,o+2,none⟩=some (.int .u8 (y2:Int))∧Hid (Ext w5 w')))
    go_region_held3 (fun w'=>w'.cell? ⟨b,o,none⟩=some (.int .u8 (y0:Int))∧w'.cell? ⟨b,o+1,none⟩=some (.int .u8 (y1:Int))∧w'.cell? ⟨b,o+2,none⟩=some (.int .u8 (y2:Int))∧Hid (Ext w5 w'))
      ((refine MKS.out _ ?_;repeat (first | exact zxr _ | refine zxa ?_ _ | refine zxd ?_ | refine ext_set ?_ (by first | omega | (simp;done) | (simp;omega)) _)))
      (fail)
    clear MKS;obtain⟨W6,hW6⟩:∃W,W=(w5.alloc (.cells #[.int .u8 (y0:Int),.int .u8 (y1:Int),.int .u16 (IntKind.u16.wrap (u:Int)),.int .u16 (IntKind.u16.wrap (t:Int)),.int .u16 (IntKind.u16.wrap (gg:Int)),.int .u8 (y2:Int)] 114)).drew:=⟨_,rfl⟩;have hb6:=(HBR.out.alloc (.cells #[.int .u8 (y0:Int),.int .u8 (y1:Int),.int .u16 (IntKind.u16.wrap (u:Int)),.int .u16 (IntKind.u16.wrap (t:Int)),.int .u16 (IntKind.u16.wrap (gg:Int)),.int .u8 (y2:Int)] 114)).drew;have hc6:=(Blk.new w5 114 #[.int .u8 (y0:Int),.int .u8 (y1:Int),.int .u16 (IntKind.u16.wrap (u:Int)),.int .u16 (IntKind.u16.wrap (t:Int)),.int .u16 (IntKind.u16.wrap (gg:Int)),.int .u8 (y2:Int)]).drew;have HGW:Hid (w.grownBy W6 (some g)):=zh (by rw[hW6];exact gb_drew (gb_alloc HGG.out _));have HSW:Hid (RSt W6 g A n c xs (some L5)):=zh (by rw[hW6,←HQ5.out];exact HS5.out.ext (zxd (zxa (zxr _) _)));have hwz:w.heap.size<w5.heap.size:=HBR.out.lt;rw[←hW6]at hb6 hc6 ⊢;clear hW6;have HB6:=zh hb6;have z0:=fun i=>hb6.cell i;have z1:=fun i=>hb6.frozen i;have z2:=fun i=>hc6.cell i;clear hb6 hc6;go_wp2_with fail
    all_goals
      have hb1:=((((((HB6.out.set_ 0 (.int .i64 (last+(z:Int)))).set_ 1 (.int .u8 (y0:Int))).set_ 2 (.int .u8 (y1:Int))).set_ 3 (.int .u16 (IntKind.u16.wrap (u:Int)))).set_ 4 (.int .u16 (IntKind.u16.wrap (t:Int)))).set_ 5 (.int .u16 (IntKind.u16.wrap (gg:Int)))).set_ 6 (.int .u8 (y2:Int));refine bodyPost_ret (v:= .tuple #[EV (last+(z:Int)) y0 y1 (IntKind.u16.wrap (u:Int)) (IntKind.u16.wrap (t:Int)) (IntKind.u16.wrap (gg:Int)) y2,.bool (decide (En.words ⟨z,y0,y1,y2,u,t,gg⟩))]) (results_cell2 Tryz.results104 _ _ w.heap.size 116 _ (0,0) _ rfl hb1 _ ?_ Tryz.underlying116 rfl (by kernel_rfl)) rfl ?_
    all_goals first
      | (refine⟨gb_far (gb_far (gb_far (gb_far (gb_far (gb_far (gb_far HGW.out (zw8 _) _) (zw8 _) _) (zw8 _) _) (zw8 _) _) (zw8 _) _) (zw8 _) _) (zw8 _) _,?_⟩
         rw[HPE.out];exact⟨rfl,((((((HSW.out.set HR0.out (zw8 _) _).set HR0.out (zw8 _) _).set HR0.out (zw8 _) _).set HR0.out (zw8 _) _).set HR0.out (zw8 _) _).set HR0.out (zw8 _) _).set HR0.out (zw8 _) _⟩)
      | (refine congrArg Value.bool (decide_eq_decide.2 ?_)
         clear z0 z1 z2;show _↔(u≤65535∧t≤65535∧gg≤65535);rcases Nat.lt_or_ge u t with hut | hut
         · simp only[if_pos hut]at*
           omega
         · simp only[if_neg (Nat.not_lt.2 hut)]at*
           omega)
open Rec
structure Ev where
 tick:Int
 player:Nat
 doing:Nat
 unit:Nat
 tile:Nat
 target:Nat
 kind:Nat
def cV (x:Ev):List Value:=[.int .i64 x.tick,.int .u8 (x.player:Int),.int .u8 (x.doing:Int),.int .u16 (x.unit:Int),.int .u16 (x.tile:Int),.int .u16 (x.target:Int),.int .u8 (x.kind:Int)]
theorem cV_len (x:Ev):(cV x).length=7:=rfl
def En.ev (e:En):Ev:=⟨e.tick,e.player,e.doing,e.unit,e.tile,e.target,e.kind⟩
theorem infoE:(Tryz.prog.info? 116).map (fun i=>(i.zero,i.size,i.bytes))=some (some (.agg #[.int .i64 0,.int .u8 0,.int .u8 0,.int .u16 0,.int .u16 0,.int .u16 0,.int .u8 0]),7,24):=by kernel_rfl
def takeL (n:Int) (L:List Nat):Option (List En):=
 if 0≤n∧n≤4096 then match pN L with
  | none=>none
  | some (left,L1)=>match pL n.toNat left 0 0 L1 with
   | some (es,[])=>some es
   | _=>none
 else none
def TkPost (w:World) (n:Int) (L:List Nat) (e:Ending) (w':World):Prop:=
 Ext w w'∧match takeL n L with
 | none=>∃x:Int,x≠0∧e= .returned (.tuple #[.slice none 0 0,.int .i64 x])
 | some es=>∃v,e= .returned (.tuple #[v,.int .i64 0])∧OwnR w.heap.size w' 116 7 cV v (es.map En.ev)
def restL (n:Nat) (done:List En) (left last each:Nat) (L:List Nat):Option (List En):=
 match pL n left last each L with
 | some (es,[])=>some (done++es)
 | _=>none
theorem restL_zero (n:Nat) (done:List En) (last each:Nat) (L:List Nat):restL n done 0 last each L=if L=[]then some done else none:=by
 unfold restL pL
 cases L with
 | nil=>simp
 | cons a b=>simp
theorem restL_bad {n:Nat} {done:List En} {left last each:Nat} {L:List Nat} (h:pE L=none):restL n done (left+1) last each L=none:=by
 unfold restL pL;rw[h]
theorem restL_no {n:Nat} {done:List En} {left last each:Nat} {L R:List Nat} {x:En} (h:pE L=some (x,R)) (hn:¬(x.words∧last+x.tick<n∧each' last each (last+x.tick)≤32)):restL n done (left+1) last each L=none:=by
 unfold restL pL;rw[h];simp only;rw[if_neg hn]
theorem restL_yes {n:Nat} {done:List En} {left last each:Nat} {L R:List Nat} {x:En} (h:pE L=some (x,R)) (hn:x.words∧last+x.tick<n∧each' last each (last+x.tick)≤32):restL n done (left+1) last each L=restL n (done++[{x with tick:=last+x.tick}]) left (last+x.tick) (each' last each (last+x.tick)) R:=by
 unfold restL;rw[pL,h];simp only;rw[if_pos hn]
 cases pL n left (last+x.tick) (each' last each (last+x.tick)) R with
 | none=>rfl
 | some p=>
  obtain⟨es,R'⟩:=p
  cases R' with
  | nil=>simp
  | cons a b=>rfl
theorem takeL_rest {n:Int} (hn:0≤n∧n≤4096) (L:List Nat):takeL n L=match pN L with | none=>none | some (left,L1)=>restL n.toNat [] left 0 0 L1:=by
 unfold takeL restL;rw[if_pos hn]
 cases pN L with
 | none=>rfl
 | some p=>obtain⟨left,L1⟩:=p;rfl
theorem each_eq (last each tick:Nat):eachI (last:Int) each (tick:Int)=each' last each tick:=by
 unfold eachI each';by_cases h:tick=last
 ·subst h;simp
 ·rw[if_neg (by omega),if_neg h]
theorem OwnR_mono {α:Type} {b b':Nat} {w:World} {e:TypeId} {k:Nat} {f:α→List Value} {v:Value} {xs:List α} (h:OwnR b w e k f v xs) (hb:b'≤b):OwnR b' w e k f v xs:=by
 rcases h with ⟨h1,h2 | ⟨g,cap,cur,r1,r2,r3⟩⟩
 ·exact⟨h1,.inl h2⟩
 ·exact⟨h1,.inr ⟨g,cap,cur,r1,zw10 hb r2,r3⟩⟩
theorem tk_ok {w w':World} {n:Int} {L:List Nat} {es:List En} {v:Value} {b:Nat} (hE:Ext w w') (h:takeL n L=some es) (hO:OwnR b w' 116 7 cV v (es.map En.ev)) (hb:w.heap.size≤b):TkPost w n L (.returned (.tuple #[v,.int .i64 0])) w':=by
 refine⟨hE,?_⟩;rw[h];exact⟨v,rfl,OwnR_mono hO hb⟩
theorem tk_bad {w w':World} {n:Int} {L:List Nat} {x:Int} (hE:Ext w w') (h:takeL n L=none) (hx:x≠0):TkPost w n L (.returned (.tuple #[.slice none 0 0,.int .i64 x])) w':=by
 refine⟨hE,?_⟩;rw[h];exact⟨x,hx,rfl⟩
def GRel (w:World) (B1 B2:Nat) (g:Nat) (A:Option Addr) (m c:Nat) (xs:List Nat) (lb eb nb n:Nat) (T:Option (List En)) (gh:Nat) (ov lv kv:Value) (wr:World):Prop:=
 ∃(done:List En) (last each:Nat) (st:Option (List Nat)),OwnR B2 wr 116 7 cV ov (done.map En.ev)∧lv= .int .i64 (last:Int)∧kv= .int .u64 (gh:Int)∧gh<18446744073709551616∧RSt wr g A m c xs st∧
  Boxes wr lb eb nb last each n∧last≤4096∧each≤32∧(∀L,st=some L→done.length+L.length≤m)∧(st=none→gh=0)∧B2≤wr.heap.size∧Ext w wr∧T=st.bind (restL n done gh last each)
theorem boxes_ext {w w':World} {lb eb nb:Nat} {last n:Int} {each:Nat} (h:Boxes w lb eb nb last each n) (e:Ext w w'):Boxes w' lb eb nb last each n:=
 ⟨h.1.ext e,h.2.1.ext e,h.2.2.1.ext e,h.2.2.2⟩
theorem boxes_grown {w w':World} {lb eb nb r:Nat} {last n:Int} {each:Nat} (h:Boxes w lb eb nb last each n) (e:w.grownBy w' (some r)) (h1:lb≠r) (h2:eb≠r) (h3:nb≠r):Boxes w' lb eb nb last each n:=
 ⟨blk_kept h.1 e h1,blk_kept h.2.1 e h2,blk_kept h.2.2.1 e h3,h.2.2.2⟩
theorem own_two {α:Type} {b lb eb:Nat} {w w':World} {e:TypeId} {k:Nat} {f:α→List Value} {v:Value} {xs:List α} (h:OwnR b w e k f v xs) (h2:Two w w' lb eb) (h3:lb<b) (h4:eb<b):OwnR b w' e k f v xs:=by
 refine⟨h.1,?_⟩;rcases h.2 with hn | ⟨g,cap,cur,rfl,hb,hgg,rest⟩
 ·exact .inl hn
 ·exact .inr ⟨g,cap,cur,rfl,hb,(h2.2.2.2.2 g (Array.getElem?_eq_some_iff.1 hgg).1 (by omega) (by omega)).trans hgg,rest⟩
theorem take_st (A:Option Addr) (m c:Nat) (xs:List Nat) (n:Int) (w:World) (hB:Bs w A m xs) (hnil:A=none→m=0∧c=0) (hm:m≤1000000):
  Calls Tryz.prog 63 #[.slice A m c,.int .i64 n] w (TkPost w n xs):=by
 have HT:=zh (ticks_any n w);have HOF:=zh (fun(w':World) (e:Ext w w')=>of_st A m c xs w' (hB.ext e) hnil (by omega));have HLEN:=zh hB.1;clear hB;by_cases hn:0≤n∧n≤4096
 ·rw[zw15 hn]at HT
  obtain⟨nn,rfl⟩:∃nn:Nat,n=(nn:Int):=⟨n.toNat,by omega⟩;have HTR:=zh (takeL_rest hn xs);rw[zw35]at HTR;have hn2:nn≤4096:=by omega
  clear hn;go_enter Tryz.func63,Tryz.ntmps63;go_wp2_with fail
  go_step3
  go_wp2_with fail;refine(HT.out).mono ?_;rintro e w1 ⟨rfl,hE1⟩;have HE1:=zh hE1;clear hE1;go_wp2_with fail;refine(HOF.out w1 HE1.out).mono ?_;rintro e w2 ⟨g,A',c',rfl,hg,hS,hE2,hfar⟩;have HE2:=zh (zxt HE1.out hE2);have HR0:=zh hS.rin;have HS2:=zh hS;have HG0:=zh hg;have HFAR:=zh hfar;clear hE2 hS hg hfar;have HP:=zh (pace (nn:Int) w2);go_wp2_with fail;refine(HP.out).mono ?_;rintro e w3 ⟨v,rfl,⟨lb,eb,nb,rfl,hbx,hb1,hb2,hb3⟩,hE3⟩;have HE3:=zh hE3;have HBX:=zh hbx;have HBL:Hid (w2.heap.size≤lb∧w2.heap.size≤eb∧w2.heap.size≤nb∧lb<w3.heap.size∧eb<w3.heap.size∧nb<w3.heap.size∧w.heap.size≤w2.heap.size∧w.heap.size≤g):=
   zh ⟨hb1,hb2,hb3,Blk.lt hbx.1,Blk.lt hbx.2.1,Blk.lt hbx.2.2.1,HE2.out.size,zw10 HE1.out.size HG0.out⟩
  clear hE3 hbx hb1 hb2 hb3;have HN:=zh (num_st g m c' A' xs _ w3 (HS2.out.ext HE3.out));go_wp2_with fail;refine(HN.out).mono ?_;rintro e w4 ⟨rfl,hz4,hS4,hG4⟩;have hE4:Ext w w4:=ext_grown (zxt HE2.out HE3.out) hG4 (fun k e=>by cases e;exact HBL.out.2.2.2.2.2.2.2);have hbx4:Boxes w4 lb eb nb 0 0 nn:=boxes_grown HBX.out hG4 (by have:=HBL.out;have:=HR0.out.1;omega) (by have:=HBL.out;have:=HR0.out.1;omega) (by have:=HBL.out;have:=HR0.out.1;omega);have HREL:Hid (GRel w w2.heap.size w3.heap.size g A' m c' xs lb eb nb nn (takeL nn xs) (va pN 0 (some xs)) (.slice none 0 0) (.int .i64 0) (.int .u64 ((va pN 0 (some xs):Nat):Int)) w4):=zh<| by
   refine⟨[],0,0,nx pN (some xs),OwnR.nil _ _ _ _ _,rfl,rfl,hz4,hS4,hbx4,by omega,by omega,?_,?_,hG4.size,hE4,?_⟩
   ·intro L hL
    cases hp:pN xs with
    | none=>simp[nx,hp]at hL
    | some q=>
     obtain⟨x,R⟩:=q;simp[nx,hp]at hL;subst hL;have hq:=congrArg List.length (pN_ok HS2.out.small hp).1;rw[zw0,HLEN.out]at hq;simp only[zw26];omega
   ·intro h0
    cases hp:pN xs with
    | none=>simp[va,hp]
    | some q=>simp[nx,hp]at h0
   ·rw[HTR.out]
    cases hp:pN xs with
    | none=>simp[nx,hp]
    | some q=>simp[nx,va,hp]
  generalize va pN 0 (some xs)=left at*;obtain⟨T,hTk⟩:∃T,takeL nn xs=T:=⟨_,rfl⟩;rw[hTk]at HREL;have HTK:=zh hTk;clear hTk;have HE4:=zh hE4;clear hz4 hS4 hG4 hE4 hbx4 HN HP HTR HOF HT hnil HS2 HBX HFAR HE3;generalize hB1:w2.heap.size=B1 at*;generalize hB2:w3.heap.size=B2 at*;clear hB1 hB2;go_wp2_with fail
  go_step3
  go_wp2_with fail
  go_loopg [8,9,10] left (fun gh ov lv kv wr=>GRel w B1 B2 g A' m c' xs lb eb nb nn T gh ov lv kv wr)
  case atStart=>exact HREL.out
  case round=>
   obtain⟨done,last,each,st,hO,rfl,rfl,hgh,hS,hbx,hl1,he1,hlen,hst,hsz,hE,hT⟩:=hrel;obtain⟨gh,rfl⟩:∃gh:Nat,gh=gk:=⟨_,rfl⟩;have HO:=zh hO;have HS:=zh hS;have HBX:=zh hbx;have HLE:=zh hlen;have HST:=zh hst;have HSZ:=zh hsz;have HE:=zh hE;have HTT:=zh hT;clear hO hS hbx hlen hst hsz hE hT HREL
   cases gh with
   | zero=>
    have HEN:=zh (end_st g m c' A' xs st wr HS.out);go_wp2_with fail;refine(HEN.out).mono ?_;rintro e w5 ⟨x,rfl,hx,hE5⟩;have HE5:=zh hE5;have HX:=zh hx;clear hE5 hx;have HEF:=zh (zxt HE.out HE5.out);by_cases hx0:x=0
    ·have HST0:=zh (HX.out.1 hx0)
     subst hx0;have HO5:=zh (HO.out.ext HE5.out);have HTF:Hid (takeL nn xs=some done):=zh (by rw[HTK.out,HTT.out,HST0.out,Option.bind_some,restL_zero,if_pos rfl]);go_wp2_with fail
     try rw[Exit.noGoto_ret]
     go_ret2
     exact tk_ok HEF.out HTF.out HO5.out (by have:=HBL.out;have:=HSZ.out;omega)
    ·have HTF:Hid (takeL nn xs=none):=zh (by
      rw[HTK.out,HTT.out]
      cases hst:st with
      | none=>rfl
      | some L=>
       rw[Option.bind_some,restL_zero,if_neg (fun h=>hx0 (HX.out.2 (by rw[hst,h])))])
     go_wp2_with fail
     try rw[Exit.noGoto_ret]
     go_ret2
     exact tk_bad HEF.out HTF.out hx0
   | succ gh=>
    have hst2:∃L,st=some L:=by
     cases hq:st with
     | none=>exact absurd (HST.out hq) (by omega)
     | some L=>exact⟨L,rfl⟩
    obtain⟨L,rfl⟩:=hst2;have HSM:=zh HS.out.small;have HLN:=zh (HLE.out L rfl);have HEN:=zh (entry_st g m c' A' xs L (last:Int) (by omega) (by omega) wr HS.out);have hghi:(0:Int)<((gh+1:Nat):Int):=by omega
    clear HST HLE;go_wp2_with fail;refine(HEN.out).mono ?_;rintro e w5 ⟨hG5,hm5⟩;have HG5:=zh hG5;clear hG5;have HE5:Hid (Ext w w5):=zh (ext_grown HE.out HG5.out (fun k e=>by cases e;exact HBL.out.2.2.2.2.2.2.2));have HBX5:=zh (boxes_grown HBX.out HG5.out (by have:=HBL.out;have:=HR0.out.1;omega) (by have:=HBL.out;have:=HR0.out.1;omega) (by have:=HBL.out;have:=HR0.out.1;omega));have HO5:=zh (HO.out.grown HG5.out (by have:=HBL.out;have:=HR0.out.1;omega));have HSZ5:=zh (zw10 HSZ.out HG5.out.size);clear HO HBX HS HE HEN
    cases hpe:pE L with
    | none=>
     rw[hpe]at hm5;obtain⟨rfl,hS5⟩:=hm5;have HPE:=zh hpe;have HS5:=zh hS5;clear hpe hS5;have HTF:Hid (takeL nn xs=none):=zh (by rw[HTK.out,HTT.out,Option.bind_some,restL_bad HPE.out]);have HER:=zh (fun(w':World) (e:Ext w5 w')=>err_st g m c' A' xs none w' (HS5.out.ext e));have HEN:=zh (fun(w':World) (e:Ext w5 w')=>end_st g m c' A' xs none w' (HS5.out.ext e));clear HO5 HBX5;unfold EV;go_wp2_with fail;refine(HER.out _ (zxa (zxr _) _)).mono ?_;rintro e w6 ⟨x,rfl,hx,rfl⟩;have hx1:¬x=0:=hx.2 (by trivial);clear hx;go_wp2_with fail;refine(HEN.out _ (zxa (zxr _) _)).mono ?_;rintro e w7 ⟨y,rfl,hy,hE7⟩;have hy1:¬y=0:=fun h=>by have:=hy.1 h;cases this
     have HE7:=zh (zxt (zxa HE5.out _) hE7);clear hy hE7;go_wp2_with fail
     try rw[Exit.noGoto_ret]
     go_ret2
     exact tk_bad HE7.out HTF.out hy1
    | some q=>
     obtain⟨x,R⟩:=q;rw[hpe]at hm5;obtain⟨rfl,hS5⟩:=hm5;have HPE:=zh hpe;have HS5:=zh hS5;clear hpe;obtain⟨p1,p2,p3,p4,p5,p6,p7,p8⟩:=pE_ok HSM.out HPE.out last;have HP1:=zh p1;clear p1 hS5;have HER:=zh (fun(w':World) (e:Ext w5 w')=>err_st g m c' A' xs (some R) w' (HS5.out.ext e));have HTI:Hid ((last:Int)+(x.tick:Int)=((last+x.tick:Nat):Int)):=zh (by omega);rw[HTI.out];have HRE:Hid (∀t0 u0:Nat,True):=zh (fun _ _=>trivial);have HWD:Hid (x.words→IntKind.u16.wrap (x.unit:Int)=x.unit∧IntKind.u16.wrap (x.tile:Int)=x.tile∧IntKind.u16.wrap (x.target:Int)=x.target):=zh (fun⟨h1,h2,h3⟩=>by
      have hw:∀n:Nat,n≤65535→IntKind.u16.wrap (n:Int)=(n:Int):=fun n hn=>by
       show(n:Int)%65536=n;omega
      exact⟨hw _ h1,hw _ h2,hw _ h3⟩)
     generalize IntKind.u16.wrap (x.unit:Int)=U at*;generalize IntKind.u16.wrap (x.tile:Int)=V at*;generalize IntKind.u16.wrap (x.target:Int)=G at*;unfold EV;have htk:last+x.tick≤2147487743:=by omega
     obtain⟨tick,hti⟩:∃t,t=last+x.tick:=⟨_,rfl⟩;rw[←hti]at HTI htk ⊢;have HTE:=zh hti;clear hti;by_cases hw:x.words
     ·rw[zw15 hw]
      have HW:=zh hw;clear hw;have HPC:=zh (fun(w':World) (h:Boxes w' lb eb nb (last:Int) each nn)=>pace1 lb eb nb (last:Int) (tick:Int) nn each w' h (by omega));go_wp2_with fail;refine(HER.out _ (zxa (zxr _) _)).mono ?_;rintro e w6 ⟨y,rfl,hy,rfl⟩;have hy1:y=0:=by
       by_cases h0:y=0
       ·exact h0
       ·have:=hy.1 h0;cases this
      subst hy1;clear hy;go_wp2_with fail;refine(HPC.out _ (boxes_ext HBX5.out (zxa (zxr _) _))).mono ?_;rintro e w7 ⟨rfl,hbx7,h2w⟩;rw[each_eq]at hbx7 ⊢;have HBX7:=zh hbx7;have H2W:=zh h2w;have hb6:=Blk.new w5 116 #[.int .i64 (tick:Int),.int .u8 (x.player:Int),.int .u8 (x.doing:Int),.int .u16 U,.int .u16 V,.int .u16 G,.int .u8 (x.kind:Int)];have hk6:∀k,k≠lb→k≠eb→k<(w5.alloc (.cells #[.int .i64 (tick:Int),.int .u8 (x.player:Int),.int .u8 (x.doing:Int),.int .u16 U,.int .u16 V,.int .u16 G,.int .u8 (x.kind:Int)] 116)).heap.size→w7.heap[k]? =(w5.alloc (.cells #[.int .i64 (tick:Int),.int .u8 (x.player:Int),.int .u8 (x.doing:Int),.int .u16 U,.int .u16 V,.int .u16 G,.int .u8 (x.kind:Int)] 116)).heap[k]? :=fun k h1 h2 h3=>h2w.2.2.2.2 k h3 h1 h2;have hb7:Blk w7 w5.heap.size 116 #[.int .i64 (tick:Int),.int .u8 (x.player:Int),.int .u8 (x.doing:Int),.int .u16 U,.int .u16 V,.int .u16 G,.int .u8 (x.kind:Int)]:=
       (hk6 _ (by have:=HBL.out;have:=HSZ5.out;omega) (by have:=HBL.out;have:=HSZ5.out;omega) hb6.lt).trans hb6
      have HE7:Hid (Ext w w7):=zh (h2w.ext (zxa HE5.out _) (by have:=HBL.out;omega) (by have:=HBL.out;omega));have HS7:Hid (RSt w7 g A' m c' xs (some R)):=zh<| by
       have hs6:=HS5.out.ext (zxa (zxr w5) (.cells #[.int .i64 (tick:Int),.int .u8 (x.player:Int),.int .u8 (x.doing:Int),.int .u16 U,.int .u16 V,.int .u16 G,.int .u8 (x.kind:Int)] 116));refine hs6.keep HR0.out (fun k hk=>hk6 k (by have:=HBL.out;omega) (by have:=HBL.out;omega) ?_) h2w.2.2.2.1;rw[zw22];have:=HBL.out;have:=HSZ5.out;omega
      have HO7:Hid (OwnR B2 w7 116 7 cV u8 (done.map En.ev)):=zh<| by
       have ho6:=HO5.out.ext (zxa (zxr w5) (.cells #[.int .i64 (tick:Int),.int .u8 (x.player:Int),.int .u8 (x.doing:Int),.int .u16 U,.int .u16 V,.int .u16 G,.int .u8 (x.kind:Int)] 116));exact own_two ho6 h2w (by have:=HBL.out;omega) (by have:=HBL.out;omega)
      have HB7:=zh hb7;clear hbx7 h2w hb6 hk6 hb7 HPC HBX5 HO5 HS5;by_cases hp:tick<nn∧each' last each tick≤32
      ·rw[zw15 (show(last:Int)≤(tick:Int)∧(tick:Int)<(nn:Int)∧each' last each tick≤32 from⟨by have:=HTE.out;omega,by omega,hp.2⟩)]
       have z0:=fun i=>HB7.out.cell i;have hw7:w5.heap.size<w7.heap.size:=HB7.out.lt;have HHP:=zh hp;clear hp;obtain⟨rfl,rfl,rfl⟩:=HWD.out HW.out;have HSRC:=zh (src_rec (P:=Tryz.prog) (e':=116) Tryz.underlying68 w7 (cV ⟨(tick:Int),x.player,x.doing,x.unit,x.tile,x.target,x.kind⟩) rfl (by intro u hu;simp[cV]at hu;rcases hu with rfl | rfl | rfl | rfl | rfl | rfl | rfl<;>rfl) 1)
       have HEA:=zh (zxa (zxr w7) (.cells (cV ⟨(tick:Int),x.player,x.doing,x.unit,x.tile,x.target,x.kind⟩).toArray 116));have HO8:=zh (HO7.out.ext HEA.out);have HSZ8:Hid (B2≤(w7.alloc (.cells (cV ⟨(tick:Int),x.player,x.doing,x.unit,x.tile,x.target,x.kind⟩).toArray 116)).heap.size):=zh (by rw[zw22];have:=HSZ5.out;omega);have HDL:Hid ((done.map En.ev).length≤100000000):=zh (by rw[zw4];have:=HLN.out;omega);go_wp2_with (at_builtin;refine wpList_rec rfl (.tmp 49) (.tmp 51) 68 116 7 24 _ cV rfl Tryz.underlying68 infoE rfl (by decide) _ _ (done.map En.ev) ⟨(tick:Int),x.player,x.doing,x.unit,x.tile,x.target,x.kind⟩ rfl rfl HO8.out HSZ8.out HSRC.out HDL.out ?_;intro v9 w9 hown9 hgr9;have HO9:=zh hown9;have HG9:=zh hgr9;clear hown9 hgr9)
       go_roundg gh
       case measure=>omega
       case rel=>
        have hob:∀k,u8.ownBlock=some k→B2≤k:=fun k e=>(zw23 HO8.out k e).1;have hkeep:∀k,k<B2→w9.heap[k]? =(w7.alloc (.cells (cV ⟨(tick:Int),x.player,x.doing,x.unit,x.tile,x.target,x.kind⟩).toArray 116)).heap[k]? :=fun k hk=>
         HG9.out.block k (zw9 hk HSZ8.out) (fun e=>by have:=hob k e.symm;omega)
        obtain⟨b1,b2,b3,b4,b5,b6,b7,b8⟩:=HBL.out;have hb8:=boxes_ext HBX7.out HEA.out;have hlL:L.length=(enc1 last ⟨last+x.tick,x.player,x.doing,x.kind,x.unit,x.tile,x.target⟩).length+R.length:=by
         have:=congrArg List.length HP1.out
         rwa [zw0]at this
        rw[enc1_len]at hlL;refine⟨done++[⟨tick,x.player,x.doing,x.kind,x.unit,x.tile,x.target⟩],tick,each' last each tick,some R,?_,rfl,rfl,by omega,?_,?_,?_,HHP.out.2,?_,?_,?_,?_,?_⟩
        ·rw[List.map_append];exact HO9.out
        ·exact(HS7.out.ext HEA.out).keep HR0.out (fun k hk=>hkeep k (by omega)) HG9.out.size
        ·exact⟨(hkeep lb b4).trans hb8.1,(hkeep eb b5).trans hb8.2.1,(hkeep nb b6).trans hb8.2.2.1,hb8.2.2.2⟩
        ·have:=HHP.out.1;omega
        ·intro L2 hL2
         obtain rfl:=zw13 hL2;have:=HLN.out;rw[zw0,zw27];omega
        ·intro h;cases h
        ·exact zw10 HSZ8.out HG9.out.size
        ·exact ext_grown (zxt HE7.out HEA.out) HG9.out (fun k e=>by have:=hob k e;omega)
        ·rw[HTT.out,Option.bind_some,restL_yes HPE.out ⟨HW.out,by rw[←HTE.out];exact HHP.out⟩,←HTE.out]
         rfl
      ·rw[zw14 (show ¬((last:Int)≤(tick:Int)∧(tick:Int)<(nn:Int)∧each' last each tick≤32)from fun h=>hp ⟨by omega,h.2.2⟩)]
       have HTF:Hid (takeL nn xs=none):=zh (by
        rw[HTK.out,HTT.out,Option.bind_some,restL_no HPE.out (fun h=>hp ?_)];rw[←HTE.out]at h;exact h.2)
       clear hp;go_wp2_with fail
       try rw[Exit.noGoto_ret]
       go_ret2
       exact tk_bad HE7.out HTF.out (by decide)
     ·rw[zw14 hw]
      have HTF:Hid (takeL nn xs=none):=zh (by
       rw[HTK.out,HTT.out,Option.bind_some,restL_no HPE.out (fun h=>hw h.1)])
      clear hw;go_wp2_with fail;refine(HER.out _ (zxa (zxr _) _)).mono ?_;rintro e w6 ⟨y,rfl,hy,rfl⟩;have hy1:y=0:=by
       by_cases h0:y=0
       ·exact h0
       ·have:=hy.1 h0;cases this
      subst hy1;clear hy;have HE7:=zh (zxa HE5.out (.cells #[.int .i64 (tick:Int),.int .u8 (x.player:Int),.int .u8 (x.doing:Int),.int .u16 U,.int .u16 V,.int .u16 G,.int .u8 (x.kind:Int)] 116));go_wp2_with fail
      try rw[Exit.noGoto_ret]
      go_ret2
      exact tk_bad HE7.out HTF.out (by decide)
 ·rw[zw14 hn]at HT
  have HTF:Hid (takeL n xs=none):=zh (by unfold takeL;rw[if_neg hn]);clear hn;go_enter Tryz.func63,Tryz.ntmps63;go_wp2_with fail
  go_step3
  go_wp2_with fail;refine(HT.out).mono ?_;rintro e w1 ⟨rfl,hE1⟩;have HE1:=zh hE1;clear hE1;go_wp2_with fail
  try rw[Exit.noGoto_ret]
  go_ret2
  exact tk_bad HE1.out HTF.out (by decide)
def St.sv (u:St):Sv:=⟨u.owner,u.kind,u.tile⟩
def Hd.hv (x:Hd):Hv:=⟨x.w,x.h,x.players,x.seed,strOf x.tiles,x.starts.map St.sv⟩
def goodS (us:List St):Prop:=(∀u∈us,u.owner≤255∧u.kind≤255)∧us.length≤128
instance (us:List St):Decidable (goodS us):=by unfold goodS;infer_instance
theorem goodS_left {us vs:List St} (h:goodS (us++vs)):goodS us:=
 ⟨fun u hu=>h.1 u (List.mem_append_left _ hu),by have:=h.2;rw[zw0]at this;omega⟩
theorem goodS_snoc {us:List St} {u:St}:goodS (us++[u])↔goodS us∧u.owner≤255∧u.kind≤255∧us.length<128:=by
 constructor
 ·intro h
  have:=h.2;rw[zw0,zw27]at this;have h2:=h.1 u (by simp);exact⟨goodS_left h,h2.1,h2.2,by omega⟩
 ·rintro ⟨h1,h2,h3,h4⟩
  refine⟨fun v hv=>?_,by rw[zw0,zw27];omega⟩;rcases zw16.1 hv with hv | hv
  ·exact h1.1 v hv
  ·rw[zw52]at hv;subst hv;exact⟨h2,h3⟩
def thO (x:Hd):Option Hv:=if goodS x.starts∧mayH x.hv then some x.hv else none
def thL (L:List Nat):Option Hv:=
 match pH L with
 | some (x,[])=>thO x
 | _=>none
def restS (done:List St) (gh:Nat) (L:List Nat):Option (List St):=
 match pS gh L with
 | some (us,[])=>some (done++us)
 | _=>none
theorem restS_zero (done:List St) (L:List Nat):restS done 0 L=if L=[]then some done else none:=by
 unfold restS pS
 cases L with
 | nil=>simp
 | cons a b=>simp
theorem chain3 {L:List Nat} (done:List St) (gh:Nat):(nx pI (nx pN (nx pN (some L)))=none∧restS done (gh+1) L=none)∨
  ∃o L1 k L2 t L3,nx pN (some L)=some L1∧nx pN (some L1)=some L2∧nx pI (some L2)=some L3∧va pN 0 (some L)=o∧va pN 0 (some L1)=k∧va pI 0 (some L2)=t∧restS done (gh+1) L=restS (done++[⟨o,k,t⟩]) gh L3:=by
 cases h1:pN L with
 | none=>left;simp[nx,h1,restS,pS]
 | some p1=>
  obtain⟨o,L1⟩:=p1
  cases h2:pN L1 with
  | none=>left;simp[nx,h1,h2,restS,pS]
  | some p2=>
   obtain⟨k,L2⟩:=p2
   cases h3:pI L2 with
   | none=>left;simp[nx,h1,h2,h3,restS,pS]
   | some p3=>
    obtain⟨t,L3⟩:=p3
    right
    refine⟨o,L1,k,L2,t,L3,by simp[nx,h1],by simp[nx,h2],by simp[nx,h3],by simp[va,h1],by simp[va,h2],by simp[va,h3],?_⟩;unfold restS;rw[pS,h1];simp only[h2,h3]
    cases pS gh L3 with
    | none=>rfl
    | some q=>
     obtain⟨us,R⟩:=q
     cases R with
     | nil=>simp
     | cons a b=>rfl
def s1 (xs:List Nat):=nx pI (some xs)
def s2 (xs:List Nat):=nx pI (s1 xs)
def s3 (xs:List Nat):=nx pI (s2 xs)
def s4 (xs:List Nat):=nx pF (s3 xs)
def s5 (xs:List Nat):=nx (pT 4096) (s4 xs)
def s6 (xs:List Nat):=nx pN (s5 xs)
theorem thL_eq (xs:List Nat):thL xs=((s6 xs).bind (restS [] (va pN 0 (s5 xs)))).bind (fun us=>thO ⟨va pI 0 (some xs),va pI 0 (s1 xs),va pI 0 (s2 xs),va pF 0 (s3 xs),va (pT 4096) [] (s4 xs),us⟩):=by
 unfold thL pH s6 s5 s4 s3 s2 s1
 cases h1:pI xs with
 | none=>simp[nx,h1]
 | some q1=>
  obtain⟨w,L1⟩:=q1
  cases h2:pI L1 with
  | none=>simp[nx,h1,h2]
  | some q2=>
   obtain⟨h,L2⟩:=q2
   cases h3:pI L2 with
   | none=>simp[nx,h1,h2,h3]
   | some q3=>
    obtain⟨p,L3⟩:=q3
    cases h4:pF L3 with
    | none=>simp[nx,h1,h2,h3,h4]
    | some q4=>
     obtain⟨sd,L4⟩:=q4
     cases h5:pT 4096 L4 with
     | none=>simp[nx,h1,h2,h3,h4,h5]
     | some q5=>
      obtain⟨ti,L5⟩:=q5
      cases h6:pN L5 with
      | none=>simp[nx,h1,h2,h3,h4,h5,h6]
      | some q6=>
       obtain⟨left,L6⟩:=q6;simp only[nx,va,Option.bind_some,h1,h2,h3,h4,h5,h6,Option.map_some,Option.getD_some,restS]
       cases pS left L6 with
       | none=>rfl
       | some q7=>
        obtain⟨us,R⟩:=q7
        cases R with
        | nil=>simp
        | cons a b=>rfl
theorem s6_none (xs:List Nat) (h:s6 xs=none):va pN 0 (s5 xs)=0:=by
 unfold s6 nx at h;unfold va
 cases hq:(s5 xs).bind pN with
 | none=>rfl
 | some q=>rw[hq]at h;cases h
theorem tiles_len (xs:List Nat) (hx:∀st L,st=some L→st=s4 xs→∀c∈L,c<256):(va (pT 4096) [] (s4 xs)).length≤4096:=by
 unfold va;cases h:(s4 xs)with
 | none=>simp
 | some L=>
  cases hq:pT 4096 L with
  | none=>simp[hq]
  | some q=>
   obtain⟨ys,R⟩:=q;have:=(pT_ok (hx _ L rfl h.symm) hq).2
   simpa [hq]using this
theorem nx_small {α:Type} {f:List Nat→Option (α × List Nat)} (hf:∀L x R,(∀c∈L,c<256)→f L=some (x,R)→∀c∈R,c<256) {st:Option (List Nat)} (h:∀L,st=some L→∀c∈L,c<256):∀L,nx f st=some L→∀c∈L,c<256:=by
 intro L hL
 cases st with
 | none=>simp[nx]at hL
 | some M=>
  cases hq:f M with
  | none=>simp[nx,hq]at hL
  | some q=>
   obtain⟨x,R⟩:=q;simp[nx,hq]at hL;subst hL;exact hf M x R (h M rfl) hq
theorem s4_small (xs:List Nat) (h:∀c∈xs,c<256):∀L,s4 xs=some L→∀c∈L,c<256:=by
 have hI:∀L x R,(∀c∈L,c<256)→pI L=some (x,R)→∀c∈R,c<256:=fun L x R hL e c hc=>hL c (by rw[(pI_ok hL e).1];exact List.mem_append_right _ hc);have hF:∀L x R,(∀c∈L,c<256)→pF L=some (x,R)→∀c∈R,c<256:=fun L x R hL e c hc=>hL c (by rw[(pF_ok hL e).1];exact List.mem_append_right _ hc);exact nx_small hF (nx_small hI (nx_small hI (nx_small hI (fun L e=>by cases e;exact h))))
def zeroH:Array Value:= #[.int .i64 0,.int .i64 0,.int .i64 0,.int .u32 0,.string ⟨#[]⟩,.slice none 0 0]
def ThPost (w:World) (L:List Nat) (e:Ending) (w':World):Prop:=
 Ext w w'∧match thL L with
 | none=>∃x:Int,x≠0∧e= .returned (.tuple #[.agg zeroH,.int .i64 x])
 | some hv=>∃v,e= .returned (.tuple #[.agg (cH hv v),.int .i64 0])∧OwnR w.heap.size w' 110 3 cS v hv.starts
theorem OwnR_mono' {α:Type} {b b':Nat} {w:World} {e:TypeId} {k:Nat} {f:α→List Value} {v:Value} {xs:List α} (h:OwnR b w e k f v xs) (hb:b'≤b):OwnR b' w e k f v xs:=by
 rcases h with ⟨h1,h2 | ⟨g,cap,cur,r1,r2,r3⟩⟩
 ·exact⟨h1,.inl h2⟩
 ·exact⟨h1,.inr ⟨g,cap,cur,r1,zw10 hb r2,r3⟩⟩
theorem OwnR_keep {α:Type} {b:Nat} {w w':World} {e:TypeId} {k:Nat} {f:α→List Value} {v:Value} {xs:List α} (h:OwnR b w e k f v xs) (hk:∀g,b≤g→g<w.heap.size→w'.heap[g]? =w.heap[g]?):OwnR b w' e k f v xs:=by
 rcases h with ⟨h1,h2 | ⟨g,cap,cur,r1,r2,r3,r4⟩⟩
 ·exact⟨h1,.inl h2⟩
 ·exact⟨h1,.inr ⟨g,cap,cur,r1,r2,(hk g r2 (Array.getElem?_eq_some_iff.1 r3).1).trans r3,r4⟩⟩
theorem th_ok {w w':World} {L:List Nat} {hv:Hv} {v:Value} {b:Nat} (hE:Ext w w') (h:thL L=some hv) (hO:OwnR b w' 110 3 cS v hv.starts) (hb:w.heap.size≤b):ThPost w L (.returned (.tuple #[.agg (cH hv v),.int .i64 0])) w':=by
 refine⟨hE,?_⟩;rw[h];exact⟨v,rfl,OwnR_mono' hO hb⟩
theorem th_bad {w w':World} {L:List Nat} {x:Int} (hE:Ext w w') (h:thL L=none) (hx:x≠0):ThPost w L (.returned (.tuple #[.agg zeroH,.int .i64 x])) w':=by
 refine⟨hE,?_⟩;rw[h];exact⟨x,hx,rfl⟩
def HRel (w:World) (g:Nat) (A:Option Addr) (m c:Nat) (xs:List Nat) (rb hb B2:Nat) (W H P S:Int) (T:ByteArray) (O:Option (List St)) (gh:Nat) (fv kv:Value) (wr:World):Prop:=
 ∃(done:List St) (sts:List Sv) (v:Value) (fits:Bool) (st:Option (List Nat)),fv= .bool fits∧kv= .int .u64 (gh:Int)∧gh<18446744073709551616∧RSt wr g A m c xs st∧Blk wr rb 56 zeroH∧
  Blk wr hb 56 #[.int .i64 W,.int .i64 H,.int .i64 P,.int .u32 S,.string T,v]∧OwnR B2 wr 110 3 cS v sts∧sts.length≤128∧(fits=true→sts=done.map St.sv∧goodS done)∧(fits=false→¬goodS done)∧
  (∀u∈sts,u.fits)∧(st=none→gh=0)∧B2≤wr.heap.size∧Ext w wr∧O=st.bind (restS done gh)
def Ev.fits (x:Ev):Prop:=x.player<256∧x.doing<256∧x.unit<65536∧x.tile<65536∧x.target<65536∧x.kind<256
def pacedB (n:Int):Int→Nat→List Ev→Bool
 | _,_,[]=>true
 | last,each,e::es=>decide (last≤e.tick∧e.tick<n∧eachI last each e.tick≤32) && pacedB n e.tick (eachI last each e.tick) es
def encV (last:Int):List Ev→List Nat
 | []=>[]
 | e::es=>(vb (e.tick-last).toNat++([e.player,e.doing,e.kind]++(vb e.unit++(vb e.tile++vb e.target))))++encV e.tick es
def putL (n:Int) (evs:List Ev):Option (List Nat):=
 if 0≤n∧n≤4096∧pacedB n 0 0 evs=true then some (vb evs.length++encV 0 evs)else none
theorem encV_map:∀(es:List En) (last:Nat),encV (last:Int) (es.map En.ev)=encs last es
 | [],_=>rfl
 | e::es,last=>by
  rw[List.map_cons,encV,encs];show(vb ((e.tick:Int)-(last:Int)).toNat++_)++encV (e.tick:Int) (es.map En.ev)=_;rw[encV_map es e.tick,show((e.tick:Int)-(last:Int)).toNat=e.tick-last by omega];rfl
theorem pacedB_map (n:Nat):∀(es:List En) (last each:Nat),pacedB n last each (es.map En.ev)=true↔paced n last each es
 | [],_,_=>by simp[pacedB,paced]
 | e::es,last,each=>by
  rw[List.map_cons,pacedB,zw48,zw49];show((last:Int)≤(e.tick:Int)∧(e.tick:Int)<(n:Int)∧eachI last each (e.tick:Int)≤32)∧pacedB n (e.tick:Int) (eachI last each (e.tick:Int)) (es.map En.ev)=true↔_;rw[each_eq,pacedB_map n es e.tick];rw[paced];constructor
  ·rintro ⟨⟨a,b,c⟩,d⟩;exact⟨by omega,by omega,c,d⟩
  ·rintro ⟨a,b,c,d⟩;exact⟨⟨by omega,by omega,c⟩,d⟩
theorem pacedB_en (n:Int):∀(evs:List Ev) (last:Nat) (each:Nat),pacedB n last each evs=true→∃es:List En,evs=es.map En.ev
 | [],_,_,_=>⟨[],rfl⟩
 | x::evs,last,each,h=>by
  rw[pacedB,zw48,zw49]at h;obtain⟨⟨h1,h2,h3⟩,h4⟩:=h;obtain⟨t,ht⟩:∃t:Nat,x.tick=(t:Int):=⟨x.tick.toNat,by omega⟩;rw[ht]at h4;obtain⟨es,rfl⟩:=pacedB_en n evs t _ h4;exact⟨⟨t,x.player,x.doing,x.kind,x.unit,x.tile,x.target⟩::es,by
   rw[List.map_cons]
   congr 1
   obtain⟨a,b,c,d,e,f,g⟩:=x;simp only at ht;rw[ht];rfl⟩
theorem En.fits_of {e:En} (h:(En.ev e).fits):e.fits:=by
 obtain⟨h1,h2,h3,h4,h5,h6⟩:=h;simp only[En.ev]at h1 h2 h3 h4 h5 h6;exact⟨h1,h2,h6,by omega,by omega,by omega⟩
theorem take_put {n:Int} {evs:List Ev} {L:List Nat} (hf:∀x∈evs,x.fits) (hl:evs.length≤1000000) (h:putL n evs=some L):∃es:List En,evs=es.map En.ev∧takeL n L=some es:=by
 unfold putL at h
 split at h
 ·rename_i hq
  obtain⟨h1,h2,h3⟩:=hq;cases h
  obtain⟨nn,rfl⟩:∃nn:Nat,n=(nn:Int):=⟨n.toNat,by omega⟩;obtain⟨es,rfl⟩:=pacedB_en _ evs 0 0 h3;refine⟨es,rfl,?_⟩;have hp:=(pacedB_map nn es 0 0).1 h3;unfold takeL;rw[if_pos ⟨h1,h2⟩,zw4,pN_put (by rw[zw4]at hl;omega)];simp only;have he:encV 0 (es.map En.ev)=encs 0 es:=encV_map es 0;rw[he,zw35];have:=pL_put nn (by omega) es 0 0 [] (fun e he=>En.fits_of (hf _ (List.mem_map_of_mem he))) hp;rw[zw18]at this;rw[this]
 ·cases h
def PtPost (w:World) (n:Int) (evs:List Ev) (e:Ending) (w':World):Prop:=
 Ext w w'∧match putL n evs with
 | none=>e= .returned (.tuple #[.slice none 0 0,.int .i64 2])
 | some L=>∃v,e= .returned (.tuple #[v,.int .i64 0])∧OwnB w.heap.size w' v L
theorem encV_small:∀(evs:List Ev) (last:Int),(∀x∈evs,x.fits)→∀c∈encV last evs,c<256
 | [],_,_,c,hc=>by cases hc
 | x::evs,last,hf,c,hc=>by
  obtain⟨h1,h2,h3,h4,h5,h6⟩:=hf x (by simp);rw[encV]at hc;rcases zw16.1 hc with hc | hc
  ·rcases zw16.1 hc with hc | hc
   ·exact vb_mem _ c hc
   ·rcases zw16.1 hc with hc | hc
    ·simp only[zw30,List.not_mem_nil,or_false]at hc
     rcases hc with rfl | rfl | rfl<;>assumption
    ·rcases zw16.1 hc with hc | hc
     ·exact vb_mem _ c hc
     ·rcases zw16.1 hc with hc | hc
      ·exact vb_mem _ c hc
      ·exact vb_mem _ c hc
  ·exact encV_small evs x.tick (fun y hy=>hf y (by simp[hy])) c hc
theorem putL_small {n:Int} {evs:List Ev} {L:List Nat} (hf:∀x∈evs,x.fits) (h:putL n evs=some L):∀c∈L,c<256:=by
 unfold putL at h
 split at h
 ·cases h
  intro c hc;rcases zw16.1 hc with hc | hc
  ·exact vb_mem _ c hc
  ·exact encV_small evs 0 hf c hc
 ·cases h
theorem putL_len {n:Int} {evs:List Ev} {L:List Nat} (hf:∀x∈evs,x.fits) (hl:evs.length≤1000) (h:putL n evs=some L):L.length≤100000:=by
 have hv:∀(es:List En) (last:Nat),(∀e∈es,e.fits∧e.tick≤4096)→(encs last es).length≤43*es.length:=by
  intro es
  induction es with
  | nil=>intro _ _;simp[encs]
  | cons e es ih=>
   intro last hfe;have h1:=ih e.tick (fun x hx=>hfe x (by simp[hx]));obtain⟨⟨_,_,_,a,b,c⟩,d⟩:=hfe e (by simp);rw[encs,zw0,enc1_len,zw3];have:=vb_ten (n:=e.tick-last) (by omega);have:=vb_ten (n:=e.unit) (by omega);have:=vb_ten (n:=e.tile) (by omega);have:=vb_ten (n:=e.target) (by omega);omega
 have h0:=h;unfold putL at h
 split at h
 ·rename_i hq
  obtain⟨h1,h2,h3⟩:=hq;cases h
  obtain⟨nn,rfl⟩:∃nn:Nat,n=(nn:Int):=⟨n.toNat,by omega⟩;obtain⟨es,rfl⟩:=pacedB_en _ evs 0 0 h3;have hp:=(pacedB_map nn es 0 0).1 h3;have he:encV 0 (es.map En.ev)=encs 0 es:=encV_map es 0;rw[he,zw0];rw[zw4]at hl ⊢;have hb:∀(es:List En) (last each:Nat),paced nn last each es→∀e∈es,e.tick<nn:=by
   intro es
   induction es with
   | nil=>intro _ _ _ e he;cases he
   | cons x es ih=>
    intro last each hp e he;obtain⟨p1,p2,p3,p4⟩:=hp;rcases zw30.1 he with rfl | he
    ·exact p2
    ·exact ih _ _ p4 e he
  have h5:=hv es 0 (fun e he=>⟨En.fits_of (hf _ (List.mem_map_of_mem he)),by have:=hb es 0 0 hp e he;omega⟩);have:=vb_ten (n:=es.length) (by omega);omega
 ·cases h
end Go.Proofs.YtbopblbhjcemaaaGreatDoor.Log
