
import Derived.Test.YtidnboeihkeljaaGreatDoorF16
import Derived.Lib.BufferWrite
import Derived.Deep.RegionHeld3
set_option maxHeartbeats 16000000
set_option maxRecDepth 100000
set_option linter.all false
open Go.ChangeShapes Go.WideShapes Go.ChangeAt Go.RowKit
namespace Go.Proofs.YtidnboeihkeljaaGreatDoor.Delta
open Wire
inductive AR where
 | bad (err:Int)
 | ok (zs:List Nat)
def folded (n:Nat) (l:List (Nat × List Nat)):List Nat:=l.foldl (fun x p=>lay x p.1 p.2) (List.replicate n 0)
def applied (xs ds:List Nat) (most:Int):AR:=
 match lim (vr 0 0 ds)with
 | .short=> .bad 3
 | .form=> .bad 4
 | .ok n k=>
  if most<(n:Int)then .bad 6 else
  match lits n 0 (ds.drop k)with
  | .bad f=> .bad f
  | .ok l=>if vb n++enc (folded n l)=ds then .ok (mix xs (folded n l))else .bad 4
theorem lay_len (x:List Nat) (i:Nat) (ys:List Nat) (h:i+ys.length≤x.length):(lay x i ys).length=x.length:=by
 simp only[lay,zw0,zw2,zw1];omega
theorem fold_len (l:List (Nat × List Nat)):∀x:List Nat,(∀p∈l,p.1+p.2.length≤x.length)→(l.foldl (fun x p=>lay x p.1 p.2) x).length=x.length:=by
 induction l with
 | nil=>intro x _;rfl
 | cons p l ih=>
  intro x h;have h0:=lay_len x p.1 p.2 (h p List.mem_cons_self);rw[List.foldl_cons,ih _ (fun q hq=>by rw[h0];exact h q (List.mem_cons_of_mem _ hq)),h0]
theorem lay_small {x:List Nat} {i:Nat} {ys:List Nat} (hx:∀c∈x,c<256) (hy:∀c∈ys,c<256):∀c∈lay x i ys,c<256:=fun c hc=>by
 simp only[lay,zw16]at hc;rcases hc with (hc | hc) | hc
 ·exact hx c (List.mem_of_mem_take hc)
 ·exact hy c hc
 ·exact hx c (List.mem_of_mem_drop hc)
theorem fold_small (l:List (Nat × List Nat)):∀x:List Nat,(∀c∈x,c<256)→(∀p∈l,∀c∈p.2,c<256)→∀c∈l.foldl (fun x p=>lay x p.1 p.2) x,c<256:=by
 induction l with
 | nil=>intro x h _;exact h
 | cons p l ih=>
  intro x h hp;rw[List.foldl_cons];exact ih _ (lay_small h (hp p List.mem_cons_self)) (fun q hq=>hp q (List.mem_cons_of_mem _ hq))
theorem applied_diff (xs ys:List Nat) (hx:∀c∈xs,c<256) (hy:∀c∈ys,c<256) (hl:ys.length≤1000000):applied xs (diff xs ys) (ys.length:Nat)= .ok ys:=by
 have hm:=mix_len xs ys;have hms:=mem_small (mix_small (small_mem hx) (small_mem hy));have h1:=vr_put (m:=ys.length) (by omega) (enc (mix xs ys));have h2:=lits_enc _ 0 (mix xs ys) (zw8 _) (by rw[hm];exact hl) hms;rw[Nat.zero_add,hm]at h2;have h3:=fill _ (mix xs ys) [] (zw8 _);rw[zw26,zw17,zw17,hm]at h3;have e:diff xs ys=vb ys.length++enc (mix xs ys):=rfl;unfold applied;rw[e,h1];simp only[lim];rw[if_pos (by omega)];simp only;rw[if_neg (by omega),List.drop_left,h2];have h4:folded ys.length (pcs 0 (mix xs ys))=mix xs ys:=h3;simp only;rw[if_pos (by rw[h4]),h4,mix_mix]
theorem wpList_of_copy {P:Program} {w:World} {ops:Array Oper} {rest:List Oper} {o:Oper} {a:Act} {Q:Exit→Act→World→Prop} (hgd:o.guard=none) (s x:Operand) (t tx:TypeId)
  (ho:o.op= .call {callee:= .builtin .copy,args:= #[s,x],argTypes:= #[t,tx]}) (vs vx:Value) (hs:a.eval s=vs) (hx:a.eval x=vx) {v':Value} {w':World}
  (hr:(Builtin.copy_ #[t,tx] o.type #[vs,vx]).run P w= .ok v' w') (h:wpList P ops Q rest (a.put o.dst v') w'):wpList P ops Q (o::rest) a w:=
 wpList_plain hgd fun K hK=>by
  unfold Oper.wp execOp;simp only[ho,resolve,invoke,builtin,Sem.run_bind,Sem.run_pure,Result.andThen_ok,List.map_toArray,List.map_cons,List.map_nil,hs,hx,hr];exact hK _ _ h
theorem run_lay {w:World} (base g n i:Nat) (zs:List Nat) (S:ByteArray) (hown:w.ownsRow base 5 1 (.slice (some ⟨g,0,none⟩) n n) n (c8 zs)) (hfit:i+S.size≤n) (d:Value) (hd:S.size=0∧(∃p m c,d= .slice p m c)∨d= .slice (some ⟨g,i,none⟩) (n-i) (n-i)) (ty:TypeId):
  ∃w',(Builtin.copy_ #[48,9] ty #[d,.string S]).run Tryz.prog w= .ok (goInt S.size) w'∧w'.ownsRow base 5 1 (.slice (some ⟨g,0,none⟩) n n) n (c8 (lay zs i (natsOf S)))∧w.grownBy w' (some g):=by
 have hsz:(Tryz.prog.info? 5).map (·.size)=some 1:=by kernel_rfl
 have hnl:=natsOf_len S;rcases hd with ⟨h0,p,m,c,rfl⟩ | rfl
 ·refine⟨w,?_,?_,World.grownBy.refl _ _⟩
  ·rw[Lib.run_copy_empty_string w _ _ ty 5 p m c S Tryz.underlying48 (by rw[hsz];rfl) h0,h0];rfl
  ·have e:natsOf S=[]:=zw19 (by rw[hnl,h0])
   rw[e];unfold lay
   simpa using hown
 ·rcases hown.2 with ⟨hq,_⟩ | ⟨g',cap,cur,hq,hb,hg,hnc,hcm,hcs,htk⟩
  ·simp at hq
  ·simp only[Value.slice.injEq,Option.some.injEq,Addr.mk.injEq,and_true,true_and]at hq
   obtain⟨rfl,rfl⟩:=hq;have hcl:cur.size=n:=by rw[hcs,Nat.mul_one]
   have hcz:cur.toList=c8 zs:=by rw[←htk,Nat.mul_one,List.take_of_length_le (by rw[Array.length_toList,hcl];exact zw8 _)]
   have hzl:zs.length=n:=by have:=hown.1;rwa [c8_len,Nat.mul_one]at this
   have hbc:Lib.byteCells S.data.toList=c8 (natsOf S):=byteCells_eq S;have hfin:(cur.toList.take i++Lib.byteCells S.data.toList++cur.toList.drop (i+S.size)).toArray=(c8 (lay zs i (natsOf S))).toArray:=by
    rw[hcz,hbc];simp only[lay,c8_app,hnl];simp[c8,List.map_take,List.map_drop]
   have hll:(lay zs i (natsOf S)).length=n:=by rw[lay_len _ _ _ (by rw[hnl,hzl];exact hfit),hzl]
   refine⟨_,Lib.run_copy_row_string w _ _ ty 5 g i (n-i) (n-i) S cur _ Tryz.underlying48 hsz hg (by omega) (by rw[hcl];exact hfit),?_,⟨rfl,rfl,rfl,by simp[World.setRow],fun k _ hk=>setRow_other w g k _ (fun e=>hk (by rw[e]))⟩⟩;rw[hfin];refine⟨by rw[c8_len,hll,Nat.mul_one],.inr ⟨g,n,_,rfl,hb,setRow_heap w g cur _ _ _ hg,zw8 _,hcm,by simp[c8_len,hll],?_⟩⟩;rw[Nat.mul_one];exact List.take_of_length_le (by simp[c8_len,hll])
theorem eff_old {a w w':World} {g i:Nat} {s:Value} {e:Int} (h:Ext a w) (k:Eff w w' g s i e) (hg:a.heap.size≤g):Ext a w':=ext_grown h k.2 (fun j hj=>by obtain rfl:=zw13 hj;exact hg)
def APost (w:World) (R:AR) (e:Ending) (w':World):Prop:=
 Ext w w'∧match R with
 | .bad f=>e= .returned (.tuple #[.slice none 0 0,.int .i64 f])∧f≠0
 | .ok zs=>∃g,e= .returned (.tuple #[.slice (some ⟨g,0,none⟩) zs.length zs.length,.int .i64 0])∧Wire.Own w w' (.slice (some ⟨g,0,none⟩) zs.length zs.length) zs
def ARel (w2 w3:World) (gx n:Nat) (l:List (Nat × List Nat)) (pv:Value) (iv:Value) (wr:World):Prop:=
 ∃q:Nat,q≤l.length∧iv= .int .i64 (q:Int)∧wr.ownsRow w3.heap.size 5 1 (.slice (some ⟨gx,0,none⟩) n n) n (c8 ((l.take q).foldl (fun x p=>lay x p.1 p.2) (List.replicate n 0)))∧POwn w2 wr pv l∧Ext w3 wr
theorem pcells_at (l:List (Nat × List Nat)):∀q,(h:q<l.length)→(pcells l)[q*2]? =some (.int .i64 ((l[q]).1:Int))∧(pcells l)[q*2+1]? =some (.string (strOf (l[q]).2)):=by
 induction l with
 | nil=>intro q h;simp at h
 | cons p l ih=>
  intro q h;have e:pcells (p::l)= .int .i64 (p.1:Int):: .string (strOf p.2)::pcells l:=by simp[pcells]
  rw[e]
  cases q with
  | zero=>exact⟨rfl,rfl⟩
  | succ q=>
   have:=ih q (by simpa using h);rw[show(q+1)*2=q*2+1+1 from by omega]
   simpa using this
theorem apply (A B:Option Addr) (m c N cd:Nat) (xs ds:List Nat) (most:Int) (w:World) (hA:Bs w A m xs) (hB:Bs w B N ds) (hnil:B=none→N=0∧cd=0) (hm:m≤1000000) (hN:N≤1000000) (hm1: -9223372036854775808≤most) (hm2:most≤1000000):
  Calls Tryz.prog 44 #[.slice A m c,.slice B N cd,.int .i64 most] w (APost w (applied xs ds most)):=by
 have HA:=zh hA;have HB:=zh hB;have HNIL:=zh hnil;have hdl:ds.length=N:=hB.1;have HDL:=zh hdl;clear hA hB hnil hdl;obtain⟨R,hR⟩:∃R,R=applied xs ds most:=⟨_,rfl⟩;rw[←hR];have HR:=zh hR;clear hR;go_enter Tryz.func44,Tryz.ntmps44;go_wp2_with fail;refine(of B N cd ds w HB.out HNIL.out (by omega)).mono ?_;rintro e w1 ⟨g,A1,c1,rfl,hg,hr,hrb,hE1⟩;have HRD:=zh hr;have HRB:=zh hrb;have HE1:=zh hE1;clear hr hrb hE1;go_wp2_with fail;refine(int g N c1 0 A1 ds w1 HRD.out HRB.out.1 (by omega) (by omega)).mono ?_;rintro e w2 ⟨n,j,err,rfl,hz,hE2,hl⟩;rw[zw28]at hl;have hx2:=eff_old HE1.out hE2 hg;have HE2:=zh hE2;have HX2:=zh hx2;clear hE2 hx2;cases hLM:lim (vr 0 0 ds)with
 | short=>
  rw[hLM]at hl;obtain⟨rfl,rfl,rfl⟩:=hl;have HRR:Hid (R= .bad 3):=zh (by rw[HR.out];unfold applied;rw[hLM]);clear hLM;go_wp2_with fail;refine(err_any g _ (0+0) 3 w2 HE2.out.1).mono ?_;rintro e w3 ⟨rfl,rfl⟩;go_wp2_with fail;refine(err_any g _ (0+0) 3 w2 HE2.out.1).mono ?_;rintro e w3 ⟨rfl,rfl⟩;go_wp2_with fail
  go_ret2
  exact⟨HX2.out,by rw[HRR.out];exact⟨rfl,by decide⟩⟩
 | form=>
  rw[hLM]at hl;obtain⟨rfl,rfl,rfl⟩:=hl;have HRR:Hid (R= .bad 4):=zh (by rw[HR.out];unfold applied;rw[hLM]);clear hLM;go_wp2_with fail;refine(err_any g _ (0+0) 4 w2 HE2.out.1).mono ?_;rintro e w3 ⟨rfl,rfl⟩;go_wp2_with fail;refine(err_any g _ (0+0) 4 w2 HE2.out.1).mono ?_;rintro e w3 ⟨rfl,rfl⟩;go_wp2_with fail
  go_ret2
  exact⟨HX2.out,by rw[HRR.out];exact⟨rfl,by decide⟩⟩
 | ok v kk=>
  rw[hLM]at hl;obtain⟨rfl,rfl,rfl⟩:=hl;have HLM:=zh hLM;clear hLM;go_wp2_with fail;refine(err_any g _ (0+j) 0 w2 HE2.out.1).mono ?_;rintro e w3 ⟨rfl,rfl⟩;by_cases hbig:most<(n:Int)
  ·have HRR:Hid (R= .bad 6):=zh (by rw[HR.out];unfold applied;rw[HLM.out];simp only;rw[if_pos hbig])
   go_wp2_with fail
   go_ret2
   exact⟨HX2.out,by rw[HRR.out];exact⟨rfl,by decide⟩⟩
  ·have hbb:¬most<(n:Int):=hbig
   have hn6:n≤1000000:=by omega
   obtain⟨_,hk1,_,hk2⟩:=vr_ok (mem_small HB.out.2.1) (lim_ok HLM.out);rw[HDL.out]at hk2;go_wp2_with fail;refine(literals g n N c1 (0+j) A1 ds w2 HE2.out.1 (by omega) (HRB.out.eff HE2.out.2) hN (by omega)).mono ?_;intro e w3 hL;rw[Nat.zero_add]at hL;obtain⟨hg3,hL⟩:=hL;have HX3:Hid (Ext w w3):=zh (ext_grown HX2.out hg3 (fun q hq=>by obtain rfl:=zw13 hq;exact hg));clear hg3;cases hLT:lits n 0 (ds.drop j)with
   | bad f=>
    rw[hLT]at hL;obtain⟨rfl,hf⟩:=hL;have hf3:(f != 0)=true:=by rw[bne_iff_ne];exact hf
    have HF:=zh hf;have HRR:Hid (R= .bad f):=zh (by rw[HR.out];unfold applied;rw[HLM.out];simp only;rw[if_neg (show ¬most<(n:Int)by omega),hLT]);clear hf hLT hk1;go_wp2_with fail
    go_ret2
    exact⟨HX3.out,by rw[HRR.out];exact⟨rfl,HF.out⟩⟩
   | ok l=>
    rw[hLT]at hL;obtain⟨pv,rfl,hO,hP⟩:=hL;have HO:=zh hO;have HP:=zh hP;have HRR:Hid (R=if vb n++enc (folded n l)=ds then .ok (mix xs (folded n l))else .bad 4):=zh (by rw[HR.out];unfold applied;rw[HLM.out];simp only;rw[if_neg (show ¬most<(n:Int)by omega),hLT]);obtain⟨AP,cp,rfl,hcp1,hcp2,hAP⟩:=own_shape hO;obtain⟨i0,hi0,hz0,hz1,hz2⟩:=info_parts info8;have HQ0:Hid (i0.bytes*n≤281474976710656):=zh (by rw[hz2];omega);have HQ1:Hid (n≤maxLen):=zh (by unfold maxLen;omega);have HI:=zh (And.intro hi0 (And.intro hz0 hz1));clear hi0 hz0 hz1 hz2;have HZ:Hid ((madeCells (Value.int .u8 0).cells (n*1)).toList=c8 (List.replicate n 0)):=zh (by
     rw[Nat.mul_one];have:=toList_madeCells_one (.int .u8 0) n;rw[show(Value.int .u8 0).cells= #[.int .u8 0]from rfl,this];simp[c8])
    have HAP:=zh hAP;clear hO hP hLT hk1 hAP;go_wp2_with (first | (at_make;refine wpList_make_full w3 rfl (.tmp 36) (.tmp 36) 48 rfl w3.heap.size 5 i0 (.int .u8 0) 1 Tryz.underlying48 HI.out.1 HI.out.2.1 HI.out.2.2 .i64 .i64 (n:Int) (n:Int) n rfl rfl rfl rfl HQ0.out HQ1.out (zw8 _) ?_;intro w4 hown4 hg4;rw[HZ.out]at hown4))
    have HO4:=zh (own_ext HO.out (ext_grown (zxr w3) hg4 (fun _ hk=>by cases hk)));have HE4:=zh (ext_grown (zxr w3) hg4 (fun _ hk=>by cases hk));have HOW:=zh hown4;have hcp:l.length≤9223372036854775807:=by unfold maxLen at hcp2;omega
    clear hown4 hg4
    go_loopw [40] (fun iv wr=>ARel w2 w3 w3.heap.size n l (.slice AP l.length cp) iv wr) (fun iv _=>l.length-(intOf iv).toNat)
    case atStart=>exact⟨0,Nat.zero_le _,rfl,HOW.out,HO4.out,HE4.out⟩
    case round=>
     clear HO4 HE4 HOW;obtain⟨q,hq,rfl,hX,hO,hE⟩:=hrel;have HX:=zh hX;have HO4:=zh hO;have HE4:=zh hE;clear hX hO hE;by_cases hlt:q<l.length
     ·obtain⟨gp,rfl,hgp⟩:=HAP.out (by omega)
      have hgp3:=(zw23 HO.out gp rfl).2;have hpc:=pcells_at l q hlt;have c0:=(HO4.out.cellAt (q*2) (by omega)).trans hpc.1;have c1:=(HO4.out.cellAt (q*2+1) (by omega)).trans hpc.2;have hp:=HP.out (l[q]) (zw25 hlt);have HTK:Hid (l.take (q+1)=l.take q++[l[q]]):=zh (List.take_succ_eq_append_getElem hlt);have k0:(0:Int)≤(q:Int):=by omega
      have k1:(q:Int)<(l.length:Int):=by omega
      clear hpc hcp1 hcp2;generalize l[q]=p at*;obtain⟨pa,py⟩:=p;dsimp only at c0 c1 hp;obtain⟨hp1,hp2⟩:=hp;have HP2:=zh hp2;clear hp2;have hSl:(strOf py).size≤n-pa:=by rw[strOf_size];omega
      have HSY:Hid (natsOf (strOf py)=py):=zh (nats_strOf (small_mem HP2.out));have p0:(0:Int)≤(pa:Int):=by omega
      have p1:(pa:Int)≤(n:Int):=by omega
      have HXA:=zh (own_ext HX.out (zxd (zxa (zxr wr) (.cells #[.int .i64 (pa:Int),.string (strOf py)] 152))));generalize strOf py=S at*;by_cases hpn:pa=n
      ·obtain rfl:pa=n:=hpn
       go_wp2_with fail;refine wp_still_tail 6 (by kernel_rfl) (by kernel_rfl) ?_;simp only[List.take_succ_cons,zw29,List.drop_succ_cons,zw28]
       repeat still_step
       refine wpStill_nil ?_;obtain⟨w7,hrun,hX7,hg7⟩:=run_lay w3.heap.size w3.heap.size pa pa _ S HXA.out (by omega) (.slice (some ⟨w3.heap.size,0,none⟩) 0 0) (.inl ⟨by omega,_,_,_,rfl⟩) 3;have HX7:=zh hX7;have hgE:=zh (ext_grown (zxd (zxa HE4.out (.cells #[.int .i64 (pa:Int),.string S] 152))) hg7 (fun j hj=>by obtain rfl:=zw13 hj;exact zw8 _));have HO7:=zh (zw24 (own_ext HO4.out (zxd (zxa (zxr wr) (.cells #[.int .i64 (pa:Int),.string S] 152)))) hg7 (.inr (by intro e;simp[Value.ownBlock]at e;omega)));have HRUN:=zh hrun;clear hrun hX7 hg7;refine wpList_of_copy rfl (.tmp 47) (.tmp 49) 48 9 rfl _ _ rfl rfl HRUN.out ?_;go_wp2_with fail
       go_roundw
       case rel=>exact⟨q+1,hlt,by go_num,by rw[HTK.out,List.foldl_append];have e:=HX7.out;rw[HSY.out]at e;exact e,HO7.out,hgE.out⟩
       case measure=>simp[intOf];omega
      ·have p2:(pa:Int)<(n:Int):=by omega
       have p3:¬n=pa:=by omega
       go_wp2_with fail;refine wp_still_tail 6 (by kernel_rfl) (by kernel_rfl) ?_;simp only[List.take_succ_cons,zw29,List.drop_succ_cons,zw28]
       repeat still_step
       refine wpStill_nil ?_;obtain⟨w7,hrun,hX7,hg7⟩:=run_lay w3.heap.size w3.heap.size n pa _ S HXA.out (by omega) (.slice (some ⟨w3.heap.size,pa,none⟩) (n-pa) (n-pa)) (.inr rfl) 3;have HX7:=zh hX7;have hgE:=zh (ext_grown (zxd (zxa HE4.out (.cells #[.int .i64 (pa:Int),.string S] 152))) hg7 (fun j hj=>by obtain rfl:=zw13 hj;exact zw8 _));have HO7:=zh (zw24 (own_ext HO4.out (zxd (zxa (zxr wr) (.cells #[.int .i64 (pa:Int),.string S] 152)))) hg7 (.inr (by intro e;simp[Value.ownBlock]at e;omega)));have HRUN:=zh hrun;clear hrun hX7 hg7;refine wpList_of_copy rfl (.tmp 47) (.tmp 49) 48 9 rfl _ _ rfl rfl HRUN.out ?_;go_wp2_with fail
       go_roundw
       case rel=>exact⟨q+1,hlt,by go_num,by rw[HTK.out,List.foldl_append];have e:=HX7.out;rw[HSY.out]at e;exact e,HO7.out,hgE.out⟩
       case measure=>simp[intOf];omega
     ·obtain rfl:q=l.length:=by omega
      have HXL:Hid ((folded n l).length=n):=zh (by unfold folded;rw[fold_len _ _ (fun p hp=>by rw[List.length_replicate];exact(HP.out p hp).1),List.length_replicate]);have HXS:Hid (∀j,(folded n l).getD j 0<256):=zh (small_mem (fold_small l _ (fun c hc=>by have:=List.eq_of_mem_replicate hc;omega) (fun p hp=>(HP.out p hp).2)));have HBX:Hid (Bs wr (some ⟨w3.heap.size,0,none⟩) n (folded n l)):=zh (by
       have:=HX.out;rw[List.take_length]at this;exact Bs.own this HXS.out)
      have hgx:=(zw23 HX.out w3.heap.size rfl).2;have henc:=encode w3.heap.size n (folded n l) wr (by rw[HXL.out];exact HBX.out) hgx (by rw[HXL.out];exact hn6) (by rw[HXL.out];exact zw8 _) (by omega);rw[HXL.out]at henc;have HENC:=zh henc;have HSM:Hid (∀j,(vb n++enc (folded n l)).getD j 0<256):=zh (small_app (vb_byte n) (small_mem (enc_small _ _ (zw8 _) (mem_small HXS.out))));have HML:=zh (mix_len xs (folded n l));have HMS:=zh (mix_small HA.out.2.1 HXS.out);clear henc HX hcp1 hcp2;generalize folded n l=X at*;obtain⟨D,hD⟩:∃D,D=vb n++enc X:=⟨_,rfl⟩;rw[←hD]at HENC HSM;have HD:=zh hD;clear hD;have HX4:=zh (zxt HX3.out HE4.out);go_wp2_with fail;refine HENC.out.mono ?_;rintro e w5 ⟨g5,c5,rfl,_,_,hg5,hO5,hE5⟩;have HB5:=zh (Own.bs hO5 HSM.out);have HX5:=zh (zxt HX4.out hE5);have HBX5:=zh (HBX.out.ext hE5);clear hO5 hE5;by_cases heq:D=ds
      ·subst heq
       have HRR2:Hid (R= .ok (mix xs X)):=zh (by rw[HRR.out,HD.out,if_pos rfl]);clear HRR;go_wp2_with fail;refine(same_yes (some ⟨g5,0,none⟩) B D.length c5 N cd D w5 HB5.out (HB.out.ext HX5.out)).mono ?_;rintro e w6 ⟨rfl,rfl⟩;go_wp2_with fail;refine(xor A (some ⟨w3.heap.size,0,none⟩) m c n n xs X w5 (HA.out.ext HX5.out) HBX5.out (by omega) (by omega)).mono ?_;rintro e w6 ⟨g6,rfl,hg6,hO6,hE6⟩;have HO6:=zh hO6;have HE6:=zh hE6;clear hO6 hE6;generalize mix xs X=M at*;go_wp2_with fail
       go_ret2
       exact⟨zxt HX5.out HE6.out,by rw[HRR2.out];exact⟨g6,rfl,own_low HO6.out HX5.out.size⟩⟩
      ·have HRR2:Hid (R= .bad 4):=zh (by rw[HRR.out,←HD.out,if_neg heq])
       have HNE:=zh heq;clear HRR heq;go_wp2_with fail;refine(same_no (some ⟨g5,0,none⟩) B D.length c5 N cd D ds w5 HB5.out (HB.out.ext HX5.out) HNE.out).mono ?_;rintro e w6 ⟨rfl,rfl⟩;go_wp2_with fail
       go_ret2
       exact⟨HX5.out,by rw[HRR2.out];exact⟨rfl,by decide⟩⟩
theorem refZero_yes (s:ByteArray) (from_ n:Nat) (w:World) (hs:s.size≤1000000) (hf:from_≤s.size) (hn:n≤1000000) (h:min n (s.size-from_)≤zr ((natsOf s).drop from_)):
  Calls Tryz.prog 76 #[.string s,.int .i64 (from_:Int),.int .i64 (n:Int)] w fun e w'=>e= .returned (.bool true)∧w=w':=
 (refZero s from_ n w hs hf hn).mono fun _ _ ⟨a,b⟩=>⟨by rw[a,zw15 h],b⟩
theorem refZero_no (s:ByteArray) (from_ n:Nat) (w:World) (hs:s.size≤1000000) (hf:from_≤s.size) (hn:n≤1000000) (h:¬min n (s.size-from_)≤zr ((natsOf s).drop from_)):
  Calls Tryz.prog 76 #[.string s,.int .i64 (from_:Int),.int .i64 (n:Int)] w fun e w'=>e= .returned (.bool false)∧w=w':=
 (refZero s from_ n w hs hf hn).mono fun _ _ ⟨a,b⟩=>⟨by rw[a,zw14 h],b⟩
theorem lit_more {l:List Nat} {k:Nat} (hk:k<l.length) (h4:zr (l.drop k)<4) (hz:zr (l.drop k)<l.length-k):lit (l.drop k)=lit (l.drop (k+1))+1:=by
 have hd:=zw20 hk;rw[hd,lit,←hd,if_neg (by rw[zw1];omega)]
theorem str_ext (X:ByteArray) (j i:Nat):X.extract j i=strOf (((natsOf X).drop j).take (i-j)):=by
 have h1:=strOf_nats (X.extract j i);rw[←h1]
 congr 1
 unfold natsOf;rw[ByteArray.data_extract,Array.toList_extract,List.extract];simp[List.map_take,List.map_drop]
def ORel (w:World) (L head:List Nat) (sv av:Value) (wr:World):Prop:=
 ∃(k:Nat) (E:List Nat),k≤L.length∧av= .int .i64 (k:Int)∧sv= .string (strOf (head++E))∧E++enc (L.drop k)=enc L∧Ext w wr∧E.length≤21*k
def F1Rel (L:List Nat) (k:Nat) (fv:Value):Prop:=∃j:Nat,k≤j∧j≤L.length∧j-k≤zr (L.drop k)∧fv= .int .i64 (j:Int)
def F2Rel (L:List Nat) (j:Nat) (ev:Value):Prop:=∃i:Nat,j≤i∧i≤L.length∧lit (L.drop j)=(i-j)+lit (L.drop i)∧ev= .int .i64 (i:Int)
theorem refDiff (s t:ByteArray) (w:World) (hs:s.size≤500) (ht:t.size≤500):
  Calls Tryz.prog 41 #[.string s,.string t] w fun e w'=>e= .returned (.string (strOf (diff (natsOf s) (natsOf t))))∧Ext w w':=by
 have hM:=refMix s t w (by omega) (by omega);have hsm:=mix_small (natsOf_small s) (natsOf_small t);have HXN:Hid (natsOf (strOf (mix (natsOf s) (natsOf t)))=mix (natsOf s) (natsOf t)):=zh (nats_strOf hsm);have HXL:Hid ((natsOf (strOf (mix (natsOf s) (natsOf t)))).length=t.size):=zh (by rw[HXN.out,mix_len,natsOf_len]);have HD:Hid (diff (natsOf s) (natsOf t)=vb t.size++enc (natsOf (strOf (mix (natsOf s) (natsOf t))))):=zh (by unfold diff;rw[natsOf_len,HXN.out]);have HM:=zh hM;clear hM hsm HXN;generalize strOf (mix (natsOf s) (natsOf t))=X at*;have hXs:X.size=t.size:=by rw[←natsOf_len,HXL.out]
 have hX4:X.size≤500:=by omega
 have HXS:=zh hXs;clear hXs;have hX6:X.size≤1000000:=by omega
 have HL:=zh (natsOf_len X);rw[HD.out];have hvl:=vb_ten (n:=t.size) (by omega);obtain⟨head,hhd⟩:∃h,h=vb t.size:=⟨_,rfl⟩;rw[←hhd]at hvl ⊢;have Hhd:=zh hhd;clear hhd;have HV:=zh (fun(n:Nat) (hn:n≤500) (W:World)=>refVarint n (by omega) W);go_enter Tryz.func41,Tryz.ntmps41;go_wp2_with fail;refine HM.out.mono ?_;rintro e w1 ⟨rfl,b1⟩;have B1:=zh b1;clear b1;go_wp2_with fail;refine(HV.out t.size (by omega) _).mono ?_;rintro e w2 ⟨rfl,b2⟩;have E2:=zh (zxt B1.out b2);clear b2 B1;go_wp2_with fail
 go_loopw [6,7] (fun sv av wr=>ORel w (natsOf X) head sv av wr) (fun _ av _=>X.size-(intOf av).toNat)
 case atStart=>exact⟨0,[],Nat.zero_le _,rfl,by rw[zw18,Hhd.out],by rw[zw28,zw17],E2.out,by simp⟩
 case round=>
  clear E2;obtain⟨k,E,hk,rfl,rfl,hE,hex,hEl⟩:=hrel;have HE:=zh hE;clear hE;have EX:=zh hex;clear hex;rw[HL.out]at hk;by_cases hz:min X.size (X.size-k)≤zr ((natsOf X).drop k)
  ·have HR:Hid (E=enc (natsOf X)):=zh (by
    rw[←HE.out,enc_stop (by rw[zw1,HL.out];omega),zw18])
   clear HE;go_wp2_with fail;refine(refZero_yes X k X.size _ hX6 hk hX6 hz).mono ?_;rintro e w3 ⟨rfl,rfl⟩;go_wp2_with fail;go_ret;exact⟨by rw[HR.out];rfl,EX.out⟩
  ·have hzr:=zr_le ((natsOf X).drop k)
   rw[zw1,HL.out]at hzr;have HZ:Hid (zr ((natsOf X).drop k)<((natsOf X).drop k).length):=zh (by rw[zw1,HL.out];omega);have hzk:zr ((natsOf X).drop k)<X.size-k:=by omega
   have HNZ:=zh hz;clear hz;go_wp2_with fail;refine(refZero_no X k X.size _ hX6 hk hX6 HNZ.out).mono ?_;rintro e w3 ⟨rfl,rfl⟩;go_wp2_with fail;obtain⟨wo,rfl⟩:∃wo:World,wo=wr:=⟨_,rfl⟩;have HST:=zh (fun j (a:k≤j) (b:j-k≤zr ((natsOf X).drop k))=>zr_step (l:=natsOf X) a b)
   go_loop [8] (fun fv=>F1Rel (natsOf X) k fv) (fun fv=>X.size-(intOf fv).toNat)
   case atStart=>exact⟨k,zw8 _,by rw[HL.out];exact hk,by omega,rfl⟩
   case round=>
    obtain⟨j,hj1,hj2,hj3,rfl⟩:=hrel;rw[HL.out]at hj2;have hlt:j<X.size:=by omega
    have j0:(0:Int)≤(j:Int):=by omega
    have j1:(j:Int)<(X.size:Int):=by omega
    have HG:=zh (natsOf_get X j hlt);have HA:=zh (zr_at (xs:=natsOf X) (k:=j) (by rw[HL.out];exact hlt));have HS:=zh (HST.out j hj1 hj3);by_cases h0:X[j].toNat=0
    ·have hx:((X[j].toNat:Int)==0)=true:=by rw[h0];rfl
     have HN:Hid (j+1-k≤zr ((natsOf X).drop k)):=zh (by
      have e2:=HA.out;rw[HG.out,if_pos h0]at e2;have:=HS.out;omega)
     clear h0;go_wp2_with fail
     go_round
     case rel=>exact⟨j+1,by omega,by rw[HL.out];omega,HN.out,by go_num⟩
     case measure=>simp[intOf];omega
    ·have hx:((X[j].toNat:Int)==0)=false:=zw12.2 (by omega)
     have HJ:Hid (j-k=zr ((natsOf X).drop k)):=zh (by
      have e2:=HA.out;rw[HG.out,if_neg h0]at e2;have:=HS.out;omega)
     clear h0 HST HS HA HG;go_wp2_with fail
     go_loop [9] (fun ev=>F2Rel (natsOf X) j ev) (fun ev=>X.size-(intOf ev).toNat)
     case atStart=>exact⟨j,zw8 _,by rw[HL.out];omega,by omega,rfl⟩
     case round=>
      obtain⟨i,hi1,hi2,hi3,rfl⟩:=hrel;rw[HL.out]at hi2;have HI3:=zh hi3;clear hi3;have HMORE:=zh (fun a b c=>lit_more (l:=natsOf X) (k:=i) a b c);have hzi:=zr_le ((natsOf X).drop i);rw[zw1,HL.out]at hzi;have i0:(0:Int)≤(i:Int):=by omega
      by_cases hgo:i<X.size∧zr ((natsOf X).drop i)<4∧zr ((natsOf X).drop i)<X.size-i
      ·obtain⟨hg1,hg2,hg3⟩:=hgo
       have HN:Hid (lit ((natsOf X).drop j)=(i+1-j)+lit ((natsOf X).drop (i+1))):=zh (by
        have:=HI3.out;have:=HMORE.out (by rw[HL.out];exact hg1) hg2 (by rw[HL.out];exact hg3);omega)
       clear HMORE;go_wp2_with fail;refine(refZero_no X i 4 _ hX6 hi2 (by omega) (by omega)).mono ?_;rintro e w4 ⟨rfl,rfl⟩;go_wp2_with fail;refine(refZero_no X i X.size _ hX6 hi2 hX6 (by omega)).mono ?_;rintro e w4 ⟨rfl,rfl⟩;go_wp2_with fail
       go_round
       case rel=>exact⟨i+1,by omega,by rw[HL.out];omega,HN.out,by go_num⟩
       case measure=>simp[intOf];omega
      ·have HS0:Hid (lit ((natsOf X).drop i)=0):=zh (by
        by_cases hlt2:i<X.size
        ·exact lit_stop (by rw[zw1,HL.out];omega)
        ·rw[List.drop_of_length_le (by rw[HL.out];omega)];rfl)
       have HIJ:Hid (lit ((natsOf X).drop j)=i-j):=zh (by have:=HI3.out;have:=HS0.out;omega);have HIJ':Hid (j<i):=zh (by
        have h1:=zr_full HZ.out;have h2:=lit_pos h1.2 h1.1;rw[zw31,←HJ.out,show k+(j-k)=j from by omega]at h2;have:=HIJ.out;omega)
       clear HMORE HS0 HI3;obtain⟨a,ha⟩:∃a:Nat,a=j-k:=⟨_,rfl⟩;obtain⟨b,hb⟩:∃b:Nat,b=i-j:=⟨_,rfl⟩;have hij:=HIJ'.out;have hw1:IntKind.i64.wrap ((j:Int)-(k:Int))=(a:Int):=by rw[IntWalk.i64_in _ (by omega)];omega
       have hw2:IntKind.i64.wrap ((i:Int)-(j:Int))=(b:Int):=by rw[IntWalk.i64_in _ (by omega)];omega
       have hw3:IntKind.u64.wrap (a:Int)=(a:Int):=by rw[IntKind.wrap_u64];omega
       have hw4:IntKind.u64.wrap (b:Int)=(b:Int):=by rw[IntKind.wrap_u64];omega
       have HW:=zh (And.intro hw1 (And.intro hw2 (And.intro hw3 hw4)));have hv1:=vb_ten (n:=a) (by omega);have hv2:=vb_ten (n:=b) (by omega);have HC1:=zh (fun W=>HV.out a (by omega) W);have HC2:=zh (fun W=>HV.out b (by omega) W);have HF:Hid (strOf (head++E)++strOf (vb a)++strOf (vb b)++X.extract j i=strOf (head++(E++vb a++vb b++((natsOf X).drop j).take (lit ((natsOf X).drop j))))):=zh (by
        have e:X.extract j i=strOf (((natsOf X).drop j).take (lit ((natsOf X).drop j))):=by
         rw[HIJ.out];exact str_ext X j i
        rw[e,←strOf_app,←strOf_app,←strOf_app];simp only[zw7])
       have HE2:Hid ((E++vb a++vb b++((natsOf X).drop j).take (lit ((natsOf X).drop j)))++enc ((natsOf X).drop i)=enc (natsOf X)):=zh (by
        have e:=enc_more HZ.out;have e1:((natsOf X).drop k).drop (zr ((natsOf X).drop k))=(natsOf X).drop j:=by rw[zw31,←HJ.out];congr 1;omega
        rw[e1,←HJ.out,←ha]at e;have e2:a+lit ((natsOf X).drop j)=i-k:=by rw[HIJ.out];omega
        rw[e2,zw31,show k+(i-k)=i from by omega,HIJ.out,←hb]at e;rw[←HE.out,e,HIJ.out,←hb];simp only[zw7])
       have hEl2:(E++vb a++vb b++((natsOf X).drop j).take (lit ((natsOf X).drop j))).length≤21*i:=by
        simp only[zw0,zw2,HIJ.out];omega
       have hs0:(strOf (head++E)).size≤11000:=by rw[strOf_size,zw0];omega
       have hs1:(strOf (vb a)).size≤10:=by rw[strOf_size];exact hv1
       have hs2:(strOf (vb b)).size≤10:=by rw[strOf_size];exact hv2
       generalize E++vb a++vb b++((natsOf X).drop j).take (lit ((natsOf X).drop j))=E2 at*;generalize strOf (head++E)=S0 at*;generalize strOf (vb a)=S1 at*;generalize strOf (vb b)=S2 at*;have hz1:¬9223372036854775807<S0.size+S1.size:=by omega
       have hz2:¬9223372036854775807<S0.size+S1.size+S2.size:=by omega
       have hz3:¬9223372036854775807<S0.size+S1.size+S2.size+(i-j):=by omega
       have i1:(i:Int)≤(X.size:Int):=by omega
       have ij:(j:Int)≤(i:Int):=by omega
       clear hw1 hw2 hw3 hw4 HIJ hv1 hv2 HIJ' HE HJ HZ ha hb;have hlast:i=X.size∨(i<X.size∧4≤zr ((natsOf X).drop i))∨(i<X.size∧zr ((natsOf X).drop i)<4∧zr ((natsOf X).drop i)=X.size-i):=by omega
       rcases hlast with hc | ⟨hc1,hc2⟩ | ⟨hc1,hc2,hc3⟩
       ·have hnl:¬(i:Int)<(X.size:Int):=by omega
        clear hgo hc;go_wp2_with fail;obtain⟨hw1,hw2,hw3,hw4⟩:=HW.out;have E0:=zh (zxd (zxr wo))
        go_region_held3 (fun w'=>Hid (Ext wo w')) (first | assumption | exact zh (zxt (Hid.out (by assumption)) b8) | exact zh (zxt (Hid.out (by assumption)) b9)) (first | (go_at_call 71;((with_reducible refine(HC1.out _).mono ?_);rintro e w8 ⟨rfl,b8⟩)) | (go_at_call 71;((with_reducible refine(HC2.out _).mono ?_);rintro e w9 ⟨rfl,b9⟩)))
        clear hw1 hw2 hw3 hw4;go_wp2_with fail;refine⟨⟨i,E2,by rw[HL.out];exact hi2,rfl,by rw[HF.out],HE2.out,zxt EX.out (Hid.out (by assumption)),hEl2⟩,?_⟩;simp[intOf];omega
       ·have hc4:(i:Int)+4≤(X.size:Int):=by omega
        clear hgo;go_wp2_with fail;refine(refZero_yes X i 4 _ hX6 hi2 (by omega) (by omega)).mono ?_;rintro e w4 ⟨rfl,rfl⟩;go_wp2_with fail;obtain⟨hw1,hw2,hw3,hw4⟩:=HW.out;have E0:=zh (zxd (zxr wo))
        go_region_held3 (fun w'=>Hid (Ext wo w')) (first | assumption | exact zh (zxt (Hid.out (by assumption)) b8) | exact zh (zxt (Hid.out (by assumption)) b9)) (first | (go_at_call 71;((with_reducible refine(HC1.out _).mono ?_);rintro e w8 ⟨rfl,b8⟩)) | (go_at_call 71;((with_reducible refine(HC2.out _).mono ?_);rintro e w9 ⟨rfl,b9⟩)))
        clear hw1 hw2 hw3 hw4;go_wp2_with fail;refine⟨⟨i,E2,by rw[HL.out];exact hi2,rfl,by rw[HF.out],HE2.out,zxt EX.out (Hid.out (by assumption)),hEl2⟩,?_⟩;simp[intOf];omega
       ·have hc4:¬(i:Int)+4≤(X.size:Int):=by omega
        have HC3:=zh hc3;clear hgo hc3;go_wp2_with fail;refine(refZero_yes X i 4 _ hX6 hi2 (by omega) (by have:=HC3.out;omega)).mono ?_;rintro e w4 ⟨rfl,rfl⟩;go_wp2_with fail;refine(refZero_yes X i X.size _ hX6 hi2 hX6 (by have:=HC3.out;omega)).mono ?_;rintro e w4 ⟨rfl,rfl⟩;go_wp2_with fail;obtain⟨hw1,hw2,hw3,hw4⟩:=HW.out;have E0:=zh (zxd (zxr wo))
        go_region_held3 (fun w'=>Hid (Ext wo w')) (first | assumption | exact zh (zxt (Hid.out (by assumption)) b8) | exact zh (zxt (Hid.out (by assumption)) b9)) (first | (go_at_call 71;((with_reducible refine(HC1.out _).mono ?_);rintro e w8 ⟨rfl,b8⟩)) | (go_at_call 71;((with_reducible refine(HC2.out _).mono ?_);rintro e w9 ⟨rfl,b9⟩)))
        clear hw1 hw2 hw3 hw4;go_wp2_with fail;refine⟨⟨i,E2,by rw[HL.out];exact hi2,rfl,by rw[HF.out],HE2.out,zxt EX.out (Hid.out (by assumption)),hEl2⟩,?_⟩;simp[intOf];omega
end Go.Proofs.YtidnboeihkeljaaGreatDoor.Delta
