/-
 For all recordings and tracks that hold, together, at most 1048576 values and letters, all places and all changes of a byte the Go function rematchlaw20.FileBack returns true: what is built is opened as itself, with another track just that is another one, and a file of which one byte is changed is refused. (The row's own condition: rematch/crc.halves starts as the program's text lays it; the card ties that to the text.)
-/
import Derived.Test.YtidnboeihkeljaaGreatDoorFiN
import Derived.Test.YtidnboeihkeljaaGreatDoorFiE
import Derived.Test.YtidnboeihkeljaaGreatDoorTie
import Derived.Test.YtidnboeihkeljaaGreatDoorCards
import Derived.Deep.DeepWitnessRowRef
import Derived.LaidMore
import Derived.ShutString
set_option maxHeartbeats 16000000
set_option maxRecDepth 100000
set_option linter.all false
open Go.ChangeShapes Go.WideShapes Go.ChangeAt Go.RowKit
namespace Go.Proofs.YtidnboeihkeljaaGreatDoor.fileBack
open Go.ChangeMaps (open_string shut_string)
open Crc (Tab hw)
theorem own:ownKnob Tryz.prog.godebug=none:=by kernel_rfl
theorem laidOut:laidOutB Tryz.prog=true:=by kernel_rfl
theorem gHalves:Tryz.prog.globalNamed "rematch/crc.halves" =some 0:=by kernel_rfl
theorem gHalvesType:(Tryz.prog.globals[0]?).map (·.type)=some 203:=by kernel_rfl
theorem cellsTab:Tryz.prog.cellsOf 203=16:=by kernel_rfl
theorem cellsU32:Tryz.prog.cellsOf 22=1:=by kernel_rfl
theorem at_of {H:Type} {xs:List (DataW H × List MemPlace)} {l:List (DataW H)} {i:Nat} {d:DataW H} (hd:l=xs.map (·.1)) (hi:l[i]? =some d):∃q,xs[i]? =some (d,q):=by
 subst hd;rw[List.getElem?_map,Option.map_eq_some_iff]at hi;obtain⟨⟨a,q⟩,hy,rfl⟩:=hi;exact⟨q,hy⟩
theorem one_of {cs:List Value} {i:Nat} {v:Value} (h:(cs.drop i).take 1=[v]):cs[i]? =some v:=by
 have:=congrArg (·[0]?) h
 simpa [List.getElem?_take,List.getElem?_drop]using this
theorem tab_of {W:World} (h:laidMetH Tryz.prog Rows.fileBackUptoRow.laid W):Tab W:=by
 obtain⟨ps,⟨g',t',cs,fuel,p,q,hg',ht',hvar,hd,_,_⟩,_⟩:=(show laidMet Tryz.prog Rows.fileBackUptoRow.laid W from h);obtain rfl:=zw13 (gHalves.symm.trans hg');obtain rfl:=zw13 (gHalvesType.symm.trans ht');obtain⟨cs⟩:=cs;obtain⟨xs,n,rfl,hx,hl,hxl,hf⟩:=DataW.trod_array (cs:=cs) Tryz.underlying203 hd;rw[cellsTab]at hl;rw[cellsU32]at hf;simp only[Rows.laid_rematch_crc_halves,Prod.mk.injEq,DataW.agg.injEq]at hx;have hd2:=hx.1;intro i hi;have hcell:=World.var?_cell gHalves hvar i;have key:∃q,xs[i]? =some (.lit (.int .u32 ((hw i).toNat:Int)),q):=by
  have:i=0∨i=1∨i=2∨i=3∨i=4∨i=5∨i=6∨i=7∨i=8∨i=9∨i=10∨i=11∨i=12∨i=13∨i=14∨i=15:=by omega
  rcases this with rfl | rfl | rfl | rfl | rfl | rfl | rfl | rfl | rfl | rfl | rfl | rfl | rfl | rfl | rfl | rfl<;>exact at_of hd2 rfl
 obtain⟨q2,hq⟩:=key;have h2:=hf i hi;rw[hq,Nat.mul_one]at h2;obtain⟨z,hc,he,_⟩:=zw54 Tryz.underlying22 h2;simp only[Prod.mk.injEq,DataW.lit.injEq,Lit.int.injEq,true_and]at he;have hz:z=((hw i).toNat:Int):=by simpa using he.1.symm
 subst hz;rw[hcell];have:=one_of hc
 simpa using this
theorem door_met (os:Os) (args:Array Value):laidMetH Tryz.prog Rows.fileBackUptoRow.laid ((World.doorLaid Tryz.prog 400 os).forCall (fun _ _=>0) ⟨#[],args,[]⟩).memory:=
 laidMetH_of_parts3 (fuel:=8) (laidMet_of_run' 8 (by kernel_rfl) (by kernel_rfl)) (by kernel_rfl) (by kernel_rfl)
abbrev W0:Value:= .agg #[.int .i64 0,.int .i64 0,.int .i64 0,.int .u32 0,.string ⟨#[]⟩,.slice none 0 0,.slice none 0 0,.int .i64 0,.int .i64 0,.slice none 0 0,.slice none 0 0,.slice none 0 0,.slice none 0 0,.slice none 0 0,.slice none 0 0]
abbrev W1:Value:= .agg #[.slice none 0 0,.slice none 0 0,.slice none 0 0,.slice none 0 0,.slice none 0 0]
theorem reads (os:Os) {H:Type} (enc:TypeId × Value→H):∃places,DataW.whole enc Tryz.prog ((World.doorLaid Tryz.prog 400 os).forCall (fun _ _=>0) ⟨#[],#[W0,W1,.int .u16 0,.int .u8 0],[]⟩).memory Tryz.f5.params.toList Rows.fileBackSpec.vars false #[W0,W1,.int .u16 0,.int .u8 0].toList 8=some ([.agg [.agg [.lit (.int .i64 0),.lit (.int .i64 0),.lit (.int .i64 0),.lit (.int .u32 0),.lit (.string []),.nil],.nil,.lit (.int .i64 0),.lit (.int .i64 0),.agg [.agg [.nil,.nil,.nil,.nil],.nil],.nil],.agg [.agg [.nil,.nil,.nil,.nil],.nil],.lit (.int .u16 0),.lit (.int .u8 0)],[],places):=
 ⟨[],by kernel_rfl⟩
theorem contract (H:Type) (enc:TypeId × Value→H) (W:World) (base:Nat) (args:Array Value) (ds gs:List (DataW H)) (before:List MemPlace)
  (hval0:∀(j:Nat) t v,Tryz.f5.params[j]? =some t→args[j]? =some v→Value.okWide Tryz.prog W .any base t v)
  (hW:DataW.Whole enc Tryz.prog Tryz.f5.params.toList Rows.fileBackSpec.vars false W args.toList ds gs before) (hk:Rows.uptoSmall H (ds++gs)=true)
  (hwt:(DataW.weightsEach Tryz.prog (Tryz.f5.params.toList++(Rows.OpenSpec.upto Rows.fileBackSpec).bare.plain.varTypes Tryz.prog) (ds++gs)).all (· ≤reachBytes)=true) (hL:laidMetH Tryz.prog Rows.fileBackUptoRow.laid W):
  Calls Tryz.prog 5 args W fun e W'=>∃v,e= .returned v∧Rows.fileBackSpec.post enc Tryz.prog Tryz.f5 false true false false W args v W':=by
 have hval:∀(j:Nat) t v,Tryz.f5.params[j]? =some t→args[j]? =some v→Value.okWide Tryz.prog W .any base t v:=hval0;have hW':=hW;obtain⟨p,q,hA0,hV,rfl,hfz,hnd⟩:=hW;have hA:DataW.TrodAll enc Tryz.prog W 0 (fun _=>true) true Tryz.f5.params.toList args.toList ds p:=hA0;rw[Tryz.params5]at hA hval;obtain⟨v0,vs0,d0,ds0,p0,q0,hargs,rfl,rfl,h0,r0⟩:=trodAll_cons hA;obtain⟨v1,vs1,d1,ds1,p1,q1,rfl,rfl,rfl,h1,r1⟩:=trodAll_cons r0;obtain⟨v2,vs2,d2,ds2,p2,q2,rfl,rfl,rfl,h2,r2⟩:=trodAll_cons r1;obtain⟨v3,vs3,d3,ds3,p3,q3,rfl,rfl,rfl,h3,r3⟩:=trodAll_cons r2;obtain⟨rfl,rfl,rfl⟩:=trodAll_nil r3;obtain rfl:args= #[v0,v1,v2,v3]:=by cases args;simp_all
 obtain⟨rfl,rfl⟩:=trodVars_none hV;have hbk:Rows.uptoBulk d0≤1048576:=by
  have h2:Rows.uptoBulkAll ([d0,d1,d2,d3]++[])≤1048576:=of_decide_eq_true hk;simp only[zw18,Rows.uptoBulkAll]at h2;omega
 have hwt0:∀n∈d0.weights Tryz.prog 34,n≤reachBytes:=fun n hn=>by
  have:=List.all_eq_true.1 hwt n (DataW.weights_mem_each (j:=0) (t:=34) (d:=d0) (by rw[Tryz.params5];rfl) rfl n hn)
  simpa using this
 have hwt1:∀n∈d1.weights Tryz.prog 31,n≤reachBytes:=fun n hn=>by
  have:=List.all_eq_true.1 hwt n (DataW.weights_mem_each (j:=1) (t:=31) (d:=d1) (by rw[Tryz.params5];rfl) rfl n hn)
  simpa using this
 obtain⟨cs0,rfl,sz0⟩:=okWide_struct Tryz.underlying34 (hval 0 34 v0 rfl rfl);obtain⟨cs1,rfl,sz1⟩:=okWide_struct Tryz.underlying31 (hval 1 31 v1 rfl rfl);obtain⟨x2,rfl,rfl,rfl,w2⟩:=open_int Tryz.underlying60 (hval 2 60 v2 rfl rfl) h2;have b2:=bounds_u16 w2;obtain⟨n2,rfl⟩:∃n:Nat,x2=(n:Int):=⟨x2.toNat,by omega⟩;obtain⟨x3,rfl,rfl,rfl,w3⟩:=open_int Tryz.underlying5 (hval 3 5 v3 rfl rfl) h3;have b3:=bounds_u8 w3;obtain⟨n3,rfl⟩:∃n:Nat,x3=(n:Int):=⟨x3.toNat,by omega⟩;have k1:=h1;have lt1:∀x∈p1,x.block<W.heap.size:=by obtain⟨m,hm⟩:=k1;exact DataW.trod_lt m _ _ _ hm
 have k0:=h0;have lt0:∀x∈p0,x.block<W.heap.size:=by obtain⟨m,hm⟩:=k0;exact DataW.trod_lt m _ _ _ hm
 obtain⟨pp,y,evs,N,KI,tr,ts,rfl,hr,hi⟩:∃(pp:Fil.Pv) (y:Log.Hv) (evs:List Log.Ev) (N KI:Int) (tr:Trk.Tk) (ts:List ByteArray),cs0=Fil.cPa y (.slice pp.A y.starts.length pp.c) (.slice pp.Al evs.length pp.cl) N KI pp.t (.slice pp.Af ts.length pp.cf)∧Fil.RfP W pp y evs tr ts∧Fil.InP pp y evs N KI tr ts:=by
  obtain⟨fuel,hf⟩:=h0;exact Fil.parts_of hf sz0 hwt0 hbk
 obtain⟨tv,tr2,rfl,hr2,hz2⟩:∃(tv:Trk.Tv) (tr2:Trk.Tk),cs1=tv.cells∧Trk.RfV W tv tr2∧Trk.Room tr2:=by
  obtain⟨fuel,hf⟩:=h1;exact Trk.track_of hf sz1 hwt1
 clear hA0 hval0;have hTab:Tab W:=tab_of (show laidMetH Tryz.prog Rows.fileBackUptoRow.laid W from hL);refine(Fil.fileBack pp y evs N KI tr ts tv tr2 n2 n3 W hTab hr hi hr2 hz2 (by omega) (by omega)).mono fun e W' ⟨he,bel⟩=>?_;subst he;exact⟨_,rfl,_,_,_,[],_,[],hW',trodAll_mk1 (shut_bool Tryz.underlying4 _),(trodAll_cons_mk (Below.trod laidOut (by kernel_rfl) (of_decide_eq_true (by kernel_rfl)) k0 bel lt0) (trodAll_cons_mk (Below.trod laidOut (by kernel_rfl) (of_decide_eq_true (by kernel_rfl)) k1 bel lt1) (trodAll_cons_mk (shut_int Tryz.underlying60 w2) (trodAll_cons_mk (shut_int Tryz.underlying5 w3) trodAll_mk0)))),rfl,bel.frame _,fun h=>by cases h⟩
theorem lifted (os:Os) (started:os.Started) (H:Type) (enc:TypeId × Value→H) (F:Stop.Interp):
  ReturnsInHanded {} Tryz.checked os 5 .any ((Rows.OpenSpec.upto Rows.fileBackSpec).preRow enc Tryz.prog Tryz.f5 Rows.fileBackUptoRow.domain false Rows.fileBackUptoRow.laid) (((Rows.OpenSpec.upto Rows.fileBackSpec).at F).post enc Tryz.prog Tryz.f5 false true false false):=by
 obtain⟨places,hx⟩:=reads os enc;refine returnsInHanded_of_row (C:=Tryz.checked) (s:=Rows.OpenSpec.upto Rows.fileBackSpec) own started (by kernel_rfl) Tryz.func5
  (witness_row_atRef (enc:=enc) (C:=Tryz.checked) false (World.doorLaid Tryz.prog 400 os) #[W0,W1,.int .u16 0,.int .u8 0] rfl (by kernel_rfl) (by kernel_rfl) (by kernel_rfl)
   (OpenSpec.preRow_of_cond 8 hx (by kernel_rfl) (fun k hk=>by cases hk;kernel_rfl) (by kernel_rfl) (door_met os _))) ?_
 intro W base args ds gs before hval hW _ hc hwt hL _ _;exact contract H enc W base args ds gs before hval hW (hc _ rfl) hwt hL
theorem over:Rows.FileBackUptoSaid:=
 OpenClaim.holds_of_cond 5 Tryz.f5 rfl rfl rfl rfl rfl rfl rfl ⟨rfl,rfl,rfl,rfl,rfl⟩ rfl rfl rfl rfl rfl (by kernel_rfl) Tryz.func5 (by kernel_rfl)
  (of_decide_eq_true (by kernel_rfl)) (by unfold Func.isWrapper;first | (rw[if_pos (by decide+kernel)];kernel_rfl) | (rw[if_neg (by decide+kernel)];exact⟨rfl,rfl⟩))
  (fun os started H enc _ F=>by rw[OpenClaim.pre_eq_preRow];exact lifted os started H enc F)
theorem proved:Rows.FileBackUptoCardSaid:=
 Claim7.holds_tied_plain_at .later [] [.data] true _ true
  over (fun _ h=>by cases h) (by kernel_rfl) (fun _ h=>by cases h) fileBackUpto_row_tie rfl ⟨rfl,rfl⟩ (by kernel_rfl) rfl
  (fun f fn hf hfn=>by
   obtain rfl:f=5:=zw13 ((show Tryz.prog.funcNamed "rematch/rematchlaw20.FileBack" =some 5 by kernel_rfl).symm.trans hf) |>.symm;obtain rfl:fn=Tryz.f5:=(zw13 (Tryz.func5.symm.trans hfn)).symm;exact⟨by kernel_rfl,fun j t ht=>by
    rw[Tryz.params5]at ht;have hm:t∈[34,31,60,5]:=by simpa using Array.mem_of_getElem? ht
    have hall:([34,31,60,5].all fun u=> !Tryz.prog.wantsStandIn u)=true:=by kernel_rfl
    exact(show Tryz.prog.wantsStandIn t=false by simpa using List.all_eq_true.1 hall t hm)⟩)
  (by kernel_rfl)
#print axioms proved
end Go.Proofs.YtidnboeihkeljaaGreatDoor.fileBack
