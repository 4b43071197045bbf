/-
 The Go function rematchlaw24.ResaveNil returns true: no player keeps nothing and is as no player alone, and a player of a known file that is given a bookmark is kept, opened and shown again as itself, and as no player without that bookmark. (The row's own condition: rematch/crc.halves starts as the program's text lays it; the card ties that to the text.)
-/
import Derived.Test.YtbopblbhjcemaaaGreatDoorF29
import Derived.Test.YtbopblbhjcemaaaGreatDoorTie
import Derived.Test.YtbopblbhjcemaaaGreatDoorCards
import Derived.LaidMore
import Derived.ShutString
set_option maxHeartbeats 16000000
set_option maxRecDepth 100000
set_option linter.all false
open Go.ChangeShapes Go.WideShapes Go.ChangeAt Go.RowKit
namespace Go.Proofs.YtbopblbhjcemaaaGreatDoor.resaveNil
open Go.ChangeMaps (open_string shut_string)
open Crc (Tab hw)
theorem own:ownKnob Tryz.prog.godebug=none:=by kernel_rfl
theorem laidOut:laidOutB Tryz.prog=true:=by kernel_rfl
theorem gHalves:Tryz.prog.globalNamed "rematch/crc.halves" =some 0:=by kernel_rfl
theorem gHalvesType:(Tryz.prog.globals[0]?).map (·.type)=some 191:=by kernel_rfl
theorem cellsTab:Tryz.prog.cellsOf 191=16:=by kernel_rfl
theorem cellsU32:Tryz.prog.cellsOf 53=1:=by kernel_rfl
theorem at_of {H:Type} {xs:List (DataW H × List MemPlace)} {l:List (DataW H)} {i:Nat} {d:DataW H} (hd:l=xs.map (·.1)) (hi:l[i]? =some d):∃q,xs[i]? =some (d,q):=by
 subst hd;rw[List.getElem?_map,Option.map_eq_some_iff]at hi;obtain⟨⟨a,q⟩,hy,rfl⟩:=hi;exact⟨q,hy⟩
theorem one_of {cs:List Value} {i:Nat} {v:Value} (h:(cs.drop i).take 1=[v]):cs[i]? =some v:=by
 have:=congrArg (·[0]?) h
 simpa [List.getElem?_take,List.getElem?_drop]using this
theorem tab_of {W:World} (h:laidMetH Tryz.prog Rows.resaveNilRow.laid W):Tab W:=by
 obtain⟨ps,⟨g',t',cs,fuel,p,q,hg',ht',hvar,hd,_,_⟩,_⟩:=(show laidMet Tryz.prog Rows.resaveNilRow.laid W from h);obtain rfl:=zw13 (gHalves.symm.trans hg');obtain rfl:=zw13 (gHalvesType.symm.trans ht');obtain⟨cs⟩:=cs;obtain⟨xs,n,rfl,hx,hl,hxl,hf⟩:=DataW.trod_array (cs:=cs) Tryz.underlying191 hd;rw[cellsTab]at hl;rw[cellsU32]at hf;simp only[Rows.laid_rematch_crc_halves,Prod.mk.injEq,DataW.agg.injEq]at hx;have hd2:=hx.1;intro i hi;have hcell:=World.var?_cell gHalves hvar i;have key:∃q,xs[i]? =some (.lit (.int .u32 ((hw i).toNat:Int)),q):=by
  have:i=0∨i=1∨i=2∨i=3∨i=4∨i=5∨i=6∨i=7∨i=8∨i=9∨i=10∨i=11∨i=12∨i=13∨i=14∨i=15:=by omega
  rcases this with rfl | rfl | rfl | rfl | rfl | rfl | rfl | rfl | rfl | rfl | rfl | rfl | rfl | rfl | rfl | rfl<;>exact at_of hd2 rfl
 obtain⟨q2,hq⟩:=key;have h2:=hf i hi;rw[hq,Nat.mul_one]at h2;obtain⟨z,hc,he,_⟩:=zw54 Tryz.underlying53 h2;simp only[Prod.mk.injEq,DataW.lit.injEq,Lit.int.injEq,true_and]at he;have hz:z=((hw i).toNat:Int):=by simpa using he.1.symm
 subst hz;rw[hcell];have:=one_of hc
 simpa using this
theorem door_met (os:Os) (args:Array Value):laidMetH Tryz.prog Rows.resaveNilRow.laid ((World.doorLaid Tryz.prog 400 os).forCall (fun _ _=>0) ⟨#[],args,[]⟩).memory:=
 laidMetH_of_parts3 (fuel:=8) (laidMet_of_run' 8 (by kernel_rfl) (by kernel_rfl)) (by kernel_rfl) (by kernel_rfl)
theorem lifted (os:Os) (started:os.Started) (H:Type) (enc:TypeId × Value→H):
  ReturnsInHanded {} Tryz.checked os 3 .any (fun w args=>(Rows.resaveNilSpec.pre enc Tryz.prog Tryz.f3 [] false w args∧laidMetH Tryz.prog Rows.resaveNilRow.laid w)∧sizedMet enc Tryz.prog Tryz.f3 (OpenSpec.ofChange Rows.resaveNilSpec) false w args)
   (Rows.resaveNilSpec.post enc Tryz.prog Tryz.f3 false true false false):=by
 refine returnsInHanded_of_change_and (C:=Tryz.checked) (X:=fun w _=>laidMetH Tryz.prog Rows.resaveNilRow.laid w) (fun _ _ _ hh h=>h.of_heap hh) own started (by kernel_rfl) Tryz.func3
  (ChangeSpec.witness_shaped (enc:=enc) (C:=Tryz.checked) (os:=os) (X:=fun w _=>laidMetH Tryz.prog Rows.resaveNilRow.laid w) false (World.doorLaid Tryz.prog 400 os) #[] 8 rfl (World.shaped_of_RefB (by kernel_rfl) (by kernel_rfl)) (by kernel_rfl) (by kernel_rfl) (by kernel_rfl) (door_met os _)) ?_
 intro W base args ds gs before hval0 hW _ _ hL _;have hval:∀(j:Nat) t v,Tryz.f3.params[j]? =some t→args[j]? =some v→Value.okWide Tryz.prog W .any base t v:=hval0;have hW':=hW;obtain⟨p,q,hA0,hV,rfl,hfz,hnd⟩:=hW;have hA:DataW.TrodAll enc Tryz.prog W 0 (fun _=>true) true Tryz.f3.params.toList args.toList ds p:=hA0;rw[Tryz.params3]at hA hval;obtain⟨hargs,rfl,rfl⟩:=trodAll_nil hA;obtain rfl:args= #[]:=by cases args;simp_all
 obtain⟨rfl,rfl⟩:=trodVars_none hV;clear hA0 hval0;have hTab:Tab W:=tab_of (show laidMetH Tryz.prog Rows.resaveNilRow.laid W from hL);refine(Fil.resaveNil W hTab).mono fun e W' ⟨he,bel⟩=>?_;subst he;exact⟨_,rfl,_,_,_,[],_,[],hW',trodAll_mk1 (shut_bool Tryz.underlying4 _),trodAll_mk0,rfl,bel.frame _,fun h=>by cases h⟩
theorem over:Rows.resaveNilRow.holds Tryz.pinned (OpenSpec.ofChange Rows.resaveNilSpec):=
 OpenClaim.holds_of_wide 3 Tryz.f3 rfl rfl rfl rfl rfl rfl rfl ⟨rfl,rfl,rfl,rfl,rfl⟩ rfl rfl rfl rfl rfl (by kernel_rfl) Tryz.func3 (by kernel_rfl)
  (of_decide_eq_true (by kernel_rfl)) (by unfold Func.isWrapper;first | (rw[if_pos (by decide+kernel)];kernel_rfl) | (rw[if_neg (by decide+kernel)];exact⟨rfl,rfl⟩))
  (fun os started H enc _=>lifted os started H enc)
theorem proved:Rows.ResaveNilCardSaid:=
 Claim7.holds_tied_plain_at .later [] [.data] true _ true
  over (fun _ h=>by cases h) (by kernel_rfl) (fun _ h=>by cases h) resaveNil_row_tie rfl ⟨rfl,rfl⟩ (by kernel_rfl) rfl
  (fun f fn hf hfn=>by
   obtain rfl:f=3:=zw13 ((show Tryz.prog.funcNamed "rematch/rematchlaw24.ResaveNil" =some 3 by kernel_rfl).symm.trans hf) |>.symm;obtain rfl:fn=Tryz.f3:=(zw13 (Tryz.func3.symm.trans hfn)).symm;exact⟨by kernel_rfl,fun j t ht=>by
    rw[Tryz.params3]at ht;have hm:t∈([]:List TypeId):=by simpa using Array.mem_of_getElem? ht
    have hall:(([]:List TypeId).all fun u=> !Tryz.prog.wantsStandIn u)=true:=by kernel_rfl
    exact(show Tryz.prog.wantsStandIn t=false by simpa using List.all_eq_true.1 hall t hm)⟩)
  (by kernel_rfl)
#print axioms proved
end Go.Proofs.YtbopblbhjcemaaaGreatDoor.resaveNil
