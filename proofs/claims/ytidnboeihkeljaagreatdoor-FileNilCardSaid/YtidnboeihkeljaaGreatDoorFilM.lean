/- Contracts of package file: the steps made, and what is deferred. -/
import Derived.Test.YtidnboeihkeljaaGreatDoorFilL
import Derived.WalkKit
import Derived.Defers
import Derived.Recover
set_option maxHeartbeats 16000000
set_option maxRecDepth 100000
set_option linter.all false
open Go.ChangeShapes Go.WideShapes Go.ChangeAt Go.RowKit
namespace Go.Proofs.YtidnboeihkeljaaGreatDoor.Fil
open Wire
open Rec

def fns (O b : Nat) : Array Value := #[.func (.func 86) #[.pointer (some ⟨O, 0, none⟩)] #[],
 .func (.func 87) #[] #[.pointer (some ⟨b, 0, none⟩), .pointer (some ⟨b + 1, 0, none⟩), .pointer (some ⟨b + 2, 0, none⟩)],
 .func (.func 90) #[] #[.pointer (some ⟨b, 0, none⟩), .pointer (some ⟨b + 1, 0, none⟩)],
 .func (.func 92) #[] #[.pointer (some ⟨b, 0, none⟩), .pointer (some ⟨b + 1, 0, none⟩), .pointer (some ⟨b + 2, 0, none⟩)],
 .func (.func 94) #[] #[.pointer (some ⟨b, 0, none⟩), .pointer (some ⟨b + 1, 0, none⟩), .pointer (some ⟨b + 2, 0, none⟩)],
 .func (.func 96) #[] #[.pointer (some ⟨b + 1, 0, none⟩), .pointer (some ⟨b, 0, none⟩)],
 .func (.func 98) #[] #[.pointer (some ⟨b, 0, none⟩), .pointer (some ⟨b + 1, 0, none⟩)],
 .func (.func 99) #[.pointer (some ⟨O, 0, none⟩)] #[]]
def StPost (w : World) (O F b : Nat) (e : Ending) (w' : World) : Prop :=
 e = .returned (.slice (some ⟨b + 3, 0, none⟩) 8 8) ∧ Blk w' b 121 #[.pointer (some ⟨O, 0, none⟩)] ∧ Blk w' (b + 1) 53 #[.pointer (some ⟨F, 0, none⟩)] ∧ Blk w' (b + 2) 49 #[.int .i64 0] ∧ Blk w' (b + 3) 1 (fns O b) ∧ Ext w w' ∧ w'.heap.size = b + 4
theorem steps_st (w : World) (O F : Nat) (a : Int) (h : Blk w O 124 #[.pointer (some ⟨F, 0, none⟩), .int .i64 a]) :
  Calls Tryz.prog 54 #[.pointer (some ⟨O, 0, none⟩)] w (StPost w O F w.heap.size) := by
 have hmf : ∀ (fn : Fn) (first cap : Array Value) (w : World), (Instr.makeFunc fn first cap).run Tryz.prog w = .ok (.func fn first cap) w := fun _ _ _ _ => rfl
 have f0 := h.cell 0
 have hl := h.lt
 have HH := zh h
 simp only [zzD, zzE, zzF] at f0
 clear h
 go_enter Tryz.func54, Tryz.ntmps54
 go_wp2_with fail
 have q1 : (w.alloc (.cells #[.pointer (some ⟨O, 0, none⟩)] 121)).heap.size = w.heap.size + 1 := World.size_alloc _ _
 have b0 := Blk.new w 121 #[.pointer (some ⟨O, 0, none⟩)]
 have b1 := Blk.new (w.alloc (.cells #[.pointer (some ⟨O, 0, none⟩)] 121)) 53 #[.pointer (some ⟨F, 0, none⟩)]
 have b2 := Blk.new ((w.alloc (.cells #[.pointer (some ⟨O, 0, none⟩)] 121)).alloc (.cells #[.pointer (some ⟨F, 0, none⟩)] 53)) 49 #[.int .i64 0]
 have b3 := Blk.new (((w.alloc (.cells #[.pointer (some ⟨O, 0, none⟩)] 121)).alloc (.cells #[.pointer (some ⟨F, 0, none⟩)] 53)).alloc (.cells #[.int .i64 0] 49)) 1 (fns O w.heap.size)
 simp only [World.size_alloc] at b1 b2 b3
 go_ret
 refine ⟨rfl, ((b0.alloc _).alloc _).alloc _, (b1.alloc _).alloc _, b2.alloc _, b3, ext_alloc (ext_alloc (ext_alloc (ext_alloc (Ext.rfl' _) _) _) _) _, ?_⟩
 simp only [World.size_alloc]
theorem catch_idle (p q : Addr) (w : World) :
  CallsD Tryz.prog 51 #[.pointer (some p), .pointer (some q)] .returning w fun e u' w' => e = .returned (.tuple #[]) ∧ u' = .returning ∧ w' = w := by
 refine callsD_of_wpS Tryz.func51 rfl fun c₀ cs hu => ?_
 simp only [Tryz.ntmps51, List.size_toArray, List.length_cons, List.length_nil, Nat.reduceAdd, Nat.reduceSub, Array.replicate_succ, Array.replicate_zero, List.push_toArray, List.append_toArray, List.nil_append, List.cons_append]
 apply wpS_seq
 apply wpS_region
 simp [wpOpsS, go_sem, recoverD, hu, Tryz.ntmps51, Exit.thenS]
 refine wpS_of_wp ?_
 go_wp2_with fail
 cases c₀
 simp_all [bodyPostS, results, Tryz.results51]
end Go.Proofs.YtidnboeihkeljaaGreatDoor.Fil
