/- Tracks: a track copied. -/
import Derived.Test.YtidnboeihkeljaaGreatDoorTrkH
import Derived.LoopN
set_option maxHeartbeats 16000000
set_option maxRecDepth 100000
set_option linter.all false
open Go.ChangeShapes Go.WideShapes Go.ChangeAt Go.RowKit
namespace Go.Proofs.YtidnboeihkeljaaGreatDoor.Trk
open Rec
open Log (OwnR_keep)
def Below4 (t : Tv) (L B : Nat) : Prop := (∀ a, t.s0.A = some a → L ≤ a.block ∧ a.block < B) ∧ (∀ a, t.s1.A = some a → L ≤ a.block ∧ a.block < B) ∧ (∀ a, t.s2.A = some a → L ≤ a.block ∧ a.block < B) ∧ (∀ a, t.s3.A = some a → L ≤ a.block ∧ a.block < B)
def CpPost (w : World) (x : Tk) (e : Ending) (w' : World) : Prop :=
 Ext w w' ∧ ∃ (t : Tv) (B : Nat), e = .returned (.agg t.cells) ∧ TkV w' t x ∧ w.heap.size ≤ B ∧ B ≤ w'.heap.size ∧ OwnR B w' 113 2 cM (.slice t.sm.A t.sm.n t.sm.c) x.marks ∧ Below4 t w.heap.size B
end Go.Proofs.YtidnboeihkeljaaGreatDoor.Trk
