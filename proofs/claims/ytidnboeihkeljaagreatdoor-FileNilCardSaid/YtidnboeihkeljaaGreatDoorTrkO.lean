/- Tracks: the document's track; the law's Great, walked. -/
import Derived.Test.YtidnboeihkeljaaGreatDoorTrkI
set_option maxHeartbeats 16000000
set_option maxRecDepth 100000
set_option linter.all false
open Go.ChangeShapes Go.WideShapes Go.ChangeAt Go.RowKit
namespace Go.Proofs.YtidnboeihkeljaaGreatDoor.Trk
open Rec
def cR (p : Pt) : List Value := [.int .i64 p.tick, .int .i64 p.x, .int .i64 p.y]
def PtsR (w : World) (A : Option Addr) (n c : Nat) (ps : List Pt) : Prop := RowR w A n 3 cR ps ∧ n ≤ c ∧ c ≤ 9223372036854775807 ∧ (A = none → n = 0 ∧ c = 0)
def RfV (w : World) (t : Tv) (x : Tk) : Prop := PtsR w t.s0.A t.s0.n t.s0.c x.c0 ∧ PtsR w t.s1.A t.s1.n t.s1.c x.c1 ∧ PtsR w t.s2.A t.s2.n t.s2.c x.c2 ∧ PtsR w t.s3.A t.s3.n t.s3.c x.c3 ∧ MksV w t.sm.A t.sm.n t.sm.c x.marks
theorem PtsR.ext {w w' : World} {A : Option Addr} {n c : Nat} {ps : List Pt} (h : PtsR w A n c ps) (e : Ext w w') : PtsR w' A n c ps := ⟨h.1.ext e, h.2⟩
theorem RfV.ext {w w' : World} {t : Tv} {x : Tk} (h : RfV w t x) (e : Ext w w') : RfV w' t x := ⟨h.1.ext e, h.2.1.ext e, h.2.2.1.ext e, h.2.2.2.1.ext e, h.2.2.2.2.ext e⟩
def Small (x : Tk) : Prop := x.marks.length ≤ 60 ∧ (∀ m ∈ x.marks, m.name.size ≤ 200) ∧ ∀ c ∈ x.cams, c.length ≤ 100
def GrPost (w : World) (x : Tk) (e : Ending) (w' : World) : Prop := ∃ b, e = .returned (.bool b) ∧ Ext w w' ∧ (b = false → Small x)
end Go.Proofs.YtidnboeihkeljaaGreatDoor.Trk
