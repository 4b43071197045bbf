/- Lemmas that all layers above wire use (bytes, texts, a reader's block). -/
import Derived.Test.YtodmjkhfckokhaaWireC
import Derived.BigRegion
import Derived.Deep.RegionHeld
import Derived.Deep.RegionHeld3
import Derived.Laws.CopyOwn
import Derived.Lib.BufferWrite
import Derived.LoopIn
import Derived.LoopNIn
import Derived.LoopTactic
import Derived.Maps.AppendAt
import Derived.OrdersHeld
import Derived.OwnWalkIn
import Derived.RangeFuncBound
import Derived.RangeFuncBox
import Derived.RangeFuncCalls
import Derived.RangeFuncLeaves
import Derived.RangeFuncNested
import Derived.RegionTactic
import Derived.Shelf.Abstract
import Derived.Shelf.RegionOpen
import Derived.Sort.CutIn
import Derived.TacticsInMore
import Derived.WalkLawsBesides
namespace Go.Proofs.Ytodmjkhfckokhaa.Com
open Go.ChangeShapes Go.WideShapes Go.ChangeAt Go.RowKit
open Go.Proofs.Ytodmjkhfckokhaa.Wire
set_option linter.unusedVariables false

theorem eff_app {w w3 w5 : World} {g i : Nat} {s : Value} {e : Int} {t : TypeId} {size n : Nat} {v : Value} {xs : List Value} (hE : Eff w w3 g s i e) (hO : w3.ownsRow w.heap.size t size v n xs) (hg : g < w.heap.size) (hgr : w3.grownBy w5 v.ownBlock) : Eff w w5 g s i e := by
  have hne : ∀ k, k < w.heap.size → some k ≠ v.ownBlock := fun k hk e => by have := own_ge hO k e.symm; omega
  refine ⟨(hgr.block g (Nat.lt_of_lt_of_le hg hE.2.size) (hne g hg)).trans hE.1, ⟨hgr.os.trans hE.2.os, hgr.tape.trans hE.2.tape, hgr.output.trans hE.2.output, Nat.le_trans hE.2.size hgr.size, fun k hk hkg => ?_⟩⟩
  exact (hgr.block k (Nat.lt_of_lt_of_le hk hE.2.size) (hne k hk)).trans (hE.2.block k hk hkg)
theorem own_low {w : World} {base base' : Nat} {e : TypeId} {size n : Nat} {v : Value} {xs : List Value} (h : w.ownsRow base e size v n xs) (hb : base' ≤ base) : w.ownsRow base' e size v n xs := by
  refine ⟨h.1, ?_⟩
  rcases h.2 with h | ⟨g, cap, cur, h1, h2, h3⟩
  · exact .inl h
  · exact .inr ⟨g, cap, cur, h1, Nat.le_trans hb h2, h3⟩
theorem extract_drop (l : List Nat) (a b : Nat) : l.extract a b = (l.drop a).take (b - a) := by simp [List.extract]
theorem str_ext (X : ByteArray) (j i : Nat) : X.extract j i = strOf (((natsOf X).drop j).take (i - j)) := by
  have h1 := strOf_nats (X.extract j i)
  rw [← h1]
  congr 1
  unfold natsOf
  rw [ByteArray.data_extract, Array.toList_extract, List.extract]
  simp [List.map_take, List.map_drop]
theorem natsOf_get (s : ByteArray) (k : Nat) (h : k < s.size) : (natsOf s).getD k 0 = s[k].toNat := by
  unfold natsOf
  rw [List.getD_eq_getElem?_getD, List.getElem?_map, List.getElem?_eq_getElem (by rw [Array.length_toList]; exact h)]
  rfl
theorem conv8 {w : World} {A : Option Addr} {n : Nat} {xs : List Nat} (h : Bs w A n xs) (c : Nat) : (convert 22 9 (.slice A n c)).run Try.prog w = .ok (.string (strOf xs)) w :=
  h.conv (P := Try.prog) 22 5 9 Try.underlying22 Try.underlying5 Try.underlying9 c
theorem nats_ext (s : ByteArray) (k : Nat) : natsOf (s.extract k s.size) = (natsOf s).drop k := by
  rw [str_ext, nats_strOf]
  · rw [List.take_of_length_le]; rw [List.length_drop, natsOf_len]; exact Nat.le_refl _
  · exact small_mem (fun c hc => mem_small (natsOf_small s) c (List.mem_of_mem_drop (List.mem_of_mem_take hc)))
end Go.Proofs.Ytodmjkhfckokhaa.Com
