/- A region within a round of a range over a function is walked as everywhere. -/
import Derived.Test.YtmceaocknlnmpaaP1
import Derived.RangeFuncNested
import Derived.RangeFuncCalls
import Derived.RangeFuncLeaves
import Derived.OwnWalkIn
import Derived.OrdersHeld
import Derived.Deep.RegionHeld
namespace Go.Proofs.Ytmceaocknlnmpaa
open Go.ChangeShapes Go.WideShapes Go.ChangeAt Go.RowKit
set_option linter.unusedVariables false
/-- Normally left alone. -/
def Plainly (K : Act → World → Prop) : Exit → Act → World → Prop
  | .normal, a, w => K a w
  | _, _, _ => False
theorem plainly_in (K : Act → World → Prop) : ¬ LetsOut (Plainly K) := fun ⟨_, _, h⟩ => h
def noDefer (ops : Array Oper) : Bool := ops.all fun o => match o.op with | .defer _ => false | _ => true
theorem noDefer_at {ops : Array Oper} (h : noDefer ops = true) {i : Nat} {o : Oper} (ho : ops[i]? = some o) : ∀ c, o.op ≠ .defer c := fun c e => by
  have h1 := Array.all_eq_true.1 h i (Array.getElem?_eq_some_iff.1 ho).1
  rw [(Array.getElem?_eq_some_iff.1 ho).2, e] at h1
  cases h1
section
variable {n : Nat} {P : Program} {l : Nat} {ops : Array Oper} {K : Act → World → Prop}
theorem rowsIn_of {n : Nat} {row : String} {args : Array Value} {w : World} {R : Value → World → Prop} (h : Rows P row args w R) : RowsIn (Fence.wide.inRound l) n P row args w R :=
  fun c cs _ => let ⟨v, w', r, s⟩ := h c cs; ⟨v, w', r, stepsIn_wide.2 s⟩
theorem opIn_of {o : Oper} {a : Act} {w : World} {K' : Act → World → Prop} (hd : ∀ c, o.op ≠ .defer c) (h : o.wp P a w K' (Plainly K)) : o.wpIn (Fence.wide.inRound l) n P a w K' (Plainly K) := by
  unfold Oper.wp at h
  unfold Oper.wpIn
  refine ⟨fun f _ => trivial, ?_⟩
  rw [Oper.semAt_plain _ _ _ hd]
  generalize (execOp a.eval o).run P w = r at *
  cases r with
  | ok x w' =>
    cases x <;> simp only [Oper.upon, Oper.uponIn] at h ⊢ <;>
      first
        | exact h
        | exact ⟨fun e => (by cases e), CallsIn.inRound l (callsIn_wide.2 (Calls.mono h (fun e w'' he => by cases e <;> exact he)))⟩
        | exact ⟨fun e => (by cases e), rowsIn_of h⟩
  | halt x w' => cases x <;> simp only [Oper.upon, Oper.uponIn] at h ⊢ <;> exact h
theorem wpOpIn_of (hnd : noDefer ops = true) {i : Nat} {K' K2 : Act → World → Prop} {a : Act} {w : World} (h : wpOp P ops (Plainly K) i K' a w) (hk : ∀ a w, K' a w → K2 a w) : wpOpIn (Fence.wide.inRound l) n P ops (Plainly K) i K2 a w := by
  have h := wpOp_mono hk h
  unfold wpOp at h
  unfold wpOpIn
  cases ho : ops[i]? with
  | none => simpa [ho] using h
  | some o =>
    simp only [ho] at h ⊢
    split
    · rename_i hw
      simp only [hw, if_true] at h
      rcases h with h | ⟨_, h⟩
      · exact opIn_of (noDefer_at hnd ho) h
      · exact (plainly_in K h).elim
    · rename_i hw
      simp only [hw] at h
      exact ⟨fun f _ => trivial, h⟩
theorem wpAnyIn_of (hnd : noDefer ops = true) {md : Region.Mode} : ∀ (fuel : Nat) (listed : Array Bool) (a : Act) (w : World), wpAny P md ops (Plainly K) fuel listed a w → wpAnyIn (Fence.wide.inRound l) n P md ops (Plainly K) fuel listed a w
  | 0, _, _, _, h => h
  | fuel + 1, _, _, _, h => ⟨h.1, fun i hi => wpOpIn_of hnd (h.2 i hi) (fun a' w' h' => wpAnyIn_of hnd fuel _ a' w' h')⟩
theorem wpListIn_of (hnd : noDefer ops = true) : ∀ (rest : List Oper) (a : Act) (w : World), (∀ o ∈ rest, ∀ c, o.op ≠ .defer c) → wpList P ops (Plainly K) rest a w → wpListIn (Fence.wide.inRound l) n P ops (Plainly K) rest a w
  | [], _, _, _, h => h
  | o :: rest, a, w, hr, h => by
    unfold wpList at h
    unfold wpListIn
    split
    · rename_i hw
      simp only [hw, if_true] at h
      rcases h with h | ⟨_, h⟩
      · exact Oper.wpIn_mono (fun a' w' h' => wpListIn_of hnd rest a' w' (fun o ho => hr o (List.mem_cons_of_mem _ ho)) h') (opIn_of (hr o List.mem_cons_self) h)
      · exact (plainly_in K h).elim
    · rename_i hw
      simp only [hw] at h
      exact ⟨fun f _ => trivial, wpListIn_of hnd rest _ _ (fun o ho => hr o (List.mem_cons_of_mem _ ho)) h⟩
theorem plainly_mono {F : Fence} {c : Code} {a : Act} {w : World} {Q' : Exit → Act → World → Prop} (h : c.wpIn F n P (Plainly K) a w) : c.wpIn F n P (Exit.then K Q') a w :=
  wpIn_mono h fun e a w hq => by cases e <;> first | exact hq | exact hq.elim
/-- A region that draws its order, in a round: each operation as everywhere. -/
theorem region_round {id : Nat} {a : Act} {w : World} {Q' : Exit → Act → World → Prop} {S : World → Prop} {os : List Oper} (hm : P.follows .mixedOrders = true) (hnd : noDefer os.toArray = true)
    (h : wpAnyH P .any os.toArray (Plainly K) S os.toArray.size (Array.replicate os.toArray.size false) a w.drew) : (Code.region id os.toArray true).wpIn (Fence.wide.inRound l) n P (Exit.then K Q') a w :=
  plainly_mono (wpIn_region_any hm (wpAnyIn_of hnd _ _ _ _ (wpAny_of_held _ _ _ _ h)))
/-- One that does not. -/
theorem region_list_round {id : Nat} {a : Act} {w : World} {Q' : Exit → Act → World → Prop} {os : List Oper} (hnd : noDefer os.toArray = true)
    (h : wpList P os.toArray (Plainly K) os a w) : (Code.region id os.toArray false).wpIn (Fence.wide.inRound l) n P (Exit.then K Q') a w :=
  plainly_mono (wpIn_region_lit (wpListIn_of hnd _ _ _ (fun o ho => by obtain ⟨i, hi⟩ := List.getElem?_of_mem ho; exact noDefer_at hnd (i := i) (by simpa using hi)) h))
/-- An append, as one operation of a region. -/
theorem wanted_append {w : World} {o : Oper} {a : Act} {K' : Act → World → Prop} {Q : Exit → Act → World → Prop} {y : Nat → Option Bool} {X : Prop} (hgd : o.guard = none) (s x : Operand) (t tx : TypeId)
    (ho : o.op = .call { callee := .builtin .append, args := #[s, x], argTypes := #[t, tx] }) (vs vx : Value) (hs : a.eval s = vs) (hx : a.eval x = vx) {v' : Value} {w' : World}
    (hr : (Builtin.append_ #[t, tx] o.type #[vs, vx]).run P w = .ok v' w') (h : K' (a.put o.dst v') w') : if Region.wanted o y = true then Oper.wp P o a w K' Q else X := by
  rw [if_pos (by simp [Region.wanted, hgd])]
  unfold Oper.wp execOp
  simp only [ho, resolve, invoke, builtin, Sem.run_bind, Sem.run_pure, Result.andThen_ok, List.map_toArray, List.map_cons, List.map_nil, hs, hx, hr]
  exact h
end
end Go.Proofs.Ytmceaocknlnmpaa
