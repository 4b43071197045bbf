/- A slice of acts that came in. -/
import Derived.Test.YtdbjknljdplinaaAreH
import Derived.Deep.Slices
import Derived.Deep.Fields
import Derived.ChangeSame
namespace Go.Proofs.Ytdbjknljdplinaa.Arena
open Go.ChangeShapes Go.WideShapes Go.ChangeAt Go.RowKit Go.Deep
set_option linter.unusedVariables false

theorem three_of {α : Type} : ∀ {l : List α}, l.length = 3 → ∃ a b c, l = [a, b, c]
  | [a, b, c], _ => ⟨a, b, c, rfl⟩
theorem nat_u8 {n : Int} (h : 0 ≤ n ∧ n ≤ 255) : n.toNat < 256 ∧ ((n.toNat : Nat) : Int) = n := by omega
theorem nat_u16 {n : Int} (h : 0 ≤ n ∧ n ≤ 65535) : n.toNat < 65536 ∧ ((n.toNat : Nat) : Int) = n := by omega
theorem cellsAct : Try.prog.cellsOf 84 = 3 := by kernel_rfl
set_option maxRecDepth 100000 in
theorem acts_of {H : Type} {enc : TypeId × Value → H} {w : World} {base : Nat} {spare : Nat → Bool} {held : Bool} {fuel : Nat} {a : Option Addr} {len cap : Nat} {x : DataW H × List MemPlace}
    (h : DataW.trod enc Try.prog w base spare held fuel 73 [.slice a len cap] = some x) : ∃ ls, Acts w a len ls ∧ cap ≤ maxLen ∧ len ≤ cap := by
  rcases open_slice Try.underlying73 h with ⟨hcs, _⟩ | ⟨ad, l, c, m, n, D, Pl, hcs, hb, hl, hm, hmm, hx, hi⟩
  · obtain ⟨rfl, rfl, rfl⟩ := Value.slice.inj (List.cons.inj hcs).1
    exact ⟨[], ⟨rfl, by simp, fun h0 => absurd h0 (by omega)⟩, by unfold maxLen; omega, Nat.le_refl _⟩
  · obtain ⟨rfl, rfl, rfl⟩ := Value.slice.inj (List.cons.inj hcs).1
    have hlm : len ≤ m := by rw [hmm]; split <;> omega
    rw [cellsAct] at hi
    have key : ∀ i, i < len → ∃ t : Nat × Nat × Int, t.1 < 256 ∧ t.2.1 < 65536 ∧ w.cell? ((ad.add (i * 3)).add 0) = some (.int .u8 ((t.1 : Nat) : Int)) ∧ w.cell? ((ad.add (i * 3)).add 1) = some (.int .u16 ((t.2.1 : Nat) : Int)) ∧ w.cell? ((ad.add (i * 3)).add 2) = some (.int .i64 t.2.2) := by
      intro i hil
      obtain ⟨cs', hc, ht'⟩ := hi i (by omega)
      obtain ⟨ys, n', hn', hy, hlen, hyl, hf⟩ := DataW.trod_struct Try.underlying84 ht'
      obtain ⟨_, hcl, hat⟩ := World.cells?_some hc
      obtain ⟨v0, v1, v2, rfl⟩ := three_of hcl
      obtain ⟨y0, y1, y2, rfl⟩ := three_of (show ys.length = 3 from hyl)
      have f0 := hf 0 _ rfl
      have f1 := hf 1 _ rfl
      have f2 := hf 2 _ rfl
      obtain ⟨n0, e0, _, w0⟩ := DataW.trod_int Try.underlying5 f0
      obtain ⟨n1, e1, _, w1⟩ := DataW.trod_int Try.underlying43 f1
      obtain ⟨n2, e2, _, w2⟩ := DataW.trod_int Try.underlying3 f2
      have g0 : v0 = .int .u8 n0 := (List.cons.inj e0).1
      have g1 : v1 = .int .u16 n1 := (List.cons.inj e1).1
      have g2 : v2 = .int .i64 n2 := (List.cons.inj e2).1
      obtain ⟨q0, r0⟩ := nat_u8 (bounds_u8 w0); obtain ⟨q1, r1⟩ := nat_u16 (bounds_u16 w1)
      refine ⟨(n0.toNat, n1.toNat, n2), q0, q1, ?_, ?_, ?_⟩
      · rw [hat 0 (by decide), r0, ← g0]; rfl
      · rw [hat 1 (by decide), r1, ← g1]; rfl
      · rw [hat 2 (by decide), ← g2]; rfl
    obtain ⟨b, o, spot⟩ := ad
    let f : Fin len → Nat × Nat × Int := fun i => Classical.choose (key i.1 i.2)
    have hf : ∀ i : Fin len, (f i).1 < 256 ∧ (f i).2.1 < 65536 ∧ w.cell? (((⟨b, o, spot⟩ : Addr).add (i.1 * 3)).add 0) = some (.int .u8 (((f i).1 : Nat) : Int)) ∧ w.cell? (((⟨b, o, spot⟩ : Addr).add (i.1 * 3)).add 1) = some (.int .u16 (((f i).2.1 : Nat) : Int)) ∧ w.cell? (((⟨b, o, spot⟩ : Addr).add (i.1 * 3)).add 2) = some (.int .i64 (f i).2.2) := fun i => Classical.choose_spec (key i.1 i.2)
    refine ⟨List.ofFn f, ⟨by simp, fun a ha => ?_, fun h0 => ?_⟩, hm, hl⟩
    · obtain ⟨i, rfl⟩ := List.mem_ofFn.1 ha
      exact ⟨(hf i).1, (hf i).2.1⟩
    · have hspot : spot = none := by
        have := (hf ⟨0, h0⟩).2.2.1
        simpa [Addr.add] using World.cell?_spot this
      subst hspot
      have hadd : ∀ b o j, (⟨b, o, none⟩ : Addr).add j = ⟨b, o + j, none⟩ := fun b o j => by unfold Addr.add; split <;> simp_all
      refine ⟨b, o, rfl, ?_, fun j hj => ?_⟩
      · have := (hf ⟨0, h0⟩).2.2.1
        rw [hadd, hadd] at this
        exact World.block_lt_of_cell? w _ this
      · have hj' : j < len := by simpa using hj
        obtain ⟨_, _, c0, c1, c2⟩ := hf ⟨j, hj'⟩
        rw [hadd, hadd] at c0 c1 c2
        rw [List.getElem_ofFn]
        exact ⟨c0, c1, c2⟩
end Go.Proofs.Ytdbjknljdplinaa.Arena
