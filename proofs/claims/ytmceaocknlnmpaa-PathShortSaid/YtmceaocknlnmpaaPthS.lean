/- Path: what Find keeps, in plain words. -/
import Derived.Test.YtmceaocknlnmpaaPthR
namespace Go.Proofs.Ytmceaocknlnmpaa.Pth
open Go.ChangeShapes Go.WideShapes Go.ChangeAt Go.RowKit
open Go.Proofs.Ytmceaocknlnmpaa.Rec Go.Proofs.Ytmceaocknlnmpaa.Grid
set_option linter.unusedVariables false
theorem own_keep {w w' : World} {base : Nat} {e : TypeId} {size n : Nat} {v : Value} {xs : List Value} (h : w.ownsRow base e size v n xs) (hk : ∀ k, v.ownBlock = Option.some k → w'.heap[k]? = w.heap[k]?) : w'.ownsRow base e size v n xs := by
  rcases h with ⟨h1, h2 | ⟨g, cap, cur, r1, r2, r3, r4⟩⟩
  · exact ⟨h1, .inl h2⟩
  · exact ⟨h1, .inr ⟨g, cap, cur, r1, r2, (hk g (by rw [r1]; rfl)).trans r3, r4⟩⟩
theorem nxt_pos' {W H t : Nat} (hW : 4 ≤ W) : 0 < (nxt W H t).length := by
  have : t % W < W := Nat.mod_lt t (by omega)
  by_cases h : 0 < t % W
  · exact List.length_pos_of_mem ((nxt_mem (t - 1)).2 (.inr (.inr (.inr ⟨h, rfl⟩))))
  · exact List.length_pos_of_mem ((nxt_mem (t + 1)).2 (.inr (.inl ⟨by omega, rfl⟩)))
/-- Small open tiles. -/
def Sn (q : List Nd) (k : Nat) : Prop := ∀ a ∈ q, a.t ≤ 5000 ∧ a.g ≤ k ∧ a.h ≤ 20000
theorem Sn.sm {q : List Nd} {k : Nat} (h : Sn q k) (hk : k ≤ 100000) : Sm q := fun a ha => by have := h a ha; omega
theorem Sn.more {q : List Nd} {k m : Nat} (h : Sn q k) (hm : k ≤ m) : Sn q m := fun a ha => by have := h a ha; omega
/-- What a search knows, and what stands in its heap. -/
structure Fi (h : Nat → Nat) (P f k : Nat) (all : List Ti) (C : Co) (q : List Nd) : Prop where
  cm : Cm f all C
  hp : Hp h all q
  ch : Ch f all
  le : Gle k all
  len : all.length = P
  sn : Sn q k
theorem Fi.more {h : Nat → Nat} {P f k m : Nat} {all : List Ti} {C : Co} {q : List Nd} (F : Fi h P f k all C q) (hm : k ≤ m) : Fi h P f m all C q := ⟨F.cm, F.hp, F.ch, F.le.more hm, F.len, F.sn.more hm⟩
/-- A tile is come to from another one. -/
theorem Fi.step {h : Nat → Nat} {free : Nat → Bool} {P f k t x g : Nat} {all : List Ti} {C C' : Co} {q q' : List Nd} (F : Fi h P f (k + 1) all C q) (ht : (ti all t).seen = true) (hg : (ti all t).g = g) (hgk : g ≤ k) (hx : x < P) (hx5 : x ≤ 5000) (hhx : h x ≤ 20000)
    (R : Rch C q free h x t (g + 1) C' q') : Fi h P f (k + 1) (relax free t all x) C' q' ∧ ((ti (relax free t all x) t).seen = true ∧ (ti (relax free t all x) t).g = g) ∧ q'.length ≤ q.length + 1 := by
  have hxl : x < all.length := by rw [F.len]; exact hx
  have hown := relax_own (free := free) ht hxl
  refine ⟨?_, by rw [hown]; exact ⟨ht, hg⟩, ?_⟩
  · rcases R with ⟨hs, rfl, rfl⟩ | ⟨hs, rfl, hp⟩
    · have e : relax free t all x = all := relax_no (by
        rcases hs with ⟨a, ha, hle⟩ | ⟨_, hf⟩
        · refine .inr ⟨?_, ?_⟩
          · rw [← (F.cm x).1, ha]; rfl
          · rw [← ((F.cm x).2 a ha).1, hg]; exact hle
        · exact .inl hf)
      rw [e]; exact F
    · have hfr : free x = true := by
        cases e : free x with
        | true => rfl
        | false => exact absurd (.inr ⟨by omega, e⟩) hs
      have hlt : (ti all x).seen = true → (ti all t).g + 1 < (ti all x).g := fun hsx => by
        obtain ⟨fr, hc, _⟩ := F.cm.some hsx
        rw [hg]
        refine Nat.lt_of_not_le fun hle => hs (.inl ⟨_, hc, hle⟩)
      have e := relax_yes hfr hlt
      have hset := ti_set (all := all) (i := x) (a := (true, true, g + 1, t)) hxl
      rw [hg] at e hlt
      refine ⟨?_, ?_, F.ch.relax ht hxl, F.le.relax (by rw [hg]; exact hgk) hxl, by rw [relax_len]; exact F.len, ?_⟩
      · rw [e]
        intro u
        rw [hset u]
        unfold cput
        by_cases eu : u = x
        · rw [if_pos eu, if_pos eu]
          exact ⟨rfl, fun a ha => by cases ha; exact ⟨rfl, fun _ => rfl⟩⟩
        · rw [if_neg eu, if_neg eu]; exact F.cm u
      · rw [e]; exact (F.hp.reach hxl hlt).perm hp
      · intro a ha
        rcases List.mem_cons.1 (hp.mem_iff.1 ha) with e' | e'
        · rw [e']; exact ⟨hx5, by show g + 1 ≤ k + 1; omega, hhx⟩
        · exact F.sn a e'
  · rcases R with ⟨_, _, rfl⟩ | ⟨_, _, hp⟩
    · omega
    · rw [hp.length_eq]; simp
theorem Fi.start {h : Nat → Nat} {free : Nat → Bool} {P f : Nat} {C' : Co} {q' : List Nd} (hf : f < P) (hf5 : f ≤ 5000) (hhf : h f ≤ 20000) (R : Rch (fun _ => none) [] free h f f 0 C' q') : Fi h P f 0 (first P f) C' q' ∧ q'.length ≤ 1 := by
  rcases R with ⟨hs, _, _⟩ | ⟨_, rfl, hp⟩
  · rcases hs with ⟨a, ha, _⟩ | ⟨h0, _⟩
    · cases ha
    · omega
  · refine ⟨⟨fun u => ?_, (Hp.start hf).perm hp, Ch.start hf, fun u hu => ?_, first_len P f, fun a ha => ?_⟩, by rw [hp.length_eq]; simp⟩
    · rw [first_ti hf]
      unfold cput
      by_cases eu : u = f
      · rw [if_pos eu, if_pos eu]; exact ⟨rfl, fun a ha => by cases ha; exact ⟨rfl, fun hne => absurd eu hne⟩⟩
      · rw [if_neg eu, if_neg eu]; exact ⟨rfl, fun a ha => by cases ha⟩
    · rw [first_ti hf] at hu ⊢
      split
      · exact Nat.le_refl _
      · rename_i e; rw [if_neg e] at hu; cases hu
    · rcases List.mem_cons.1 (hp.mem_iff.1 ha) with e | e
      · rw [e]; exact ⟨hf5, Nat.le_refl _, hhf⟩
      · cases e
/-- The next open tile is taken. -/
theorem Fi.take {h : Nat → Nat} {P f k t : Nat} {all : List Ti} {C : Co} {q q' : List Nd} (F : Fi h P f k all C q) (hb : best h all all.length = Option.some t) (hp : Hp h (shut all t) q') (hq : ∀ a ∈ q', a ∈ q) : Fi h P f k (shut all t) C q' ∧ t < P ∧ (ti (shut all t) t).seen = true ∧ (ti (shut all t) t).g = (ti all t).g ∧ (ti all t).g ≤ k ∧ (ti all t).seen = true := by
  obtain ⟨h1, h2, _⟩ := best_some _ _ hb
  have hsee : (ti all t).seen = true := by
    have := (F.hp.known _ (F.hp.has t h2)).2.1
    exact this
  have hs := shut_seen h1
  refine ⟨⟨fun u => ?_, hp, F.ch.shut h1, F.le.shut h1, by rw [shut_len]; exact F.len, fun a ha => F.sn a (hq a ha)⟩, by rw [← F.len]; exact h1, by rw [(hs t).1]; exact hsee, (hs t).2.1, F.le t hsee, hsee⟩
  rw [(hs u).1, (hs u).2.1, (hs u).2.2]; exact F.cm u
end Go.Proofs.Ytmceaocknlnmpaa.Pth
