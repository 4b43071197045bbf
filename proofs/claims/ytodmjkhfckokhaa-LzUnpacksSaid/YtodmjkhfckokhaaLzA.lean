/- Contracts of package lz: literals that stand next, a match. -/
import Derived.Test.YtodmjkhfckokhaaWireY
import Derived.Test.YtodmjkhfckokhaaCom
namespace Go.Proofs.Ytodmjkhfckokhaa.Lz
open Go.ChangeShapes Go.WideShapes Go.ChangeAt Go.RowKit
open Go.Proofs.Ytodmjkhfckokhaa.Wire
set_option linter.unusedVariables false

/-- The last bytes told once more, so many. -/
def rep (out : List Nat) (back : Nat) : Nat → List Nat
  | 0 => out
  | n + 1 => rep out back n ++ [(rep out back n).getD ((rep out back n).length - back) 0]
theorem rep_len (out : List Nat) (back n : Nat) : (rep out back n).length = out.length + n := by
  induction n with
  | zero => rfl
  | succ n ih => rw [rep, List.length_append, ih]; simp; omega
theorem rep_small {out : List Nat} (h : ∀ c ∈ out, c < 256) (back n : Nat) : ∀ c ∈ rep out back n, c < 256 := by
  induction n with
  | zero => exact h
  | succ n ih =>
    intro c hc
    rw [rep, List.mem_append] at hc
    rcases hc with hc | hc
    · exact ih c hc
    · simp only [List.mem_cons, List.not_mem_nil, or_false] at hc
      subst hc
      exact small_mem ih _
/-- What tokens tell. -/
inductive UR where
  | bad (err : Int)
  | ok (zs : List Nat)
def unp (most : Nat) (out rest : List Nat) : UR :=
  match rest with
  | [] => .ok out
  | k :: cs =>
    if 128 ≤ k then .bad 4
    else if k % 2 = 0 then
      if most < out.length + (k / 2 + 1) then .bad 6
      else if cs.length < k / 2 + 1 then .bad 3
      else unp most (out ++ cs.take (k / 2 + 1)) (cs.drop (k / 2 + 1))
    else match vr 0 0 cs with
      | .short => .bad 3
      | .form => .bad 4
      | .ok v j =>
        if 4096 ≤ v ∨ out.length ≤ v then .bad 4
        else if most < out.length + (k / 2 + 3) then .bad 6
        else unp most (rep out (v + 1) (k / 2 + 3)) (cs.drop j)
termination_by rest.length
decreasing_by all_goals simp only [List.length_drop, List.length_cons]; omega
theorem own_eff {W w w1 : World} {v : Value} {out : List Nat} {g j : Nat} {s : Value} {e : Int} (h : Wire.Own W w v out) (hE : Eff w w1 g s j e) (hg : g < W.heap.size) : Wire.Own W w1 v out :=
  World.ownsRow.kept h hE.2 (.inr (fun e => by have := own_ge h g e; omega))
/-- What run comes to, of tokens that were read since W. -/
def RunPost (W w : World) (g : Nat) (s : Value) (i : Nat) (out rest : List Nat) (n : Nat) (room : Int) (e : Ending) (w' : World) : Prop :=
  (room < n ∧ e = .returned (.tuple #[.slice none 0 0, .int .i64 6]) ∧ w = w') ∨
  ((n : Int) ≤ room ∧ rest.length < n ∧ (∃ v, e = .returned (.tuple #[v, .int .i64 3])) ∧ Eff W w' g s i 3) ∨
  ((n : Int) ≤ room ∧ n ≤ rest.length ∧ (∃ v, e = .returned (.tuple #[v, .int .i64 0]) ∧ Wire.Own W w' v (out ++ rest.take n)) ∧ Eff W w' g s (i + n) 0)
set_option maxHeartbeats 4000000 in
set_option maxRecDepth 100000 in
theorem run (W w : World) (g N c i n : Nat) (room : Int) (A : Option Addr) (xs out : List Nat) (v : Value) (hE : Eff W w g (.slice A N c) i 0) (hRB : RB w g A N c xs) (hi : i ≤ N) (hN : N ≤ 1000000) (hg : g < W.heap.size) (hO : Wire.Own W w v out) (hol : out.length ≤ 1000000)
    (hn : n ≤ 1000) (hr1 : -1000000 ≤ room) (hr2 : room ≤ 1000000) :
    Calls Try.prog 63 #[v, .pointer (some ⟨g, 0, none⟩), .int .i64 (n : Int), .int .i64 room] w (RunPost W w g (.slice A N c) i out (xs.drop i) n room) := by
  have HB := Lib.hid (Wire.bytes g N c i n (by omega) (by omega) A xs w hE.1 hRB hi (by omega))
  have hrl : (xs.drop i).length = N - i := by rw [List.length_drop, hRB.1.1]
  have HRL := Lib.hid hrl
  have HE := Lib.hid hE; have HO := Lib.hid hO
  have HSM := Lib.hid hRB.1.2.1
  obtain ⟨i0, hi0, hz0, hz1, hz2⟩ := info_parts info8
  have HI := Lib.hid (And.intro hi0 (And.intro hz0 (And.intro hz1 hz2))); clear hi0 hz0 hz1 hz2
  clear hE hRB hO hrl
  generalize hrest : xs.drop i = rest at *
  have HREST := Lib.hid hrest; clear hrest
  by_cases hgt : room < n
  · go_enter Try.func63, Try.ntmps63
    go_wp2_with fail
    go_ret2
    exact .inl ⟨hgt, rfl, rfl⟩
  · go_enter Try.func63, Try.ntmps63
    go_wp2_with fail
    refine HB.out.mono ?_
    rintro e w1 (⟨h0, _, _⟩ | ⟨h1, h2, rfl, hE1⟩ | ⟨h1, h2, ⟨v1, rfl, A1, c1, rfl, q1, q2, q3, hB1⟩, hE1⟩)
    · omega
    · have HE1 := Lib.hid (HE.out.trans hE1)
      have HO1 := Lib.hid (own_eff HO.out hE1 hg)
      have HSR : Hid (Src Try.prog 1 22 (.slice none 0 0) 0 (c8 []) w1) := Lib.hid (Src.ofNil w1 Try.underlying22 0)
      clear hE1
      go_wp2_with (at_builtin; refine wpList_app_own rfl (.tmp 13) (.tmp 16) 22 22 rfl 5 i0 (.int .u8 0) 1 1 Try.underlying22 HI.out.1 HI.out.2.1 HI.out.2.2.1 HI.out.2.2.2 rfl W.heap.size v _ out.length (c8 out) rfl rfl HO1.out 0 (c8 []) HSR.out (by unfold maxLen; omega) (by omega) (by have := HE1.out.2.size; omega) ?_; intro v5 w5 hown5 hgr5; have HOW5 := Lib.hid hown5; have HE5 := Lib.hid (Com.eff_app HE1.out HO1.out hg hgr5); clear hown5 hgr5)
      refine (err_any g _ i 3 w5 HE5.out.1).mono ?_
      rintro e w6 ⟨rfl, rfl⟩
      go_wp2_with fail
      go_ret2
      exact .inr (.inl ⟨by omega, by omega, ⟨_, rfl⟩, HE5.out⟩)
    · rw [Int.toNat_natCast] at q1 hB1 hE1 ⊢
      have hl : (rest.take n).length = n := by rw [List.length_take]; omega
      have HL := Lib.hid hl
      have HE1 := Lib.hid (HE.out.trans hE1)
      have HO1 := Lib.hid (own_eff HO.out hE1 hg)
      have HSR := Lib.hid (Bs.src hB1 Try.underlying22 c1)
      have hlb : (rest.take n).length ≤ 1000 := by omega
      clear hE1 hB1 q1 q2 q3 hl
      generalize hys : rest.take n = ys at *
      have HYS := Lib.hid hys; clear hys
      go_wp2_with (at_builtin; refine wpList_app_own rfl (.tmp 13) (.tmp 16) 22 22 rfl 5 i0 (.int .u8 0) 1 1 Try.underlying22 HI.out.1 HI.out.2.1 HI.out.2.2.1 HI.out.2.2.2 rfl W.heap.size v _ out.length (c8 out) rfl rfl HO1.out ys.length (c8 ys) HSR.out (by unfold maxLen; omega) (by omega) (by have := HE1.out.2.size; omega) ?_; intro v5 w5 hown5 hgr5; have HOW5 := Lib.hid hown5; have HE5 := Lib.hid (Com.eff_app HE1.out HO1.out hg hgr5); clear hown5 hgr5)
      refine (err_any g _ (i + n) 0 w5 HE5.out.1).mono ?_
      rintro e w6 ⟨rfl, rfl⟩
      go_wp2_with fail
      go_ret2
      exact .inr (.inr ⟨by omega, by omega, ⟨_, rfl, by rw [HYS.out]; unfold Wire.Own; rw [List.length_append, c8_app]; exact HOW5.out⟩, HE5.out⟩)
end Go.Proofs.Ytodmjkhfckokhaa.Lz
