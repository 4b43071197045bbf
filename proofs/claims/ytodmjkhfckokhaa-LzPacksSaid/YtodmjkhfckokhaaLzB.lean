/- Contracts of package lz: a match is told. -/
import Derived.Test.YtodmjkhfckokhaaLzA
namespace Go.Proofs.Ytodmjkhfckokhaa.Lz
open Go.ChangeShapes Go.WideShapes Go.ChangeAt Go.RowKit
open Go.Proofs.Ytodmjkhfckokhaa.Wire
set_option linter.unusedVariables false

/-- What match comes to, of tokens that were read since W. -/
def MatchPost (W : World) (g : Nat) (s : Value) (i : Nat) (out : List Nat) (R : VR) (n : Nat) (room : Int) (e : Ending) (w' : World) : Prop :=
  match R with
  | .short => e = .returned (.tuple #[.slice none 0 0, .int .i64 3]) ∧ Eff W w' g s i 3
  | .form => e = .returned (.tuple #[.slice none 0 0, .int .i64 4]) ∧ Eff W w' g s i 4
  | .ok v j =>
    if 4096 ≤ v ∨ out.length ≤ v then e = .returned (.tuple #[.slice none 0 0, .int .i64 4]) ∧ Eff W w' g s (i + j) 0
    else if room < n then e = .returned (.tuple #[.slice none 0 0, .int .i64 6]) ∧ Eff W w' g s (i + j) 0
    else (∃ u, e = .returned (.tuple #[u, .int .i64 0]) ∧ Wire.Own W w' u (rep out (v + 1) n)) ∧ Eff W w' g s (i + j) 0
def CpRel (W : World) (g : Nat) (s : Value) (i : Nat) (out : List Nat) (back n : Nat) (ov iv : Value) (wr : World) : Prop :=
  ∃ q : Nat, q ≤ n ∧ iv = .int .i64 (q : Int) ∧ Wire.Own W wr ov (rep out back q) ∧ Eff W wr g s i 0
set_option maxHeartbeats 8000000 in
set_option maxRecDepth 100000 in
theorem match_ (W w : World) (g N c i n : Nat) (room : Int) (A : Option Addr) (xs out : List Nat) (v : Value) (hE : Eff W w g (.slice A N c) i 0) (hRB : RB w g A N c xs) (hi : i ≤ N) (hN : N ≤ 1000000) (hg : g < W.heap.size) (hO : Wire.Own W w v out) (hol : out.length ≤ 1000000)
    (hos : ∀ c ∈ out, c < 256) (hn : n ≤ 1000) (hr1 : -1000000 ≤ room) (hr2 : room ≤ 1000000) :
    Calls Try.prog 64 #[v, .pointer (some ⟨g, 0, none⟩), .int .i64 (n : Int), .int .i64 room] w (MatchPost W g (.slice A N c) i out (vr 0 0 (xs.drop i)) n room) := by
  have HN := Lib.hid (num g N c i A xs w hE.1 hRB.1 hi (by omega))
  have HE := Lib.hid hE; have HO := Lib.hid hO
  obtain ⟨OA, oc, rfl, hoc1, hoc2, hOA⟩ := own_shape hO
  have HOA := Lib.hid hOA
  have HOS := Lib.hid hos
  obtain ⟨i0, hi0, hz0, hz1, hz2⟩ := info_parts info8
  have HI := Lib.hid (And.intro hi0 (And.intro hz0 (And.intro hz1 hz2))); clear hi0 hz0 hz1 hz2
  clear hE hRB hO hOA hos
  generalize vr 0 0 (xs.drop i) = R at *
  go_enter Try.func64, Try.ntmps64
  go_wp2_with fail
  refine HN.out.mono ?_
  rintro e w1 ⟨z, j, err, rfl, hz, hE1, hm⟩
  have HO1 := Lib.hid (own_eff HO.out hE1 hg)
  have HE1 := Lib.hid (HE.out.trans hE1)
  clear hE1
  cases R with
  | short =>
    obtain ⟨rfl, rfl, rfl⟩ := hm
    go_wp2_with fail
    refine (err_any g _ (i + 0) 3 w1 HE1.out.1).mono ?_
    rintro e w2 ⟨rfl, rfl⟩
    go_wp2_with fail
    refine (err_any g _ (i + 0) 3 w1 HE1.out.1).mono ?_
    rintro e w2 ⟨rfl, rfl⟩
    go_wp2_with fail
    go_ret2
    exact ⟨rfl, HE1.out⟩
  | form =>
    obtain ⟨rfl, rfl, rfl⟩ := hm
    go_wp2_with fail
    refine (err_any g _ (i + 0) 4 w1 HE1.out.1).mono ?_
    rintro e w2 ⟨rfl, rfl⟩
    go_wp2_with fail
    refine (err_any g _ (i + 0) 4 w1 HE1.out.1).mono ?_
    rintro e w2 ⟨rfl, rfl⟩
    go_wp2_with fail
    go_ret2
    exact ⟨rfl, HE1.out⟩
  | ok v' j' =>
    obtain ⟨rfl, rfl, rfl⟩ := hm
    have hw1 : IntKind.u64.wrap (out.length : Int) = (out.length : Int) := by rw [IntKind.wrap_u64]; omega
    go_wp2_with fail
    refine (err_any g _ (i + j) 0 w1 HE1.out.1).mono ?_
    rintro e w2 ⟨rfl, rfl⟩
    by_cases h1 : 4096 ≤ z
    · have k1 : (4096 : Int) ≤ (z : Int) := by omega
      have HP : Hid (4096 ≤ z ∨ out.length ≤ z) := Lib.hid (.inl h1)
      go_wp2_with fail
      go_ret2
      simp only [MatchPost]
      rw [if_pos HP.out]
      exact ⟨rfl, HE1.out⟩
    · have k1 : ¬ (4096 : Int) ≤ (z : Int) := by omega
      by_cases h2 : out.length ≤ z
      · have k2 : (out.length : Int) ≤ (z : Int) := by omega
        have HP : Hid (4096 ≤ z ∨ out.length ≤ z) := Lib.hid (.inr h2)
        go_wp2_with fail
        go_ret2
        simp only [MatchPost]
        rw [if_pos HP.out]
        exact ⟨rfl, HE1.out⟩
      · have k2 : ¬ (out.length : Int) ≤ (z : Int) := by omega
        have HP : Hid (¬ (4096 ≤ z ∨ out.length ≤ z)) := Lib.hid (by omega)
        by_cases h3 : room < (n : Int)
        · have HR := Lib.hid h3
          go_wp2_with fail
          go_ret2
          simp only [MatchPost]
          rw [if_neg HP.out, if_pos HR.out]
          exact ⟨rfl, HE1.out⟩
        · have HR := Lib.hid h3
          go_wp2_with fail
          go_loopw [0, 35] (fun ov iv wr => CpRel W g (.slice A N c) (i + j) out (z + 1) n ov iv wr) (fun _ iv _ => n - (intOf iv).toNat)
          case atStart => exact ⟨0, Nat.zero_le _, rfl, HO1.out, HE1.out⟩
          case round =>
            clear HE1 HO1
            obtain ⟨q, hq, rfl, hOr, hEr⟩ := hrel
            have hcl := rep_len out (z + 1) q
            have hcs := rep_small HOS.out (z + 1) q
            obtain ⟨A5, c5, rfl, hc51, hc52, hA5⟩ := own_shape hOr
            have HOr := Lib.hid hOr; have HEr := Lib.hid hEr; clear hOr hEr
            by_cases hlt : q < n
            · have k3 : (q : Int) < (n : Int) := by omega
              have HST : Hid (rep out (z + 1) (q + 1) = rep out (z + 1) q ++ [(rep out (z + 1) q).getD ((rep out (z + 1) q).length - (z + 1)) 0]) := Lib.hid rfl
              generalize rep out (z + 1) q = cur at *
              obtain ⟨go, rfl, hgo⟩ := hA5 (by omega)
              obtain ⟨p, hp⟩ : ∃ p : Nat, p = cur.length - (z + 1) := ⟨_, rfl⟩
              rw [← hp] at HST
              have hix : (cur.length : Int) - ((z : Int) + 1) = (p : Int) := by omega
              have hp1 : p < cur.length := by omega
              have p0 : (0 : Int) ≤ (p : Int) := by omega
              have p1 : (p : Int) < (cur.length : Int) := by omega
              have cc := (HOr.out.cellAt p (by omega)).trans (c8_at hp1)
              have hxb := small_mem hcs p
              have HP := Lib.hid hp; have HCL := Lib.hid hcl
              have hcb : cur.length ≤ 1001000 := by omega
              clear hp hcl hcs hc51 hc52 hA5
              generalize cur.getD p 0 = x at *
              have HEA := Lib.hid (HEr.out.ext (ext_alloc (Ext.rfl' wr) (.cells #[.int .u8 (x : Int)] 5)))
              have HOA2 := Lib.hid (own_ext HOr.out (ext_alloc (Ext.rfl' wr) (.cells #[.int .u8 (x : Int)] 5)))
              have HSR := Lib.hid (src_one wr x)
              go_wp2_with (at_builtin; refine wpList_app_own rfl (.tmp 37) (.tmp 45) 22 22 rfl 5 i0 (.int .u8 0) 1 1 Try.underlying22 HI.out.1 HI.out.2.1 HI.out.2.2.1 HI.out.2.2.2 rfl W.heap.size _ _ cur.length (c8 cur) rfl rfl HOA2.out 1 (c8 [x]) HSR.out (by unfold maxLen; omega) (by omega) (by have := HEA.out.2.size; omega) ?_; intro v5 w5 hown5 hgr5; have HOW5 := Lib.hid hown5; have HE5 := Lib.hid (Com.eff_app HEA.out HOA2.out hg hgr5); clear hown5 hgr5)
              go_roundw
              case rel => exact ⟨q + 1, by omega, by go_num, by rw [HST.out]; unfold Wire.Own; rw [List.length_append, c8_app]; exact HOW5.out, HE5.out⟩
              case measure => simp [intOf]; omega
            · obtain rfl : q = n := by omega
              generalize hcur : rep out (z + 1) q = cur at *
              have HCUR := Lib.hid hcur; clear hcur hcl hcs hA5
              go_wp2_with fail
              go_ret2
              simp only [MatchPost]
              rw [if_neg HP.out, if_neg (show ¬ room < (q : Int) by omega)]
              exact ⟨⟨_, rfl, by rw [HCUR.out]; exact HOr.out⟩, HEr.out⟩
end Go.Proofs.Ytodmjkhfckokhaa.Lz
