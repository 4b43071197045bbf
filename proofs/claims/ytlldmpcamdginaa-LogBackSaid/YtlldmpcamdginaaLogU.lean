/- A header, a log that came in. -/
import Derived.Test.YtlldmpcamdginaaG8
import Derived.Test.YtlldmpcamdginaaG7
import Derived.Test.YtlldmpcamdginaaG3
import Derived.OpenShut
namespace Go.Proofs.Ytlldmpcamdginaa.Log
open Go.ChangeShapes Go.WideShapes Go.ChangeAt Go.RowKit Go.Deep
open Go.Proofs.Ytlldmpcamdginaa.Rec
set_option linter.unusedVariables false

theorem cellsS : Try.prog.cellsOf 80 = 3 := by kernel_rfl
theorem cellsE : Try.prog.cellsOf 109 = 7 := by kernel_rfl
theorem cellsHd : Try.prog.cellsOf 25 = 6 := by kernel_rfl
theorem list2 {α : Type} : ∀ {l : List α}, l.length = 2 → ∃ a b, l = [a, b]
  | [a, b], _ => ⟨a, b, rfl⟩
theorem list3 {α : Type} : ∀ {l : List α}, l.length = 3 → ∃ a b c, l = [a, b, c]
  | [a, b, c], _ => ⟨a, b, c, rfl⟩
theorem list6 {α : Type} : ∀ {l : List α}, l.length = 6 → ∃ a b c d e f, l = [a, b, c, d, e, f]
  | [a, b, c, d, e, f], _ => ⟨a, b, c, d, e, f, rfl⟩
theorem list7 {α : Type} : ∀ {l : List α}, l.length = 7 → ∃ a b c d e f g, l = [a, b, c, d, e, f, g]
  | [a, b, c, d, e, f, g], _ => ⟨a, b, c, d, e, f, g, rfl⟩
section
variable {H : Type} {enc : TypeId × Value → H} {w : World} {base : Nat} {spare : Nat → Bool} {held : Bool}
set_option maxRecDepth 100000 in
theorem start_of {fuel : Nat} {cs : List Value} {x : DataW H × List MemPlace} (h : DataW.trod enc Try.prog w base spare held fuel 80 cs = some x) (hl : cs.length = 3) : ∃ y, cs = cS y ∧ y.fits := by
  obtain ⟨ys, n', hn', hy, hlen, hyl, hf⟩ := DataW.trod_struct Try.underlying80 h
  obtain ⟨v0, v1, v2, rfl⟩ := list3 hl
  obtain ⟨y0, y1, y2, rfl⟩ := list3 (show ys.length = 3 from hyl)
  obtain ⟨n0, e0, _, w0⟩ := DataW.trod_int Try.underlying5 (hf 0 _ rfl)
  obtain ⟨n1, e1, _, w1⟩ := DataW.trod_int Try.underlying5 (hf 1 _ rfl)
  obtain ⟨n2, e2, _, w2⟩ := DataW.trod_int Try.underlying3 (hf 2 _ rfl)
  have g0 : v0 = .int .u8 n0 := (List.cons.inj e0).1
  have g1 : v1 = .int .u8 n1 := (List.cons.inj e1).1
  have g2 : v2 = .int .i64 n2 := (List.cons.inj e2).1
  obtain ⟨m0, rfl, b0⟩ := nat_u8 (bounds_u8 w0); obtain ⟨m1, rfl, b1⟩ := nat_u8 (bounds_u8 w1)
  have b2 := bounds_i64 w2
  subst g0 g1 g2
  exact ⟨⟨m0, m1, n2⟩, rfl, b0, b1, b2.1, b2.2⟩
set_option maxRecDepth 100000 in
theorem entry_of {fuel : Nat} {cs : List Value} {x : DataW H × List MemPlace} (h : DataW.trod enc Try.prog w base spare held fuel 109 cs = some x) (hl : cs.length = 7) : ∃ y, cs = cV y ∧ y.fits := by
  obtain ⟨ys, n', hn', hy, hlen, hyl, hf⟩ := DataW.trod_struct Try.underlying109 h
  obtain ⟨v0, v1, v2, v3, v4, v5, v6, rfl⟩ := list7 hl
  obtain ⟨y0, y1, rfl⟩ := list2 (show ys.length = 2 from hyl)
  obtain ⟨n0, e0, _, w0⟩ := DataW.trod_int Try.underlying3 (hf 0 _ rfl)
  obtain ⟨zs, n2, hn2, hy2, hlen2, hyl2, hf2⟩ := DataW.trod_struct Try.underlying83 (hf 1 _ rfl)
  obtain ⟨z0, z1, z2, z3, z4, z5, rfl⟩ := list6 (show zs.length = 6 from hyl2)
  obtain ⟨n1, e1, _, w1⟩ := DataW.trod_int Try.underlying5 (hf2 0 _ rfl)
  obtain ⟨n2, e2, _, w2⟩ := DataW.trod_int Try.underlying5 (hf2 1 _ rfl)
  obtain ⟨n3, e3, _, w3⟩ := DataW.trod_int Try.underlying81 (hf2 2 _ rfl)
  obtain ⟨n4, e4, _, w4⟩ := DataW.trod_int Try.underlying81 (hf2 3 _ rfl)
  obtain ⟨n5, e5, _, w5⟩ := DataW.trod_int Try.underlying81 (hf2 4 _ rfl)
  obtain ⟨n6, e6, _, w6⟩ := DataW.trod_int Try.underlying5 (hf2 5 _ rfl)
  have g0 : v0 = .int .i64 n0 := (List.cons.inj e0).1
  have g1 : v1 = .int .u8 n1 := (List.cons.inj e1).1
  have g2 : v2 = .int .u8 n2 := (List.cons.inj e2).1
  have g3 : v3 = .int .u16 n3 := (List.cons.inj e3).1
  have g4 : v4 = .int .u16 n4 := (List.cons.inj e4).1
  have g5 : v5 = .int .u16 n5 := (List.cons.inj e5).1
  have g6 : v6 = .int .u8 n6 := (List.cons.inj e6).1
  obtain ⟨m1, rfl, b1⟩ := nat_u8 (bounds_u8 w1); obtain ⟨m2, rfl, b2⟩ := nat_u8 (bounds_u8 w2); obtain ⟨m3, rfl, b3⟩ := nat_u16 (bounds_u16 w3)
  obtain ⟨m4, rfl, b4⟩ := nat_u16 (bounds_u16 w4); obtain ⟨m5, rfl, b5⟩ := nat_u16 (bounds_u16 w5); obtain ⟨m6, rfl, b6⟩ := nat_u8 (bounds_u8 w6)
  subst g0 g1 g2 g3 g4 g5 g6
  exact ⟨⟨n0, m1, m2, m3, m4, m5, m6⟩, rfl, b1, b2, b3, b4, b5, b6⟩
theorem ents_of {fuel : Nat} {a : Option Addr} {len cap : Nat} {x : DataW H × List MemPlace} (h : DataW.trod enc Try.prog w base spare held fuel 26 [.slice a len cap] = some x) :
    ∃ ls : List Ev, RowR w a len 7 cV ls ∧ (∀ y ∈ ls, y.fits) ∧ cap ≤ maxLen ∧ len ≤ cap :=
  recs_of Try.underlying26 cellsE (by decide) cV_len (fun _ _ _ h hl => entry_of h hl) h
def HdrIn (w : World) (cs : Array Value) (y : Hv) (a : Option Addr) (len cap : Nat) : Prop :=
  cs = cH y (.slice a len cap) ∧ RowR w a len 3 cS y.starts ∧ (∀ u ∈ y.starts, u.fits) ∧ y.seed < 4294967296 ∧ y.tiles.size ≤ 9223372036854775807 ∧ len ≤ 9223372036854775807 ∧
    -9223372036854775808 ≤ y.w ∧ y.w ≤ 9223372036854775807 ∧ -9223372036854775808 ≤ y.h ∧ y.h ≤ 9223372036854775807
set_option maxRecDepth 100000 in
theorem hdr_of {fuel : Nat} {cs : Array Value} {x : DataW H × List MemPlace} (h : DataW.trod enc Try.prog w base spare held fuel 25 cs.toList = some x) (hs : cs.size = Try.prog.cellsOf 25) : ∃ y a len cap, HdrIn w cs y a len cap := by
  rw [cellsHd] at hs
  obtain ⟨ys, n', hn', hy, hlen, hyl, hf⟩ := DataW.trod_struct Try.underlying25 h
  obtain ⟨v0, v1, v2, v3, v4, v5, hv⟩ := list6 (show cs.toList.length = 6 by simpa using hs)
  obtain ⟨y0, y1, y2, y3, y4, y5, rfl⟩ := list6 (show ys.length = 6 from hyl)
  rw [hv] at hf
  obtain ⟨n0, e0, _, w0⟩ := DataW.trod_int Try.underlying3 (hf 0 _ rfl)
  obtain ⟨n1, e1, _, w1⟩ := DataW.trod_int Try.underlying3 (hf 1 _ rfl)
  obtain ⟨n2, e2, _, w2⟩ := DataW.trod_int Try.underlying3 (hf 2 _ rfl)
  obtain ⟨n3, e3, _, w3⟩ := DataW.trod_int Try.underlying22 (hf 3 _ rfl)
  obtain ⟨n4, e4, _, w4⟩ := DataW.trod_string Try.underlying9 (hf 4 _ rfl)
  have h5 : DataW.trod enc Try.prog w base spare held n' 23 [v5] = some y5 := hf 5 _ rfl
  have hsl : ∃ a len cap, v5 = .slice a len cap := by
    rcases open_slice Try.underlying23 h5 with ⟨hcs, _⟩ | ⟨ad, l, c, m, n, D, Pl, hcs, _⟩
    · exact ⟨_, _, _, (List.cons.inj hcs).1⟩
    · exact ⟨_, _, _, (List.cons.inj hcs).1⟩
  obtain ⟨a, len, cap, rfl⟩ := hsl
  obtain ⟨ls, hr, hg, hm, hl⟩ := recs_of Try.underlying23 cellsS (by decide) cS_len (fun _ _ _ h hl => start_of h hl) h5
  have g0 : v0 = .int .i64 n0 := (List.cons.inj e0).1
  have g1 : v1 = .int .i64 n1 := (List.cons.inj e1).1
  have g2 : v2 = .int .i64 n2 := (List.cons.inj e2).1
  have g3 : v3 = .int .u32 n3 := (List.cons.inj e3).1
  have g4 : v4 = .string n4 := (List.cons.inj e4).1
  obtain ⟨m3, rfl, b3⟩ := nat_u32 (bounds_u32 w3)
  have b0 := bounds_i64 w0
  have b1 := bounds_i64 w1
  subst g0 g1 g2 g3 g4
  unfold maxLen at hm w4
  refine ⟨⟨n0, n1, n2, m3, n4, ls⟩, a, len, cap, ?_, hr, hg, b3, by show n4.size ≤ _; omega, by omega, b0.1, b0.2, b1.1, b1.2⟩
  apply Array.ext'
  rw [hv]
  rfl
end
end Go.Proofs.Ytlldmpcamdginaa.Log
