/- Contracts of package fix, behind the root. -/
import Derived.Test.YtdbjknljdplinaaFixA
import Derived.Test.YtdbjknljdplinaaBase
import Derived.BigQuiet
import Derived.Deep.QuietTactic
import Derived.RegionTactic
import Derived.BigRegion
namespace Go.Proofs.Ytdbjknljdplinaa.Fix
open Go.ChangeShapes Go.WideShapes Go.ChangeAt Go.RowKit

abbrev P (x y : Int) : Value := .agg #[.int .i32 x, .int .i32 y]
/-- Is a point one that is asked of? -/
def nearB (x y : Int) : Bool := decide (-1048576 ≤ x ∧ x ≤ 1048576 ∧ -1048576 ≤ y ∧ y ≤ 1048576)
theorem near_yes (x y : Int) (h : -1048576 ≤ x ∧ x ≤ 1048576 ∧ -1048576 ≤ y ∧ y ≤ 1048576) (w : World) :
    Calls Try.prog 60 #[P x y] w fun e w' => e = .returned (.bool true) ∧ Ext w w' := by
  obtain ⟨h1, h2, h3, h4⟩ := h
  go_enter Try.func60, Try.ntmps60
  go_wp2
  go_ret
  exact ⟨rfl, ext_alloc (Ext.rfl' _) _⟩
theorem near_no (x y : Int) (h : ¬ (-1048576 ≤ x ∧ x ≤ 1048576 ∧ -1048576 ≤ y ∧ y ≤ 1048576)) (w : World) :
    Calls Try.prog 60 #[P x y] w fun e w' => e = .returned (.bool false) ∧ Ext w w' := by
  by_cases h1 : -1048576 ≤ x
  · by_cases h2 : x ≤ 1048576
    · by_cases h3 : -1048576 ≤ y
      · have h4 : ¬ y ≤ 1048576 := fun h4 => h ⟨h1, h2, h3, h4⟩
        clear h
        go_enter Try.func60, Try.ntmps60
        go_wp2
        go_ret
        exact ⟨rfl, ext_alloc (Ext.rfl' _) _⟩
      · clear h
        go_enter Try.func60, Try.ntmps60
        go_wp2
        go_ret
        exact ⟨rfl, ext_alloc (Ext.rfl' _) _⟩
    · clear h
      go_enter Try.func60, Try.ntmps60
      go_wp2
      go_ret
      exact ⟨rfl, ext_alloc (Ext.rfl' _) _⟩
  · clear h
    go_enter Try.func60, Try.ntmps60
    go_wp2
    go_ret
    exact ⟨rfl, ext_alloc (Ext.rfl' _) _⟩
abbrev Near (x y : Int) : Prop := -1048576 ≤ x ∧ x ≤ 1048576 ∧ -1048576 ≤ y ∧ y ≤ 1048576
theorem root_at {n r : Nat} {a : Int} (ha : a = (n : Int)) (h : n < 18446744073709551616) (hr : IsRoot n r) (w : World) :
    Calls Try.prog 22 #[.int .u64 a] w fun e w' => e = .returned (.int .u64 (r : Int)) ∧ w = w' := by
  subst ha
  refine (root n h w).mono ?_
  rintro e w' ⟨s, hs, _, rfl, rfl⟩
  rw [isRoot_unique hr hs]
  exact ⟨rfl, rfl⟩
theorem middle_no (x y : Int) (h : x < 0 ∨ 63 < x ∨ y < 0 ∨ 63 < y) (w : World) :
    Calls Try.prog 20 #[.int .i64 x, .int .i64 y] w fun e w' => e = .returned (P 0 0) ∧ Ext w w' := by
  by_cases h1 : x < 0
  · clear h
    go_enter Try.func20, Try.ntmps20
    go_wp2
    exact bodyPost_ret (v := P 0 0) (by simp [results, Try.results20, go_sem]) rfl ⟨rfl, ext_alloc (Ext.rfl' _) _⟩
  · by_cases h2 : 63 < x
    · clear h
      go_enter Try.func20, Try.ntmps20
      go_wp2
      exact bodyPost_ret (v := P 0 0) (by simp [results, Try.results20, go_sem]) rfl ⟨rfl, ext_alloc (Ext.rfl' _) _⟩
    · by_cases h3 : y < 0
      · clear h
        go_enter Try.func20, Try.ntmps20
        go_wp2
        exact bodyPost_ret (v := P 0 0) (by simp [results, Try.results20, go_sem]) rfl ⟨rfl, ext_alloc (Ext.rfl' _) _⟩
      · have h4 : 63 < y := by omega
        clear h
        go_enter Try.func20, Try.ntmps20
        go_wp2
        exact bodyPost_ret (v := P 0 0) (by simp [results, Try.results20, go_sem]) rfl ⟨rfl, ext_alloc (Ext.rfl' _) _⟩
theorem middle_yes (x y : Int) (h1 : 0 ≤ x) (h2 : x ≤ 63) (h3 : 0 ≤ y) (h4 : y ≤ 63) (w : World) :
    Calls Try.prog 20 #[.int .i64 x, .int .i64 y] w fun e w' => e = .returned (P (x * 256 + 128) (y * 256 + 128)) ∧ Ext w w' := by
  go_enter Try.func20, Try.ntmps20
  go_wp2
  exact bodyPost_ret (v := P (x * 256 + 128) (y * 256 + 128)) (by simp [results, Try.results20, go_sem]) rfl ⟨rfl, ext_alloc (Ext.rfl' _) _⟩
theorem far_no (x y u v : Int) (h : ¬ (Near x y ∧ Near u v)) (w : World) :
    Calls Try.prog 15 #[P x y, P u v] w fun e w' => e = .returned (.int .i32 0) ∧ Ext w w' := by
  by_cases hp : Near x y
  · have hq : ¬ Near u v := fun hq => h ⟨hp, hq⟩
    have Hp := Lib.hid hp; have Hq := Lib.hid hq; clear hp hq h
    go_enter Try.func15, Try.ntmps15
    go_wp2_with fail
    refine (near_yes _ _ Hp.out _).mono ?_
    rintro e w1 ⟨rfl, b1⟩
    obtain ⟨c1, f1⟩ := ecell b1
    go_wp2_with fail
    refine (near_no _ _ Hq.out _).mono ?_
    rintro e w2 ⟨rfl, b2⟩
    go_wp2_with fail
    go_ret
    exact ⟨rfl, ext_trans (ext_alloc (ext_alloc (Ext.rfl' _) _) _) (ext_trans b1 b2)⟩
  · have Hp := Lib.hid hp; clear hp h
    go_enter Try.func15, Try.ntmps15
    go_wp2_with fail
    refine (near_no _ _ Hp.out _).mono ?_
    rintro e w1 ⟨rfl, b1⟩
    go_wp2_with fail
    go_ret
    exact ⟨rfl, ext_trans (ext_alloc (ext_alloc (Ext.rfl' _) _) _) b1⟩
end Go.Proofs.Ytdbjknljdplinaa.Fix
