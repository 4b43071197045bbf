/- Contracts of package wire: a number that is not too great is read. -/
import Derived.Test.YtodmjkhfckokhaaWireV68
import Derived.Test.YtodmjkhfckokhaaWireR68
namespace Go.Proofs.Ytodmjkhfckokhaa.Wire
open Go.ChangeShapes Go.WideShapes Go.ChangeAt Go.RowKit
set_option linter.unusedVariables false

def lim : VR → VR
  | .ok v k => if v ≤ 2147483647 then .ok v k else .form
  | r => r
def IPhi (at_ : Nat) (R : VR) (v : Value) (a' : Nat) (err : Int) (w' : World) : Prop :=
  ∃ z : Int, v = .int .i64 z ∧ (match lim R with | .short => err = 3 | .form => err = 4 | .ok k l => z = (k : Int) ∧ a' = at_ + l ∧ err = 0)
set_option maxHeartbeats 4000000 in
set_option maxRecDepth 100000 in
theorem int1 (pb rb g n c at_ : Nat) (A : Option Addr) (xs : List Nat) (w : World) (hp : w.cell? ⟨pb, 0, none⟩ = some (.pointer (some ⟨g, 0, none⟩))) (hr : w.cell? ⟨rb, 0, none⟩ = some (.pointer (some ⟨g, 0, none⟩))) (hpg : pb ≠ g)
    (h : Rdr w g (.slice A n c) at_ 0) (hB : Bs w A n xs) (hat : at_ ≤ n) (hn : n ≤ 4000000000) :
    Calls Try.prog 43 #[.func (.func 68) #[] #[.pointer (some ⟨pb, 0, none⟩)], .pointer (some ⟨rb, 0, none⟩)] w (CP w g (.slice A n c) (IPhi at_ (vr 0 0 (xs.drop at_)))) := by
  have HC := Lib.hid (varint_68 pb g n c at_ A xs w hp h hB hat hn)
  have HP := Lib.hid hp; have H := Lib.hid h; clear hp h hB
  generalize vr 0 0 (xs.drop at_) = R at *
  go_enter Try.func43, Try.ntmps43
  go_wp2_with fail
  refine (HC.out).mono ?_
  rintro e w3 ⟨z, j, err, rfl, hz, hE3, hm⟩
  have p3 := hE3.2.cell HP.out (by simpa using hpg)
  have HE3 := Lib.hid hE3; clear hE3
  clear hz
  cases R with
  | short =>
    obtain rfl : err = 3 := hm
    by_cases hbig : z ≤ 2147483647
    · have hbig2 : ¬ (2147483647 : Int) < (z : Int) := by omega
      go_wp2_with fail
      go_ret
      exact ⟨_, at_ + j, 3, rfl, HE3.out, _, rfl, rfl⟩
    · have hbig2 : (2147483647 : Int) < (z : Int) := by omega
      go_wp2_with fail
      refine (fail1_68 _ pb g _ (at_ + j) 4 3 p3 HE3.out.1 (by decide)).mono ?_
      rintro e w4 ⟨rfl, hE4⟩
      have HE4 := Lib.hid hE4; clear hE4
      go_wp2_with fail
      go_ret
      exact ⟨_, at_ + j, 3, rfl, HE3.out.trans HE4.out, _, rfl, rfl⟩
  | form =>
    obtain rfl : err = 4 := hm
    by_cases hbig : z ≤ 2147483647
    · have hbig2 : ¬ (2147483647 : Int) < (z : Int) := by omega
      go_wp2_with fail
      go_ret
      exact ⟨_, at_ + j, 4, rfl, HE3.out, _, rfl, rfl⟩
    · have hbig2 : (2147483647 : Int) < (z : Int) := by omega
      go_wp2_with fail
      refine (fail1_68 _ pb g _ (at_ + j) 4 4 p3 HE3.out.1 (by decide)).mono ?_
      rintro e w4 ⟨rfl, hE4⟩
      have HE4 := Lib.hid hE4; clear hE4
      go_wp2_with fail
      go_ret
      exact ⟨_, at_ + j, 4, rfl, HE3.out.trans HE4.out, _, rfl, rfl⟩
  | ok v k =>
    obtain ⟨rfl, rfl, rfl⟩ := hm
    by_cases hbig : z ≤ 2147483647
    · have hbig2 : ¬ (2147483647 : Int) < (z : Int) := by omega
      go_wp2_with fail
      go_ret
      exact ⟨_, at_ + j, 0, rfl, HE3.out, (z : Int), rfl, by simp [lim, hbig]⟩
    · have hbig2 : (2147483647 : Int) < (z : Int) := by omega
      go_wp2_with fail
      refine (fail0_68 _ pb g _ (at_ + j) 4 p3 HE3.out.1).mono ?_
      rintro e w4 ⟨rfl, hE4⟩
      have HE4 := Lib.hid hE4; clear hE4
      go_wp2_with fail
      go_ret
      exact ⟨_, at_ + j, 4, rfl, HE3.out.trans HE4.out, _, rfl, by simp only [lim, if_neg hbig]⟩
/-- What Int comes to. -/
def IPost (w : World) (g : Nat) (s : Value) (at_ : Nat) (R : VR) (e : Ending) (w' : World) : Prop :=
  ∃ (z j : Nat) (err : Int), e = .returned (.int .i64 (z : Int)) ∧ z ≤ 2147483647 ∧ Eff w w' g s (at_ + j) err ∧
    (match lim R with | .short => z = 0 ∧ j = 0 ∧ err = 3 | .form => z = 0 ∧ j = 0 ∧ err = 4 | .ok v k => z = v ∧ j = k ∧ err = 0)
theorem lim_le {R : VR} {v k : Nat} (h : lim R = .ok v k) : v ≤ 2147483647 := by
  cases R with
  | short => cases h
  | form => cases h
  | ok a b =>
    simp only [lim] at h
    by_cases hb : a ≤ 2147483647
    · rw [if_pos hb] at h; cases h; exact hb
    · rw [if_neg hb] at h; cases h
theorem ipost_of {w w' : World} {g : Nat} {s : Value} {at_ : Nat} {R : VR} {e : Ending} (h : RP w g s (.int .i64 0) at_ (IPhi at_ R) e w') : IPost w g s at_ R e w' := by
  rcases h with ⟨v, a', rfl, hE, z, rfl, hm⟩ | ⟨err, hne, rfl, hE, v0, a0, w0, z, rfl, hm⟩
  · cases hR : lim R with
    | short => rw [hR] at hm; exact absurd (show (0 : Int) = 3 from hm) (by decide)
    | form => rw [hR] at hm; exact absurd (show (0 : Int) = 4 from hm) (by decide)
    | ok k l =>
      rw [hR] at hm
      obtain ⟨rfl, rfl, _⟩ := hm
      exact ⟨k, l, 0, rfl, lim_le hR, hE, by rw [hR]; exact ⟨rfl, rfl, rfl⟩⟩
  · cases hR : lim R with
    | short => rw [hR] at hm; obtain rfl : err = 3 := hm; exact ⟨0, 0, 3, rfl, by omega, hE, by rw [hR]; exact ⟨rfl, rfl, rfl⟩⟩
    | form => rw [hR] at hm; obtain rfl : err = 4 := hm; exact ⟨0, 0, 4, rfl, by omega, hE, by rw [hR]; exact ⟨rfl, rfl, rfl⟩⟩
    | ok k l => rw [hR] at hm; exact absurd hm.2.2 hne
theorem eff_alloc {w w' : World} {g : Nat} {s : Value} {i : Nat} {e : Int} (o : Obj) (h : Eff (w.alloc o) w' g s i e) : Eff w w' g s i e :=
  ⟨h.1, gb_trans (gb_ext (ext_alloc (Ext.rfl' w) o) _) h.2⟩
theorem rp_alloc {w w' : World} {g : Nat} {s zero : Value} {at_ : Nat} {Φ : Value → Nat → Int → World → Prop} {e : Ending} (o : Obj) (h : RP (w.alloc o) g s zero at_ Φ e w') : RP w g s zero at_ Φ e w' := by
  rcases h with ⟨v, a', he, hE, hm⟩ | ⟨err, hne, he, hE, hm⟩
  · exact .inl ⟨v, a', he, eff_alloc o hE, hm⟩
  · exact .inr ⟨err, hne, he, eff_alloc o hE, hm⟩
set_option maxHeartbeats 4000000 in
theorem int (g n c at_ : Nat) (A : Option Addr) (xs : List Nat) (w : World) (h : Rdr w g (.slice A n c) at_ 0) (hB : Bs w A n xs) (hat : at_ ≤ n) (hn : n ≤ 4000000000) :
    Calls Try.prog 20 #[.pointer (some ⟨g, 0, none⟩)] w (IPost w g (.slice A n c) at_ (vr 0 0 (xs.drop at_))) := by
  have hgl : g < w.heap.size := Blk.lt h
  have ha := ext_alloc (Ext.rfl' w) (.cells #[.pointer (some ⟨g, 0, none⟩)] 34)
  have hb := ext_alloc (Ext.rfl' (w.alloc (.cells #[.pointer (some ⟨g, 0, none⟩)] 34))) (.cells #[.pointer (some ⟨g, 0, none⟩)] 34)
  have HC := Lib.hid (reading_68 g at_ (.slice A n c) (.pointer (some ⟨w.heap.size, 0, none⟩)) (IPhi at_ (vr 0 0 (xs.drop at_))) (w.alloc (.cells #[.pointer (some ⟨g, 0, none⟩)] 34)) (h.ext ha)
    (int1 (w.alloc (.cells #[.pointer (some ⟨g, 0, none⟩)] 34)).heap.size w.heap.size g n c at_ A xs _ (by simp) (kc hb (by simp)) (by simp; omega) ((h.ext ha).ext hb) ((hB.ext ha).ext hb) hat hn))
  clear h hB ha hb
  generalize vr 0 0 (xs.drop at_) = R at *
  go_enter Try.func20, Try.ntmps20
  go_wp2_with fail
  refine (HC.out).mono ?_
  intro e w3 hq
  have hp := ipost_of (rp_alloc _ hq)
  clear hq
  obtain ⟨z, j, err, rfl, hz, hE3, hm⟩ := hp
  have HP : Hid (IPost w g (.slice A n c) at_ R (.returned (.int .i64 (z : Int))) w3) := Lib.hid ⟨z, j, err, rfl, hz, hE3, hm⟩
  clear hz hE3 hm
  go_wp2_with fail
  go_ret
  exact HP.out
theorem int_err (g at_ : Nat) (s : Value) (e0 : Int) (w : World) (h : Rdr w g s at_ e0) (he : (e0 == 0) = false) :
    Calls Try.prog 20 #[.pointer (some ⟨g, 0, none⟩)] w fun e w' => e = .returned (.int .i64 0) ∧ Ext w w' := by
  have ha := ext_alloc (Ext.rfl' w) (.cells #[.pointer (some ⟨g, 0, none⟩)] 34)
  have HC := Lib.hid (fun F => reading_err_68 g at_ s F e0 _ (h.ext ha) he)
  clear h he
  have HA := Lib.hid ha; clear ha
  go_enter Try.func20, Try.ntmps20
  go_wp2_with fail
  refine (HC.out _).mono ?_
  rintro e w3 ⟨rfl, hE3⟩
  have HE3 := Lib.hid hE3; clear hE3
  go_wp2_with fail
  go_ret
  exact ⟨rfl, ext_trans HA.out HE3.out⟩
end Go.Proofs.Ytodmjkhfckokhaa.Wire
