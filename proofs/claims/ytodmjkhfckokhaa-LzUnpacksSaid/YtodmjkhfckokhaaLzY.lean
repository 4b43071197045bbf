/- What any tokens tell: the law, walked. -/
import Derived.Test.YtodmjkhfckokhaaLzW
import Derived.Test.YtodmjkhfckokhaaLzD
namespace Go.Proofs.Ytodmjkhfckokhaa.Lz
open Go.ChangeShapes Go.WideShapes Go.ChangeAt Go.RowKit Go.Shelf
open Go.Proofs.Ytodmjkhfckokhaa.Wire Go.Proofs.Ytodmjkhfckokhaa.Map32
set_option linter.unusedVariables false

theorem refUnpack_any (s0 : ByteArray) (most : Int) (w : World) (hs : s0.size ≤ 1000000) (hm1 : -9223372036854775808 ≤ most) (hm2 : most ≤ 1000000) :
    Calls Try.prog 38 #[.string s0, .int .i64 most] w (RUPost w (unp most.toNat [] (natsOf s0))) := by
  by_cases h : most < 0
  · have h2 := refUnpack_neg s0 most w hs hm1 h
    rwa [← show most.toNat = 0 from by omega] at h2
  · have h2 := refUnpack s0 most.toNat w hs (by omega)
    rwa [show ((most.toNat : Nat) : Int) = most from by omega] at h2
set_option maxHeartbeats 8000000 in
set_option maxRecDepth 100000 in
theorem unpacks (A : Option Addr) (N c : Nat) (xs : List Nat) (most : Int) (w : World) (hB : Bs w A N xs) (hnil : A = none → N = 0 ∧ c = 0) (hN : N ≤ 600) (h1 : -9223372036854775808 ≤ most) (h2 : most ≤ 3000) :
    Calls Try.prog 9 #[.slice A N c, .int .i64 most] w fun e w' => e = .returned (.bool true) ∧ Ext w w' := by
  have hx := hB.2.1
  have hxl : xs.length = N := hB.1
  have HU := Lib.hid (unpack A N c xs most w hB hnil (by omega) h1 (by omega))
  have hsz : (strOf xs).size ≤ 1000000 := by rw [strOf_size]; omega
  have HR : Hid (∀ W, Calls Try.prog 38 #[.string (strOf xs), .int .i64 most] W (RUPost W (unp most.toNat [] xs))) := Lib.hid (fun W => by
    have h := refUnpack_any (strOf xs) most W hsz h1 (by omega)
    rw [nats_strOf hx] at h
    exact h)
  have HB := Lib.hid hB
  clear hB hx hsz hxl hnil
  generalize unp most.toNat [] xs = R at *
  have z1 : ¬ (3000 : Int) < most := by omega
  have e0 : strOf [] = ⟨#[]⟩ := by decide
  cases R with
  | bad f =>
    go_enter Try.func9, Try.ntmps9
    go_wp2_with fail
    refine HU.out.mono ?_
    rintro e w1 ⟨hE1, rfl, hf⟩
    have HE1 := Lib.hid hE1
    have c1 := Com.conv8 (HB.out.ext hE1) c
    generalize strOf xs = S1 at *
    clear hE1 hf
    go_wp2_with fail
    refine (HR.out _).mono ?_
    rintro e w2 ⟨hE2, rfl⟩
    have c2 := Com.conv8 (Bs.none w2 none) 0
    rw [e0] at c2
    have HE2 := Lib.hid (ext_trans HE1.out hE2)
    clear hE2 c1
    go_wp2_with fail
    refine (wakes _).mono ?_
    rintro e w3 ⟨rfl, hE3⟩
    have HE3 := Lib.hid (ext_trans HE2.out hE3)
    clear hE3 c2
    go_wp2_with fail
    go_ret
    exact ⟨rfl, HE3.out⟩
  | ok zs =>
    go_enter Try.func9, Try.ntmps9
    go_wp2_with fail
    refine HU.out.mono ?_
    rintro e w1 ⟨hE1, ⟨v1, rfl, hO1⟩, hz⟩
    obtain ⟨A1, k1, rfl, _⟩ := own_shape hO1
    have B1 := Lib.hid (Own.bs hO1 (small_mem hz))
    have HE1 := Lib.hid hE1
    have c1 := Com.conv8 (HB.out.ext hE1) c
    generalize strOf xs = S1 at *
    clear hE1 hz hO1
    go_wp2_with fail
    refine (HR.out _).mono ?_
    rintro e w2 ⟨hE2, rfl⟩
    have c2 := Com.conv8 (B1.out.ext hE2) k1
    have HE2 := Lib.hid (ext_trans HE1.out hE2)
    generalize strOf zs = S2 at *
    clear hE2 c1
    go_wp2_with fail
    refine (wakes _).mono ?_
    rintro e w3 ⟨rfl, hE3⟩
    have HE3 := Lib.hid (ext_trans HE2.out hE3)
    clear hE3 c2
    go_wp2_with fail
    go_ret
    exact ⟨rfl, HE3.out⟩
end Go.Proofs.Ytodmjkhfckokhaa.Lz
