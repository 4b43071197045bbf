/- Contracts of package wire: a text is read. -/
import Derived.Test.YtodmjkhfckokhaaWireV70
import Derived.Test.YtodmjkhfckokhaaWireR70
import Derived.Test.YtodmjkhfckokhaaWireI
namespace Go.Proofs.Ytodmjkhfckokhaa.Wire
open Go.ChangeShapes Go.WideShapes Go.ChangeAt Go.RowKit
set_option linter.unusedVariables false

/-- What reading a text tells. -/
inductive TR where
  | bad (err : Int)
  | ok (ys : List Nat) (k : Nat)
def tr (rest : List Nat) (most : Int) : TR :=
  match vr 0 0 rest with
  | .short => .bad 3
  | .form => .bad 4
  | .ok z k => if most < 0 ∨ most < (z : Int) then .bad 4 else if rest.length - k < z then .bad 3 else .ok ((rest.drop k).take z) (k + z)
def TPhi (at_ : Nat) (R : TR) (v : Value) (a' : Nat) (err : Int) (w' : World) : Prop :=
  match R with
  | .bad f => err = f
  | .ok ys k => v = .string (strOf ys) ∧ a' = at_ + k ∧ err = 0
theorem bad_of {at_ : Nat} {f : Int} {v : Value} {a' : Nat} {w' : World} {R : TR} (h : R = .bad f) : TPhi at_ R v a' f w' := by subst h; rfl
theorem ok_of {at_ : Nat} {ys : List Nat} {k : Nat} {v : Value} {a' : Nat} {w' : World} {R : TR} (h : R = .ok ys k) (hv : v = .string (strOf ys)) (ha : a' = at_ + k) : TPhi at_ R v a' 0 w' := by subst h; exact ⟨hv, ha, rfl⟩
set_option maxHeartbeats 4000000 in
set_option maxRecDepth 100000 in
theorem text1 (pb rb mb g n c at_ : Nat) (most : Int) (A : Option Addr) (xs : List Nat) (w : World) (hp : w.cell? ⟨pb, 0, none⟩ = some (.pointer (some ⟨g, 0, none⟩))) (hr : w.cell? ⟨rb, 0, none⟩ = some (.pointer (some ⟨g, 0, none⟩))) (hmo : w.cell? ⟨mb, 0, none⟩ = some (.int .i64 most))
    (hpg : pb ≠ g) (hrg : rb ≠ g) (hmg : mb ≠ g) (hm1 : -9223372036854775808 ≤ most) (hm2 : most ≤ 9223372036854775807)
    (h : Rdr w g (.slice A n c) at_ 0) (hB : RB w g A n c xs) (hat : at_ ≤ n) (hn : n ≤ 4000000000) :
    Calls Try.prog 48 #[.func (.func 70) #[] #[.pointer (some ⟨pb, 0, none⟩)], .pointer (some ⟨rb, 0, none⟩), .pointer (some ⟨mb, 0, none⟩)] w (CP w g (.slice A n c) (TPhi at_ (tr (xs.drop at_) most))) := by
  have HC := Lib.hid (varint_70 pb g n c at_ A xs w hp h hB.1 hat hn)
  have HP := Lib.hid hp; have HR := Lib.hid hr; have HMO := Lib.hid hmo; have H := Lib.hid h; have HB := Lib.hid hB; clear hp hmo h hB
  have hxl : (xs.drop at_).length = n - at_ := by rw [List.length_drop, HB.out.1.1]
  have hsm : ∀ c ∈ xs.drop at_, c < 256 := fun c hc => mem_small HB.out.1.2.1 c (List.mem_of_mem_drop hc)
  generalize hV : vr 0 0 (xs.drop at_) = V at *
  have HV := Lib.hid hV; clear hV
  have HXL := Lib.hid hxl; have HSM := Lib.hid hsm; clear hxl hsm
  go_enter Try.func48, Try.ntmps48
  go_wp2_with fail
  refine (HC.out).mono ?_
  rintro e w3 ⟨z, j, err, rfl, hz, hE3, hm⟩
  have p3 := hE3.2.cell HP.out (by simpa using hpg)
  have r3 := hE3.2.cell HR.out (by simpa using hrg)
  have m3 := hE3.2.cell HMO.out (by simpa using hmg)
  obtain ⟨d0, d1, d2, f1, f2⟩ := hE3.1.cells
  have HE3 := Lib.hid hE3; clear hE3
  cases V with
  | short =>
    obtain rfl : err = 3 := hm
    clear hz
    go_wp2_with fail
    go_ret
    exact ⟨_, _, 3, rfl, HE3.out, bad_of (by unfold tr; rw [HV.out])⟩
  | form =>
    obtain rfl : err = 4 := hm
    clear hz
    go_wp2_with fail
    go_ret
    exact ⟨_, _, 4, rfl, HE3.out, bad_of (by unfold tr; rw [HV.out])⟩
  | ok v k =>
    obtain ⟨rfl, rfl, rfl⟩ := hm
    have hk := (vr_ok HSM.out HV.out).2.2.2
    rw [HXL.out] at hk
    by_cases hneg : most < 0
    · clear hz hm2
      go_wp2_with fail
      refine (fail0_70 _ pb g _ (at_ + j) 4 p3 HE3.out.1).mono ?_
      rintro e w4 ⟨rfl, hE4⟩
      have HE4 := Lib.hid hE4; clear hE4
      go_wp2_with fail
      go_ret
      exact ⟨_, _, 4, rfl, HE3.out.trans HE4.out, bad_of (by unfold tr; rw [HV.out]; simp only [if_pos (Or.inl hneg)])⟩
    · obtain ⟨mo, rfl⟩ : ∃ mo : Nat, most = (mo : Int) := ⟨most.toNat, by omega⟩
      have hmo2 : (mo : Int) ≤ 9223372036854775807 := hm2
      by_cases hbig : mo < z
      · have hbig2 : (mo : Int) < (z : Int) := by omega
        have HW : Hid (IntKind.u64.wrap (mo : Int) = (mo : Int)) := Lib.hid (by rw [IntKind.wrap_u64]; omega)
        have HBG : Hid ((mo : Int) < 0 ∨ (mo : Int) < (z : Int)) := Lib.hid (.inr hbig2)
        clear hz
        go_wp2_with fail
        refine (fail0_70 _ pb g _ (at_ + j) 4 p3 HE3.out.1).mono ?_
        rintro e w4 ⟨rfl, hE4⟩
        have HE4 := Lib.hid hE4; clear hE4
        go_wp2_with fail
        go_ret
        exact ⟨_, _, 4, rfl, HE3.out.trans HE4.out, bad_of (by unfold tr; rw [HV.out]; simp only [if_pos HBG.out])⟩
      · have hbig2 : ¬ (mo : Int) < (z : Int) := by omega
        have HNB : Hid (¬ ((mo : Int) < 0 ∨ (mo : Int) < (z : Int))) := Lib.hid (by omega)
        have HB3 := Lib.hid (HB.out.eff HE3.out.2)
        clear hz
        by_cases hsh : n - (at_ + j) < z
        · have HPC := Lib.hid (piece_short_70 pb g n c (at_ + j) z A xs w3 p3 HE3.out.1 (by omega) hn hsh)
          have HSH : Hid ((xs.drop at_).length - j < z) := Lib.hid (by rw [HXL.out]; omega)
          go_wp2_with fail
          refine (HPC.out).mono ?_
          rintro e w4 ⟨rfl, hE4⟩
          have HE4 := Lib.hid hE4; clear hE4
          have hcv := Bs.conv (P := Try.prog) (Bs.none w4 none) 22 5 9 Try.underlying22 Try.underlying5 Try.underlying9 0
          go_wp2_with fail
          go_ret
          exact ⟨_, _, 3, rfl, HE3.out.trans HE4.out, bad_of (by unfold tr; rw [HV.out]; simp only [if_neg HNB.out, if_pos HSH.out])⟩
        · have HPC := Lib.hid (piece_ok g n c (at_ + j) z A (.func (.func 70) #[] #[.pointer (some ⟨pb, 0, none⟩)]) xs w3 HE3.out.1 HB3.out (by omega) hn)
          have HSH : Hid (¬ (xs.drop at_).length - j < z) := Lib.hid (by rw [HXL.out]; omega)
          have HDD : Hid ((xs.drop (at_ + j)).take z = ((xs.drop at_).drop j).take z) := Lib.hid (by rw [List.drop_drop])
          go_wp2_with fail
          refine (HPC.out).mono ?_
          rintro e w4 ⟨A', c', rfl, hc1, hc2, hc3, hB4, hE4⟩
          have hcv := hB4.conv (P := Try.prog) 22 5 9 Try.underlying22 Try.underlying5 Try.underlying9 c'
          have HE4 := Lib.hid hE4; clear hE4 hB4 hc3
          generalize hS : strOf ((xs.drop (at_ + j)).take z) = S at *
          have HS := Lib.hid hS; clear hS
          go_wp2_with fail
          go_ret
          exact ⟨_, _, 0, rfl, HE3.out.trans HE4.out, ok_of (ys := ((xs.drop at_).drop j).take z) (k := j + z) (by unfold tr; rw [HV.out]; simp only [if_neg HNB.out, if_neg HSH.out]) (by rw [← HDD.out, HS.out]; rfl) (by omega)⟩
/-- What Text comes to. -/
def TPost (w : World) (g : Nat) (s : Value) (at_ : Nat) (R : TR) (e : Ending) (w' : World) : Prop :=
  match R with
  | .bad f => e = .returned (.string ⟨#[]⟩) ∧ Eff w w' g s at_ f
  | .ok ys k => e = .returned (.string (strOf ys)) ∧ Eff w w' g s (at_ + k) 0
theorem tr_bad {rest : List Nat} {most : Int} {f : Int} (h : tr rest most = .bad f) : f ≠ 0 := by
  unfold tr at h
  split at h
  · cases h; decide
  · cases h; decide
  · split at h
    · cases h; decide
    · split at h
      · cases h; decide
      · cases h
theorem tpost_of {w w' : World} {g : Nat} {s : Value} {at_ : Nat} {R : TR} (hR : ∀ f, R = .bad f → f ≠ 0) {e : Ending} (h : RP w g s (.string ⟨#[]⟩) at_ (TPhi at_ R) e w') : TPost w g s at_ R e w' := by
  rcases h with ⟨v, a', rfl, hE, hm⟩ | ⟨err, hne, rfl, hE, v0, a0, w0, hm⟩
  · cases R with
    | bad f => exact absurd hm.symm (hR f rfl)
    | ok ys k => obtain ⟨rfl, rfl, _⟩ := hm; exact ⟨rfl, hE⟩
  · cases R with
    | bad f => obtain rfl : err = f := hm; exact ⟨rfl, hE⟩
    | ok ys k => exact absurd hm.2.2 hne
set_option maxHeartbeats 4000000 in
theorem text (g n c at_ : Nat) (most : Int) (hm1 : -9223372036854775808 ≤ most) (hm2 : most ≤ 9223372036854775807) (A : Option Addr) (xs : List Nat) (w : World) (h : Rdr w g (.slice A n c) at_ 0) (hB : RB w g A n c xs) (hat : at_ ≤ n) (hn : n ≤ 4000000000) :
    Calls Try.prog 23 #[.pointer (some ⟨g, 0, none⟩), .int .i64 most] w (TPost w g (.slice A n c) at_ (tr (xs.drop at_) most)) := by
  have hgl : g < w.heap.size := Blk.lt h
  have ha := ext_alloc (Ext.rfl' w) (.cells #[.pointer (some ⟨g, 0, none⟩)] 34)
  have hb := ext_alloc (Ext.rfl' (w.alloc (.cells #[.pointer (some ⟨g, 0, none⟩)] 34))) (.cells #[.int .i64 most] 3)
  have hc := ext_alloc (Ext.rfl' ((w.alloc (.cells #[.pointer (some ⟨g, 0, none⟩)] 34)).alloc (.cells #[.int .i64 most] 3))) (.cells #[.pointer (some ⟨g, 0, none⟩)] 34)
  have HC := Lib.hid (reading_70 g at_ (.slice A n c) (.pointer (some ⟨w.heap.size, 0, none⟩)) (.pointer (some ⟨w.heap.size + 1, 0, none⟩)) (TPhi at_ (tr (xs.drop at_) most)) ((w.alloc (.cells #[.pointer (some ⟨g, 0, none⟩)] 34)).alloc (.cells #[.int .i64 most] 3)) ((h.ext ha).ext hb)
    (text1 ((w.alloc (.cells #[.pointer (some ⟨g, 0, none⟩)] 34)).alloc (.cells #[.int .i64 most] 3)).heap.size w.heap.size (w.heap.size + 1) g n c at_ most A xs _ (by rw [World.cell?_alloc_new]; rfl) (kc hc (kc hb (by rw [World.cell?_alloc_new]; rfl))) (kc hc (by
      have := World.cell?_alloc_new (w.alloc (.cells #[.pointer (some ⟨g, 0, none⟩)] 34)) #[.int .i64 most] 3 0
      rw [World.size_alloc] at this
      rw [this]; rfl)) (by simp; omega) (by omega) (by omega) hm1 hm2 (((h.ext ha).ext hb).ext hc) (((hB.eff (gb_ext ha _)).eff (gb_ext hb _)).eff (gb_ext hc _)) hat hn))
  have HBD := Lib.hid (fun f (hf : tr (xs.drop at_) most = .bad f) => tr_bad hf)
  clear h hB ha hb hc hm1 hm2
  generalize tr (xs.drop at_) most = R at *
  go_enter Try.func23, Try.ntmps23
  go_wp2_with fail
  refine (HC.out).mono ?_
  intro e w3 hq
  have hp := tpost_of HBD.out (rp_alloc _ (rp_alloc _ hq))
  clear hq
  have HP := Lib.hid hp
  cases R with
  | bad f =>
    obtain ⟨rfl, hE⟩ := hp
    clear hE
    go_wp2_with fail
    go_ret
    exact HP.out
  | ok ys k =>
    obtain ⟨rfl, hE⟩ := hp
    clear hE
    generalize hS : strOf ys = S at *
    go_wp2_with fail
    go_ret
    subst hS
    exact HP.out
end Go.Proofs.Ytodmjkhfckokhaa.Wire
