
import Derived.Test.YtidnboeihkeljaaGreatDoorWireV70
import Derived.Test.YtidnboeihkeljaaGreatDoorF02
import Derived.Lib.SlBytesConst
import Derived.Laws.Rows
import Derived.Laws.Tables
set_option maxHeartbeats 16000000
set_option maxRecDepth 100000
set_option linter.all false
open Go.ChangeShapes Go.WideShapes Go.ChangeAt Go.RowKit
namespace Go.Proofs.YtidnboeihkeljaaGreatDoor.Wire
inductive TR where
 | bad (err : Int)
 | ok (ys : List Nat) (k : Nat)
def tr (rest : List Nat) (most : Int) : TR :=
 match vr 0 0 rest with
 | .short => .bad 3
 | .form => .bad 4
 | .ok z k => if most < 0 ∨ most < (z : Int) then .bad 4 else if rest.length - k < z then .bad 3 else .ok ((rest.drop k).take z) (k + z)
def TPhi (at_ : Nat) (R : TR) (v : Value) (a' : Nat) (err : Int) (w' : World) : Prop :=
 match R with
 | .bad f => err = f
 | .ok ys k => v = .string (strOf ys) ∧ a' = at_ + k ∧ err = 0
theorem bad_of {at_ : Nat} {f : Int} {v : Value} {a' : Nat} {w' : World} {R : TR} (h : R = .bad f) : TPhi at_ R v a' f w' := by subst h; rfl
theorem ok_of {at_ : Nat} {ys : List Nat} {k : Nat} {v : Value} {a' : Nat} {w' : World} {R : TR} (h : R = .ok ys k) (hv : v = .string (strOf ys)) (ha : a' = at_ + k) : TPhi at_ R v a' 0 w' := by subst h; exact ⟨hv, ha, rfl⟩
theorem text1 (pb rb mb g n c at_ : Nat) (most : Int) (A : Option Addr) (xs : List Nat) (w : World) (hp : w.cell? ⟨pb, 0, none⟩ = some (.pointer (some ⟨g, 0, none⟩))) (hr : w.cell? ⟨rb, 0, none⟩ = some (.pointer (some ⟨g, 0, none⟩))) (hmo : w.cell? ⟨mb, 0, none⟩ = some (.int .i64 most))
  (hpg : pb ≠ g) (hrg : rb ≠ g) (hmg : mb ≠ g) (hm1 : -9223372036854775808 ≤ most) (hm2 : most ≤ 9223372036854775807)
  (h : Rdr w g (.slice A n c) at_ 0) (hB : RB w g A n c xs) (hat : at_ ≤ n) (hn : n ≤ 4000000000) :
  Calls Tryz.prog 140 #[.func (.func 149) #[] #[.pointer (some ⟨pb, 0, none⟩)], .pointer (some ⟨rb, 0, none⟩), .pointer (some ⟨mb, 0, none⟩)] w (CP w g (.slice A n c) (TPhi at_ (tr (xs.drop at_) most))) := by
 have HC := Lib.hid (varint_70 pb g n c at_ A xs w hp h hB.1 hat hn)
 have HP := Lib.hid hp; have HR := Lib.hid hr; have HMO := Lib.hid hmo; have H := Lib.hid h; have HB := Lib.hid hB; clear hp hmo h hB
 have hxl : (xs.drop at_).length = n - at_ := by rw [List.length_drop, HB.out.1.1]
 have hsm : ∀ c ∈ xs.drop at_, c < 256 := fun c hc => mem_small HB.out.1.2.1 c (List.mem_of_mem_drop hc)
 generalize hV : vr 0 0 (xs.drop at_) = V at *
 have HV := Lib.hid hV; clear hV
 have HXL := Lib.hid hxl; have HSM := Lib.hid hsm; clear hxl hsm
 go_enter Tryz.func140, Tryz.ntmps140
 go_wp2_with fail
 refine (HC.out).mono ?_
 rintro e w3 ⟨z, j, err, rfl, hz, hE3, hm⟩
 have p3 := hE3.2.cell HP.out (by simpa using hpg)
 have r3 := hE3.2.cell HR.out (by simpa using hrg)
 have m3 := hE3.2.cell HMO.out (by simpa using hmg)
 obtain ⟨d0, d1, d2, f1, f2⟩ := hE3.1.cells
 have HE3 := Lib.hid hE3; clear hE3
 cases V with
 | short =>
  obtain rfl : err = 3 := hm
  clear hz
  go_wp2_with fail
  go_ret
  exact ⟨_, _, 3, rfl, HE3.out, bad_of (by unfold tr; rw [HV.out])⟩
 | form =>
  obtain rfl : err = 4 := hm
  clear hz
  go_wp2_with fail
  go_ret
  exact ⟨_, _, 4, rfl, HE3.out, bad_of (by unfold tr; rw [HV.out])⟩
 | ok v k =>
  obtain ⟨rfl, rfl, rfl⟩ := hm
  have hk := (vr_ok HSM.out HV.out).2.2.2
  rw [HXL.out] at hk
  by_cases hneg : most < 0
  ·clear hz hm2
   go_wp2_with fail
   refine (fail0_70 _ pb g _ (at_ + j) 4 p3 HE3.out.1).mono ?_
   rintro e w4 ⟨rfl, hE4⟩
   have HE4 := Lib.hid hE4; clear hE4
   go_wp2_with fail
   go_ret
   exact ⟨_, _, 4, rfl, HE3.out.trans HE4.out, bad_of (by unfold tr; rw [HV.out]; simp only [if_pos (Or.inl hneg)])⟩
  ·obtain ⟨mo, rfl⟩ : ∃ mo : Nat, most = (mo : Int) := ⟨most.toNat, by omega⟩
   have hmo2 : (mo : Int) ≤ 9223372036854775807 := hm2
   by_cases hbig : mo < z
   ·have hbig2 : (mo : Int) < (z : Int) := by omega
    have HW : Hid (IntKind.u64.wrap (mo : Int) = (mo : Int)) := Lib.hid (by rw [IntKind.wrap_u64]; omega)
    have HBG : Hid ((mo : Int) < 0 ∨ (mo : Int) < (z : Int)) := Lib.hid (.inr hbig2)
    clear hz
    go_wp2_with fail
    refine (fail0_70 _ pb g _ (at_ + j) 4 p3 HE3.out.1).mono ?_
    rintro e w4 ⟨rfl, hE4⟩
    have HE4 := Lib.hid hE4; clear hE4
    go_wp2_with fail
    go_ret
    exact ⟨_, _, 4, rfl, HE3.out.trans HE4.out, bad_of (by unfold tr; rw [HV.out]; simp only [if_pos HBG.out])⟩
   ·have hbig2 : ¬ (mo : Int) < (z : Int) := by omega
    have HNB : Hid (¬ ((mo : Int) < 0 ∨ (mo : Int) < (z : Int))) := Lib.hid (by omega)
    have HB3 := Lib.hid (HB.out.eff HE3.out.2)
    clear hz
    by_cases hsh : n - (at_ + j) < z
    ·have HPC := Lib.hid (piece_short_70 pb g n c (at_ + j) z A xs w3 p3 HE3.out.1 (by omega) hn hsh)
     have HSH : Hid ((xs.drop at_).length - j < z) := Lib.hid (by rw [HXL.out]; omega)
     go_wp2_with fail
     refine (HPC.out).mono ?_
     rintro e w4 ⟨rfl, hE4⟩
     have HE4 := Lib.hid hE4; clear hE4
     have hcv := Bs.conv (P := Tryz.prog) (Bs.none w4 none) 48 5 9 Tryz.underlying48 Tryz.underlying5 Tryz.underlying9 0
     go_wp2_with fail
     go_ret
     exact ⟨_, _, 3, rfl, HE3.out.trans HE4.out, bad_of (by unfold tr; rw [HV.out]; simp only [if_neg HNB.out, if_pos HSH.out])⟩
    ·have HPC := Lib.hid (piece_ok g n c (at_ + j) z A (.func (.func 149) #[] #[.pointer (some ⟨pb, 0, none⟩)]) xs w3 HE3.out.1 HB3.out (by omega) hn)
     have HSH : Hid (¬ (xs.drop at_).length - j < z) := Lib.hid (by rw [HXL.out]; omega)
     have HDD : Hid ((xs.drop (at_ + j)).take z = ((xs.drop at_).drop j).take z) := Lib.hid (by rw [List.drop_drop])
     go_wp2_with fail
     refine (HPC.out).mono ?_
     rintro e w4 ⟨A', c', rfl, hc1, hc2, hc3, hB4, hE4⟩
     have hcv := hB4.conv (P := Tryz.prog) 48 5 9 Tryz.underlying48 Tryz.underlying5 Tryz.underlying9 c'
     have HE4 := Lib.hid hE4; clear hE4 hB4 hc3
     generalize hS : strOf ((xs.drop (at_ + j)).take z) = S at *
     have HS := Lib.hid hS; clear hS
     go_wp2_with fail
     go_ret
     exact ⟨_, _, 0, rfl, HE3.out.trans HE4.out, ok_of (ys := ((xs.drop at_).drop j).take z) (k := j + z) (by unfold tr; rw [HV.out]; simp only [if_neg HNB.out, if_neg HSH.out]) (by rw [← HDD.out, HS.out]; rfl) (by omega)⟩
def TPost (w : World) (g : Nat) (s : Value) (at_ : Nat) (R : TR) (e : Ending) (w' : World) : Prop :=
 match R with
 | .bad f => e = .returned (.string ⟨#[]⟩) ∧ Eff w w' g s at_ f
 | .ok ys k => e = .returned (.string (strOf ys)) ∧ Eff w w' g s (at_ + k) 0
theorem tr_bad {rest : List Nat} {most : Int} {f : Int} (h : tr rest most = .bad f) : f ≠ 0 := by
 unfold tr at h
 split at h
 ·cases h; decide
 ·cases h; decide
 ·split at h
  ·cases h; decide
  ·split at h
   ·cases h; decide
   ·cases h
theorem tpost_of {w w' : World} {g : Nat} {s : Value} {at_ : Nat} {R : TR} (hR : ∀ f, R = .bad f → f ≠ 0) {e : Ending} (h : RP w g s (.string ⟨#[]⟩) at_ (TPhi at_ R) e w') : TPost w g s at_ R e w' := by
 rcases h with ⟨v, a', rfl, hE, hm⟩ | ⟨err, hne, rfl, hE, v0, a0, w0, hm⟩
 ·cases R with
  | bad f => exact absurd hm.symm (hR f rfl)
  | ok ys k => obtain ⟨rfl, rfl, _⟩ := hm; exact ⟨rfl, hE⟩
 ·cases R with
  | bad f => obtain rfl : err = f := hm; exact ⟨rfl, hE⟩
  | ok ys k => exact absurd hm.2.2 hne
theorem text (g n c at_ : Nat) (most : Int) (hm1 : -9223372036854775808 ≤ most) (hm2 : most ≤ 9223372036854775807) (A : Option Addr) (xs : List Nat) (w : World) (h : Rdr w g (.slice A n c) at_ 0) (hB : RB w g A n c xs) (hat : at_ ≤ n) (hn : n ≤ 4000000000) :
  Calls Tryz.prog 118 #[.pointer (some ⟨g, 0, none⟩), .int .i64 most] w (TPost w g (.slice A n c) at_ (tr (xs.drop at_) most)) := by
 have hgl : g < w.heap.size := Blk.lt h
 have ha := ext_alloc (Ext.rfl' w) (.cells #[.pointer (some ⟨g, 0, none⟩)] 145)
 have hb := ext_alloc (Ext.rfl' (w.alloc (.cells #[.pointer (some ⟨g, 0, none⟩)] 145))) (.cells #[.int .i64 most] 3)
 have hc := ext_alloc (Ext.rfl' ((w.alloc (.cells #[.pointer (some ⟨g, 0, none⟩)] 145)).alloc (.cells #[.int .i64 most] 3))) (.cells #[.pointer (some ⟨g, 0, none⟩)] 145)
 have HC := Lib.hid (reading_70 g at_ (.slice A n c) (.pointer (some ⟨w.heap.size, 0, none⟩)) (.pointer (some ⟨w.heap.size + 1, 0, none⟩)) (TPhi at_ (tr (xs.drop at_) most)) ((w.alloc (.cells #[.pointer (some ⟨g, 0, none⟩)] 145)).alloc (.cells #[.int .i64 most] 3)) ((h.ext ha).ext hb)
  (text1 ((w.alloc (.cells #[.pointer (some ⟨g, 0, none⟩)] 145)).alloc (.cells #[.int .i64 most] 3)).heap.size w.heap.size (w.heap.size + 1) g n c at_ most A xs _ (by rw [World.cell?_alloc_new]; rfl) (kc hc (kc hb (by rw [World.cell?_alloc_new]; rfl))) (kc hc (by
   have := World.cell?_alloc_new (w.alloc (.cells #[.pointer (some ⟨g, 0, none⟩)] 145)) #[.int .i64 most] 3 0
   rw [World.size_alloc] at this
   rw [this]; rfl)) (by simp; omega) (by omega) (by omega) hm1 hm2 (((h.ext ha).ext hb).ext hc) (((hB.eff (gb_ext ha _)).eff (gb_ext hb _)).eff (gb_ext hc _)) hat hn))
 have HBD := Lib.hid (fun f (hf : tr (xs.drop at_) most = .bad f) => tr_bad hf)
 clear h hB ha hb hc hm1 hm2
 generalize tr (xs.drop at_) most = R at *
 go_enter Tryz.func118, Tryz.ntmps118
 go_wp2_with fail
 refine (HC.out).mono ?_
 intro e w3 hq
 have hp := tpost_of HBD.out (rp_alloc _ (rp_alloc _ hq))
 clear hq
 have HP := Lib.hid hp
 cases R with
 | bad f =>
  obtain ⟨rfl, hE⟩ := hp
  clear hE
  go_wp2_with fail
  go_ret
  exact HP.out
 | ok ys k =>
  obtain ⟨rfl, hE⟩ := hp
  clear hE
  generalize hS : strOf ys = S at *
  go_wp2_with fail
  go_ret
  subst hS
  exact HP.out
end Go.Proofs.YtidnboeihkeljaaGreatDoor.Wire
namespace Go.Proofs.YtidnboeihkeljaaGreatDoor.Wire

theorem bs_new (w : World) (t : TypeId) (fr : Nat × Nat) (xs : List Nat) (hb : ∀ j, xs.getD j 0 < 256) : Bs (w.alloc (.cells ((xs.map fun x => Value.int .u8 (x : Nat)).toArray) t fr)) (some ⟨w.heap.size, 0, none⟩) xs.length xs :=
 ⟨rfl, hb, fun _ => ⟨w.heap.size, 0, rfl, by simp, fun j hj => by
  rw [Nat.zero_add, World.cell?_alloc_mark]
  simp [List.getD_eq_getElem?_getD, List.getElem?_eq_getElem hj]⟩⟩
end Go.Proofs.YtidnboeihkeljaaGreatDoor.Wire
namespace Go.Proofs.YtidnboeihkeljaaGreatDoor.Wire
def GotF (base : Nat) (w' : World) (ys : List Nat) (v : Value) : Prop := ∃ (A' : Option Addr) (c' : Nat), v = .slice A' ys.length c' ∧ ys.length ≤ c' ∧ c' ≤ 9223372036854775807 ∧ (A' = none → ys.length = 0 ∧ c' = 0) ∧ Bs w' A' ys.length ys ∧ (0 < ys.length → ∀ a, A' = some a → base ≤ a.block)
def BPhiF (base : Nat) (at_ : Nat) (rest : List Nat) (m : Int) (v : Value) (a' : Nat) (err : Int) (w' : World) : Prop :=
 (m < 0 ∧ err = 4) ∨ (0 ≤ m ∧ (rest.length : Int) < m ∧ err = 3) ∨ (0 ≤ m ∧ m ≤ (rest.length : Int) ∧ GotF base w' (rest.take m.toNat) v ∧ a' = at_ + m.toNat ∧ err = 0)
theorem bytesF1 (base : Nat) (pb mb rb g n c at_ : Nat) (m : Int) (A : Option Addr) (xs : List Nat) (w : World) (hp : w.cell? ⟨pb, 0, none⟩ = some (.pointer (some ⟨g, 0, none⟩))) (hbase : base ≤ w.heap.size) (hr : w.cell? ⟨rb, 0, none⟩ = some (.pointer (some ⟨g, 0, none⟩))) (hmo : w.cell? ⟨mb, 0, none⟩ = some (.int .i64 m))
  (hm1 : -9223372036854775808 ≤ m) (hm2 : m ≤ 9223372036854775807)
  (h : Rdr w g (.slice A n c) at_ 0) (hB : RB w g A n c xs) (hat : at_ ≤ n) (hn : n ≤ 4000000000) :
  Calls Tryz.prog 148 #[.func (.func 152) #[] #[.pointer (some ⟨pb, 0, none⟩)], .pointer (some ⟨mb, 0, none⟩), .pointer (some ⟨rb, 0, none⟩)] w (CP w g (.slice A n c) (BPhiF base at_ (xs.drop at_) m)) := by
 have hxl : (xs.drop at_).length = n - at_ := by rw [List.length_drop, hB.1.1]
 by_cases hneg : m < 0
 ·have HP := Lib.hid hp; have H := Lib.hid h
  have HF : Hid (∀ v a' w', BPhiF base at_ (xs.drop at_) m v a' 4 w') := Lib.hid (fun _ _ _ => .inl ⟨hneg, rfl⟩)
  clear hp h hB hxl hm2
  generalize BPhiF base at_ (xs.drop at_) m = Φ at *
  go_enter Tryz.func148, Tryz.ntmps148
  go_wp2_with fail
  refine (fail0_71 _ pb g _ at_ 4 HP.out H.out).mono ?_
  rintro e w3 ⟨rfl, hE3⟩
  have HE3 := Lib.hid hE3; clear hE3
  go_wp2_with fail
  go_ret
  exact ⟨_, _, 4, rfl, HE3.out, HF.out _ _ _⟩
 ·obtain ⟨k, rfl⟩ : ∃ k : Nat, m = (k : Int) := ⟨m.toNat, by omega⟩
  have hk1 : ¬ (k : Int) < 0 := hneg
  by_cases hsh : n - at_ < k
  ·have HC := Lib.hid (piece_short_71 pb g n c at_ k A xs w hp h hat hn hsh)
   have HF : Hid (∀ v a' w', BPhiF base at_ (xs.drop at_) (k : Int) v a' 3 w') := Lib.hid (fun _ _ _ => .inr (.inl ⟨by omega, by omega, rfl⟩))
   clear hp h hB hxl
   generalize BPhiF base at_ (xs.drop at_) (k : Int) = Φ at *
   go_enter Tryz.func148, Tryz.ntmps148
   go_wp2_with fail
   refine (HC.out).mono ?_
   rintro e w3 ⟨rfl, hE3⟩
   have HE3 := Lib.hid hE3; clear hE3
   go_wp2_with fail
   refine (clone none 0 0 [] w3 (Bs.none _ _) (fun _ => ⟨rfl, rfl⟩) (by omega)).mono ?_
   rintro e w4 ⟨A', c', rfl, _, _, _, _, _, hE⟩
   have HE4 := Lib.hid hE; clear hE
   go_wp2_with fail
   go_ret
   exact ⟨_, _, 3, rfl, HE3.out.ext HE4.out, HF.out _ _ _⟩
  ·have HC := Lib.hid (piece_ok g n c at_ k A (.func (.func 152) #[] #[.pointer (some ⟨pb, 0, none⟩)]) xs w h hB (by omega) hn)
   have HL : Hid (((xs.drop at_).take k).length = k) := Lib.hid (by rw [List.length_take]; omega)
   have HF : Hid (∀ v w', GotF base w' ((xs.drop at_).take k) v → BPhiF base at_ (xs.drop at_) (k : Int) v (at_ + k) 0 w') := Lib.hid (fun _ _ hg => .inr (.inr ⟨by omega, by omega, by rw [Int.toNat_natCast]; exact hg, by rw [Int.toNat_natCast], rfl⟩))
   clear hp h hB hxl
   generalize BPhiF base at_ (xs.drop at_) (k : Int) = Φ at *
   generalize (xs.drop at_).take k = ys at *
   go_enter Tryz.func148, Tryz.ntmps148
   go_wp2_with fail
   refine (HC.out).mono ?_
   rintro e w3 ⟨A', c', rfl, hc1, hc2, hc3, hB3, hE3⟩
   have HB3 := Lib.hid hB3; have HC3 := Lib.hid hc3
   have HE3 := Lib.hid hE3; clear hE3 hB3 hc3
   go_wp2_with fail
   refine (clone A' k c' ys w3 HB3.out HC3.out (by omega)).mono ?_
   rintro e w4 ⟨A4, c4, rfl, h1, h2, h3, h4, hB4, hE⟩
   have HE4 := Lib.hid hE; have HB4 := Lib.hid hB4; have H3 := Lib.hid h3; have H4 := Lib.hid h4; clear hE hB4 h3 h4
   go_wp2_with fail
   go_ret
   have hg : GotF base w4 ys (.slice A4 k c4) := ⟨A4, c4, by rw [HL.out], by rw [HL.out]; exact h1, h2, by rw [HL.out]; exact H3.out, by rw [HL.out]; exact HB4.out, by rw [HL.out]; exact fun hp a ha => Nat.le_trans (Nat.le_trans hbase HE3.out.2.size) (H4.out hp a ha)⟩
   exact ⟨_, _, 0, rfl, HE3.out.ext HE4.out, HF.out _ _ hg⟩
def BPostF (w : World) (g : Nat) (s : Value) (at_ : Nat) (rest : List Nat) (m : Int) (e : Ending) (w' : World) : Prop :=
 (m < 0 ∧ e = .returned (.slice none 0 0) ∧ Eff w w' g s at_ 4) ∨ (0 ≤ m ∧ (rest.length : Int) < m ∧ e = .returned (.slice none 0 0) ∧ Eff w w' g s at_ 3) ∨
 (0 ≤ m ∧ m ≤ (rest.length : Int) ∧ (∃ v, e = .returned v ∧ GotF w.heap.size w' (rest.take m.toNat) v) ∧ Eff w w' g s (at_ + m.toNat) 0)
theorem bpostF_of {w w' : World} {g : Nat} {s : Value} {at_ : Nat} {rest : List Nat} {m : Int} {e : Ending} (h : RP w g s (.slice none 0 0) at_ (BPhiF w.heap.size at_ rest m) e w') : BPostF w g s at_ rest m e w' := by
 rcases h with ⟨v, a', rfl, hE, ⟨_, h2⟩ | ⟨_, _, h2⟩ | ⟨h1, h2, h3, rfl, _⟩⟩ | ⟨err, hne, rfl, hE, v0, a0, w0, ⟨h1, h2⟩ | ⟨h1, h2, h3⟩ | ⟨_, _, _, _, h2⟩⟩
 ·exact absurd h2 (by decide)
 ·exact absurd h2 (by decide)
 ·exact .inr (.inr ⟨h1, h2, ⟨v, rfl, h3⟩, hE⟩)
 ·subst h2; exact .inl ⟨h1, rfl, hE⟩
 ·subst h3; exact .inr (.inl ⟨h1, h2, rfl, hE⟩)
 ·exact absurd h2 hne
theorem bytesF (g n c at_ : Nat) (m : Int) (hm1 : -9223372036854775808 ≤ m) (hm2 : m ≤ 9223372036854775807) (A : Option Addr) (xs : List Nat) (w : World) (h : Rdr w g (.slice A n c) at_ 0) (hB : RB w g A n c xs) (hat : at_ ≤ n) (hn : n ≤ 4000000000) :
  Calls Tryz.prog 132 #[.pointer (some ⟨g, 0, none⟩), .int .i64 m] w (BPostF w g (.slice A n c) at_ (xs.drop at_) m) := by
 have ha := ext_alloc (Ext.rfl' w) (.cells #[.pointer (some ⟨g, 0, none⟩)] 145)
 have hb := ext_alloc (Ext.rfl' (w.alloc (.cells #[.pointer (some ⟨g, 0, none⟩)] 145))) (.cells #[.int .i64 m] 3)
 have hc := ext_alloc (Ext.rfl' ((w.alloc (.cells #[.pointer (some ⟨g, 0, none⟩)] 145)).alloc (.cells #[.int .i64 m] 3))) (.cells #[.pointer (some ⟨g, 0, none⟩)] 145)
 have HC := Lib.hid (reading_71 g at_ (.slice A n c) (.pointer (some ⟨w.heap.size + 1, 0, none⟩)) (.pointer (some ⟨w.heap.size, 0, none⟩)) (BPhiF w.heap.size at_ (xs.drop at_) m) ((w.alloc (.cells #[.pointer (some ⟨g, 0, none⟩)] 145)).alloc (.cells #[.int .i64 m] 3)) ((h.ext ha).ext hb)
  (bytesF1 w.heap.size ((w.alloc (.cells #[.pointer (some ⟨g, 0, none⟩)] 145)).alloc (.cells #[.int .i64 m] 3)).heap.size (w.heap.size + 1) w.heap.size g n c at_ m A xs _ (by rw [World.cell?_alloc_new]; rfl) (by simp only [World.size_alloc]; omega) (kc hc (kc hb (by rw [World.cell?_alloc_new]; rfl))) (kc hc (by
   have := World.cell?_alloc_new (w.alloc (.cells #[.pointer (some ⟨g, 0, none⟩)] 145)) #[.int .i64 m] 3 0
   rw [World.size_alloc] at this
   rw [this]; rfl)) hm1 hm2 (((h.ext ha).ext hb).ext hc) (((hB.eff (gb_ext ha _)).eff (gb_ext hb _)).eff (gb_ext hc _)) hat hn))
 clear h hB ha hb hc hm1 hm2
 generalize xs.drop at_ = rest at *
 go_enter Tryz.func132, Tryz.ntmps132
 go_wp2_with fail
 refine (HC.out).mono ?_
 intro e w3 hq
 have hp := bpostF_of (rp_alloc _ (rp_alloc _ hq))
 clear hq
 have HP := Lib.hid hp
 rcases hp with ⟨h1, rfl, hE⟩ | ⟨h1, h2, rfl, hE⟩ | ⟨h1, h2, ⟨v, rfl, h3⟩, hE⟩
 ·clear h1 hE
  go_wp2_with fail
  go_ret
  exact HP.out
 ·clear h1 h2 hE
  go_wp2_with fail
  go_ret
  exact HP.out
 ·clear h1 h2 h3 hE
  go_wp2_with fail
  go_ret
  exact HP.out
def OPostF (w : World) (n : Nat) (xs : List Nat) (e : Ending) (w' : World) : Prop :=
 ∃ (g : Nat) (A' : Option Addr) (c' : Nat), e = .returned (.pointer (some ⟨g, 0, none⟩)) ∧ w.heap.size ≤ g ∧ Rdr w' g (.slice A' n c') 0 0 ∧ RB w' g A' n c' xs ∧ Ext w w' ∧ (0 < n → ∀ a, A' = some a → w.heap.size ≤ a.block)
theorem ofF (A : Option Addr) (n c : Nat) (xs : List Nat) (w : World) (hB : Bs w A n xs) (hnil : A = none → n = 0 ∧ c = 0) (hn : n ≤ 4000000000) :
  Calls Tryz.prog 79 #[.slice A n c] w (OPostF w n xs) := by
 have HC := Lib.hid (clone A n c xs w hB hnil hn)
 clear hB hnil
 go_enter Tryz.func79, Tryz.ntmps79
 go_wp2_with fail
 refine (HC.out).mono ?_
 rintro e w1 ⟨A', c', rfl, h1, h2, h3, h4, hB, hE⟩
 have HB := Lib.hid hB; have HE := Lib.hid hE; have H3 := Lib.hid h3; have H4 := Lib.hid h4; clear hB hE h3 h4
 go_wp2_with fail
 go_ret
 refine ⟨w1.heap.size, A', c', rfl, HE.out.size, Blk.new _ _ _, ⟨HB.out.ext (ext_alloc (Ext.rfl' _) _), h1, h2, H3.out, fun hp a ha => ?_⟩, ext_alloc HE.out _, H4.out⟩
 obtain ⟨b, o, e, hl, _⟩ := HB.out.2.2 hp
 obtain rfl := Option.some.inj (ha.symm.trans e)
 exact Nat.ne_of_lt hl
theorem bytes_err (g at_ : Nat) (s : Value) (m e0 : Int) (w : World) (h : Rdr w g s at_ e0) (he : (e0 == 0) = false) :
  Calls Tryz.prog 132 #[.pointer (some ⟨g, 0, none⟩), .int .i64 m] w fun e w' => e = .returned (.slice none 0 0) ∧ Ext w w' := by
 have ha := ext_alloc (Ext.rfl' w) (.cells #[.pointer (some ⟨g, 0, none⟩)] 145)
 have hb := ext_alloc (Ext.rfl' (w.alloc (.cells #[.pointer (some ⟨g, 0, none⟩)] 145))) (.cells #[.int .i64 m] 3)
 have HC := Lib.hid (fun F => reading_err_71 g at_ s F e0 _ ((h.ext ha).ext hb) he)
 have HA := Lib.hid (ext_trans ha hb); clear ha hb h he
 go_enter Tryz.func132, Tryz.ntmps132
 go_wp2_with fail
 refine (HC.out _).mono ?_
 rintro e w3 ⟨rfl, hE3⟩
 have HE3 := Lib.hid hE3; clear hE3
 go_wp2_with fail
 go_ret
 exact ⟨rfl, ext_trans HA.out HE3.out⟩
theorem fixed_err (g at_ : Nat) (s : Value) (e0 : Int) (w : World) (h : Rdr w g s at_ e0) (he : (e0 == 0) = false) :
  Calls Tryz.prog 119 #[.pointer (some ⟨g, 0, none⟩)] w fun e w' => e = .returned (.int .u32 0) ∧ Ext w w' := by
 have ha := ext_alloc (Ext.rfl' w) (.cells #[.pointer (some ⟨g, 0, none⟩)] 145)
 have HC := Lib.hid (fun F => reading_err_69 g at_ s F e0 _ (h.ext ha) he)
 clear h he
 have HA := Lib.hid ha; clear ha
 go_enter Tryz.func119, Tryz.ntmps119
 go_wp2_with fail
 refine (HC.out _).mono ?_
 rintro e w3 ⟨rfl, hE3⟩
 have HE3 := Lib.hid hE3; clear hE3
 go_wp2_with fail
 go_ret
 exact ⟨rfl, ext_trans HA.out HE3.out⟩
theorem bs_rdr {w : World} {g at_ n : Nat} {s : Value} {e : Int} {A : Option Addr} {xs : List Nat} (h : Rdr w g s at_ e) (hs : ∀ k x, s ≠ .int k x) (hB : Bs w A n xs) (hp : 0 < n) : ∀ a, A = some a → a.block ≠ g := by
 intro a ha
 obtain ⟨b, o, e1, hl, hc⟩ := hB.2.2 hp
 obtain rfl := Option.some.inj (ha.symm.trans e1)
 show b ≠ g
 rintro rfl
 have h1 := hc 0 hp
 have h2 := Blk.cell h o
 rw [Nat.add_zero, h2] at h1
 rcases o with _ | _ | _ | o
 ·simp at h1; exact hs _ _ h1
 ·simp at h1
 ·simp at h1
 ·simp at h1
end Go.Proofs.YtidnboeihkeljaaGreatDoor.Wire
namespace Go.Proofs.YtidnboeihkeljaaGreatDoor.Rec
variable {α : Type}
def RowR (w : World) (A : Option Addr) (n k : Nat) (f : α → List Value) (xs : List α) : Prop :=
 xs.length = n ∧ (0 < n → ∃ b o, A = some ⟨b, o, none⟩ ∧ b < w.heap.size ∧ ∀ j (hj : j < xs.length) i, i < k → w.cell? ⟨b, o + j * k + i, none⟩ = (f xs[j])[i]?)
theorem RowR.nil (w : World) (A : Option Addr) (k : Nat) (f : α → List Value) : RowR w A 0 k f [] := ⟨rfl, fun h => absurd h (by omega)⟩
theorem RowR.keep {w w' : World} {A : Option Addr} {n k : Nat} {f : α → List Value} {xs : List α} (h : RowR w A n k f xs) (hs : w.heap.size ≤ w'.heap.size) (hk : ∀ a, A = some a → 0 < n → w'.heap[a.block]? = w.heap[a.block]?) : RowR w' A n k f xs := by
 refine ⟨h.1, fun hp => ?_⟩
 obtain ⟨b, o, e, hb, hc⟩ := h.2 hp
 exact ⟨b, o, e, Nat.lt_of_lt_of_le hb hs, fun j hj i hi => (World.cell?_of_block (a := ⟨b, o + j * k + i, none⟩) (show w'.heap[b]? = w.heap[b]? from hk ⟨b, o, none⟩ e hp)).trans (hc j hj i hi)⟩
theorem RowR.ext {w w' : World} {A : Option Addr} {n k : Nat} {f : α → List Value} {xs : List α} (h : RowR w A n k f xs) (e : Ext w w') : RowR w' A n k f xs := by
 refine h.keep e.size (fun a ha hp => ?_)
 obtain ⟨b, o, e1, hb, hc⟩ := h.2 hp
 obtain rfl := Option.some.inj (ha.symm.trans e1)
 exact e.block b hb
theorem RowR.grown {w w' : World} {A : Option Addr} {n k : Nat} {r : Option Nat} {f : α → List Value} {xs : List α} (h : RowR w A n k f xs) (e : w.grownBy w' r) (hr : ∀ a, A = some a → 0 < n → some a.block ≠ r) : RowR w' A n k f xs := by
 refine h.keep e.size (fun a ha hp => ?_)
 obtain ⟨b, o, e1, hb, hc⟩ := h.2 hp
 have := hr a ha hp
 obtain rfl := Option.some.inj (ha.symm.trans e1)
 exact e.block b hb this
theorem flat_len {k : Nat} {f : α → List Value} (hf : ∀ x, (f x).length = k) : ∀ xs : List α, (xs.flatMap f).length = xs.length * k
 | [] => by simp
 | x :: xs => by rw [List.flatMap_cons, List.length_append, hf, flat_len hf xs, List.length_cons, Nat.succ_mul, Nat.add_comm]
theorem flat_get {k : Nat} {f : α → List Value} (hf : ∀ x, (f x).length = k) : ∀ (xs : List α) (j : Nat) (hj : j < xs.length) (i : Nat), i < k → (xs.flatMap f)[j * k + i]? = (f xs[j])[i]?
 | [], j, hj, _, _ => absurd hj (by simp)
 | x :: xs, 0, hj, i, hi => by
  rw [List.flatMap_cons, List.getElem?_append_left (by rw [hf]; omega)]; simp
 | x :: xs, j + 1, hj, i, hi => by
  rw [List.flatMap_cons, List.getElem?_append_right (by rw [hf, Nat.succ_mul]; omega), hf, show (j + 1) * k + i - k = j * k + i by rw [Nat.succ_mul]; omega, flat_get hf xs j (by simpa using hj) i hi]
  rfl
def OwnR (base : Nat) (w : World) (e : TypeId) (k : Nat) (f : α → List Value) (v : Value) (xs : List α) : Prop := w.ownsRow base e k v xs.length (xs.flatMap f)
theorem OwnR.nil (base : Nat) (w : World) (e : TypeId) (k : Nat) (f : α → List Value) : OwnR base w e k f (.slice none 0 0) ([] : List α) := World.ownsRow_nil w base e k
theorem OwnR.ext {base : Nat} {w w' : World} {e : TypeId} {k : Nat} {f : α → List Value} {v : Value} {xs : List α} (h : OwnR base w e k f v xs) (hE : Ext w w') : OwnR base w' e k f v xs := by
 refine World.ownsRow.kept h (row := none) ⟨hE.os, hE.tape, hE.output, hE.size, fun k hk _ => hE.block k hk⟩ ?_
 cases v.ownBlock <;> simp
theorem OwnR.grown {base : Nat} {w w' : World} {e : TypeId} {k : Nat} {f : α → List Value} {v : Value} {xs : List α} {r : Nat} (h : OwnR base w e k f v xs) (hg : w.grownBy w' (some r)) (hr : r < base) : OwnR base w' e k f v xs := by
 refine World.ownsRow.kept h hg ?_
 cases hv : v.ownBlock with
 | none => exact .inl rfl
 | some q => exact .inr (fun e => by have := (World.ownsRow.lt h q hv).1; have := Option.some.inj e; omega)
theorem OwnR.shape {base : Nat} {w : World} {e : TypeId} {k : Nat} {f : α → List Value} {v : Value} {xs : List α} (h : OwnR base w e k f v xs) : ∃ A c, v = .slice A xs.length c ∧ xs.length ≤ c ∧ c ≤ maxLen ∧ (A = none → xs.length = 0 ∧ c = 0) ∧ (∀ a, A = some a → base ≤ a.block) := by
 rcases h.2 with ⟨rfl, hn⟩ | ⟨g, cap, cur, rfl, hb, _, h1, h2, _⟩
 ·exact ⟨none, 0, by rw [hn], by omega, by unfold maxLen; omega, (fun _ => ⟨hn, rfl⟩), (fun a ha => by cases ha)⟩
 ·exact ⟨_, cap, rfl, h1, h2, (fun ha => by cases ha), (fun a ha => by cases ha; exact hb)⟩
theorem OwnR.row {base : Nat} {w : World} {e : TypeId} {k : Nat} {f : α → List Value} {A : Option Addr} {n c : Nat} {xs : List α} (hf : ∀ x, (f x).length = k) (h : OwnR base w e k f (.slice A n c) xs) : RowR w A n k f xs := by
 rcases h.2 with ⟨h1, hn⟩ | ⟨g, cap, cur, h1, hb, hg, h2, h3, hs, ht⟩
 ·obtain ⟨rfl, rfl, rfl⟩ := Value.slice.inj h1
  exact ⟨hn, fun hp => absurd hp (by omega)⟩
 ·obtain ⟨rfl, rfl, rfl⟩ := Value.slice.inj h1
  refine ⟨rfl, fun hp => ⟨g, 0, rfl, (Array.getElem?_eq_some_iff.1 hg).1, fun j hj i hi => ?_⟩⟩
  have hlt : j * k + i < (xs.flatMap f).length := by
   rw [flat_len hf]
   calc j * k + i < j * k + k := by omega
    _ = (j + 1) * k := by rw [Nat.succ_mul]
    _ ≤ xs.length * k := Nat.mul_le_mul_right k hj
  have hq : (xs.flatMap f)[j * k + i]? = some ((xs.flatMap f)[j * k + i]) := List.getElem?_eq_getElem hlt
  have := World.ownsRow.cells h (g := g) rfl (j * k + i) _ hq
  have hadd : (⟨g, 0, none⟩ : Addr).add (j * k + i) = ⟨g, j * k + i, none⟩ := by unfold Addr.add; split <;> simp_all
  rw [hadd] at this
  rw [Nat.zero_add, this, ← hq, flat_get hf xs j hj i hi]
theorem wpList_rec {P : Program} {w : World} {base : Nat} {ops : Array Oper} {rest : List Oper} {o : Oper} {a : Act} {Q : Exit → Act → World → Prop} (hgd : o.guard = none) (s x : Operand) (t e : TypeId) (k bytes : Nat) (z : Value) (f : α → List Value) (ho : o.op = .call { callee := .builtin .append, args := #[s, x], argTypes := #[t, t] })
  (ht : P.underlying t = some (.slice e)) (hi : (P.info? e).map (fun i => (i.zero, i.size, i.bytes)) = some (some z, k, bytes)) (hzs : z.cells.size = k) (hby : bytes ≤ 1000) (v vx : Value) (xs : List α) (y : α) (hs : a.eval s = v) (hx : a.eval x = vx) (hO : OwnR base w e k f v xs) (hbase : base ≤ w.heap.size)
  (hsrc : Src P k t vx 1 (f y) w) (hb : xs.length ≤ 100000000) (h : ∀ v' w', OwnR base w' e k f v' (xs ++ [y]) → w.grownBy w' v.ownBlock → wpList P ops Q rest (a.put o.dst v') w') : wpList P ops Q (o :: rest) a w := by
 obtain ⟨i0, hi0, hq⟩ := Option.map_eq_some_iff.1 hi
 simp only [Prod.mk.injEq] at hq
 obtain ⟨hz0, hz1, hz2⟩ := hq
 have hm : (xs.length + 1) * bytes ≤ 140737488355328 := by
  calc (xs.length + 1) * bytes ≤ (xs.length + 1) * 1000 := Nat.mul_le_mul_left _ hby
   _ ≤ 140737488355328 := by omega
 refine wpList_app_own hgd s x t t ho e i0 z k bytes ht hi0 hz0 hz1 hz2 hzs base v vx xs.length (xs.flatMap f) hs hx hO 1 (f y) hsrc (by unfold maxLen; omega) hm hbase ?_
 intro v' w' h2 h3
 refine h v' w' ?_ h3
 unfold OwnR
 rw [List.length_append, List.flatMap_append]
 simpa using h2
theorem run_rec {P : Program} {w : World} {base : Nat} (t e ty : TypeId) (k bytes : Nat) (z : Value) (f : α → List Value)
  (ht : P.underlying t = some (.slice e)) (hi : (P.info? e).map (fun i => (i.zero, i.size, i.bytes)) = some (some z, k, bytes)) (hzs : z.cells.size = k) (hby : bytes ≤ 1000) (v vx : Value) (xs : List α) (y : α) (hO : OwnR base w e k f v xs) (hbase : base ≤ w.heap.size)
  (hsrc : Src P k t vx 1 (f y) w) (hb : xs.length ≤ 100000000) : ∃ v' w', (Builtin.append_ #[t, t] ty #[v, vx]).run P w = .ok v' w' ∧ OwnR base w' e k f v' (xs ++ [y]) ∧ w.grownBy w' v.ownBlock := by
 obtain ⟨i0, hi0, hq⟩ := Option.map_eq_some_iff.1 hi
 simp only [Prod.mk.injEq] at hq
 obtain ⟨hz0, hz1, hz2⟩ := hq
 have hm : (xs.length + 1) * bytes ≤ 140737488355328 := by
  calc (xs.length + 1) * bytes ≤ (xs.length + 1) * 1000 := Nat.mul_le_mul_left _ hby
   _ ≤ 140737488355328 := by omega
 obtain ⟨v', w', r1, r2, r3⟩ := run_app_own (P := P) t t ty e i0 z k bytes ht hi0 hz0 hz1 hz2 hzs base v xs.length (xs.flatMap f) hO vx 1 (f y) hsrc (by unfold maxLen; omega) hm hbase
 refine ⟨v', w', r1, ?_, r3⟩
 unfold OwnR
 rw [List.length_append, List.flatMap_append]
 simpa using r2
theorem src_rec {P : Program} {tx e e' : TypeId} {k : Nat} (hk : P.underlying tx = some (.slice e)) (w : World) (cs : List Value) (hl : cs.length = k) (h1 : ∀ u ∈ cs, u.oneCell' = true) (c : Nat) : Src P k tx (.slice (some ⟨w.heap.size, 0, none⟩) 1 c) 1 cs (w.alloc (.cells cs.toArray e')) := by
 refine Src.ofSlice _ hk _ _ c _ (by rw [Nat.one_mul, hl]) (fun j u hj => ?_) h1
 have hadd : (⟨w.heap.size, 0, none⟩ : Addr).add j = ⟨w.heap.size, j, none⟩ := by unfold Addr.add; split <;> simp_all
 rw [hadd, (Blk.new w e' cs.toArray).cell j, ← hj]
 simp
end Go.Proofs.YtidnboeihkeljaaGreatDoor.Rec
