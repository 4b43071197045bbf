/- Contracts of package wire: so many bytes are read. -/
import Derived.Test.YtodmjkhfckokhaaWireV71
import Derived.Test.YtodmjkhfckokhaaWireR71
import Derived.Test.YtodmjkhfckokhaaWireI
import Derived.Test.YtodmjkhfckokhaaWireO
namespace Go.Proofs.Ytodmjkhfckokhaa.Wire
open Go.ChangeShapes Go.WideShapes Go.ChangeAt Go.RowKit
set_option linter.unusedVariables false

/-- A slice that was read: so many bytes. -/
def Got (w' : World) (ys : List Nat) (v : Value) : Prop := ∃ (A' : Option Addr) (c' : Nat), v = .slice A' ys.length c' ∧ ys.length ≤ c' ∧ c' ≤ 9223372036854775807 ∧ (A' = none → ys.length = 0 ∧ c' = 0) ∧ Bs w' A' ys.length ys
def BPhi (at_ : Nat) (rest : List Nat) (m : Int) (v : Value) (a' : Nat) (err : Int) (w' : World) : Prop :=
  (m < 0 ∧ err = 4) ∨ (0 ≤ m ∧ (rest.length : Int) < m ∧ err = 3) ∨ (0 ≤ m ∧ m ≤ (rest.length : Int) ∧ Got w' (rest.take m.toNat) v ∧ a' = at_ + m.toNat ∧ err = 0)
set_option maxHeartbeats 4000000 in
set_option maxRecDepth 100000 in
theorem bytes1 (pb mb rb g n c at_ : Nat) (m : Int) (A : Option Addr) (xs : List Nat) (w : World) (hp : w.cell? ⟨pb, 0, none⟩ = some (.pointer (some ⟨g, 0, none⟩))) (hr : w.cell? ⟨rb, 0, none⟩ = some (.pointer (some ⟨g, 0, none⟩))) (hmo : w.cell? ⟨mb, 0, none⟩ = some (.int .i64 m))
    (hm1 : -9223372036854775808 ≤ m) (hm2 : m ≤ 9223372036854775807)
    (h : Rdr w g (.slice A n c) at_ 0) (hB : RB w g A n c xs) (hat : at_ ≤ n) (hn : n ≤ 4000000000) :
    Calls Try.prog 50 #[.func (.func 71) #[] #[.pointer (some ⟨pb, 0, none⟩)], .pointer (some ⟨mb, 0, none⟩), .pointer (some ⟨rb, 0, none⟩)] w (CP w g (.slice A n c) (BPhi at_ (xs.drop at_) m)) := by
  have hxl : (xs.drop at_).length = n - at_ := by rw [List.length_drop, hB.1.1]
  by_cases hneg : m < 0
  · have HP := Lib.hid hp; have H := Lib.hid h
    have HF : Hid (∀ v a' w', BPhi at_ (xs.drop at_) m v a' 4 w') := Lib.hid (fun _ _ _ => .inl ⟨hneg, rfl⟩)
    clear hp h hB hxl hm2
    generalize BPhi at_ (xs.drop at_) m = Φ at *
    go_enter Try.func50, Try.ntmps50
    go_wp2_with fail
    refine (fail0_71 _ pb g _ at_ 4 HP.out H.out).mono ?_
    rintro e w3 ⟨rfl, hE3⟩
    have HE3 := Lib.hid hE3; clear hE3
    go_wp2_with fail
    go_ret
    exact ⟨_, _, 4, rfl, HE3.out, HF.out _ _ _⟩
  · obtain ⟨k, rfl⟩ : ∃ k : Nat, m = (k : Int) := ⟨m.toNat, by omega⟩
    have hk1 : ¬ (k : Int) < 0 := hneg
    by_cases hsh : n - at_ < k
    · have HC := Lib.hid (piece_short_71 pb g n c at_ k A xs w hp h hat hn hsh)
      have HF : Hid (∀ v a' w', BPhi at_ (xs.drop at_) (k : Int) v a' 3 w') := Lib.hid (fun _ _ _ => .inr (.inl ⟨by omega, by omega, rfl⟩))
      clear hp h hB hxl
      generalize BPhi at_ (xs.drop at_) (k : Int) = Φ at *
      go_enter Try.func50, Try.ntmps50
      go_wp2_with fail
      refine (HC.out).mono ?_
      rintro e w3 ⟨rfl, hE3⟩
      have HE3 := Lib.hid hE3; clear hE3
      go_wp2_with fail
      refine (clone none 0 0 [] w3 (Bs.none _ _) (fun _ => ⟨rfl, rfl⟩) (by omega)).mono ?_
      rintro e w4 ⟨A', c', rfl, _, _, _, _, _, hE⟩
      have HE4 := Lib.hid hE; clear hE
      go_wp2_with fail
      go_ret
      exact ⟨_, _, 3, rfl, HE3.out.ext HE4.out, HF.out _ _ _⟩
    · have HC := Lib.hid (piece_ok g n c at_ k A (.func (.func 71) #[] #[.pointer (some ⟨pb, 0, none⟩)]) xs w h hB (by omega) hn)
      have HL : Hid (((xs.drop at_).take k).length = k) := Lib.hid (by rw [List.length_take]; omega)
      have HF : Hid (∀ v w', Got w' ((xs.drop at_).take k) v → BPhi at_ (xs.drop at_) (k : Int) v (at_ + k) 0 w') := Lib.hid (fun _ _ hg => .inr (.inr ⟨by omega, by omega, by rw [Int.toNat_natCast]; exact hg, by rw [Int.toNat_natCast], rfl⟩))
      clear hp h hB hxl
      generalize BPhi at_ (xs.drop at_) (k : Int) = Φ at *
      generalize (xs.drop at_).take k = ys at *
      go_enter Try.func50, Try.ntmps50
      go_wp2_with fail
      refine (HC.out).mono ?_
      rintro e w3 ⟨A', c', rfl, hc1, hc2, hc3, hB3, hE3⟩
      have HB3 := Lib.hid hB3; have HC3 := Lib.hid hc3
      have HE3 := Lib.hid hE3; clear hE3 hB3 hc3
      go_wp2_with fail
      refine (clone A' k c' ys w3 HB3.out HC3.out (by omega)).mono ?_
      rintro e w4 ⟨A4, c4, rfl, h1, h2, h3, h4, hB4, hE⟩
      have HE4 := Lib.hid hE; have HB4 := Lib.hid hB4; have H3 := Lib.hid h3; clear hE hB4 h3 h4
      go_wp2_with fail
      go_ret
      have hg : Got w4 ys (.slice A4 k c4) := ⟨A4, c4, by rw [HL.out], by rw [HL.out]; exact h1, h2, by rw [HL.out]; exact H3.out, by rw [HL.out]; exact HB4.out⟩
      exact ⟨_, _, 0, rfl, HE3.out.ext HE4.out, HF.out _ _ hg⟩
/-- What Bytes comes to. -/
def BPost (w : World) (g : Nat) (s : Value) (at_ : Nat) (rest : List Nat) (m : Int) (e : Ending) (w' : World) : Prop :=
  (m < 0 ∧ e = .returned (.slice none 0 0) ∧ Eff w w' g s at_ 4) ∨ (0 ≤ m ∧ (rest.length : Int) < m ∧ e = .returned (.slice none 0 0) ∧ Eff w w' g s at_ 3) ∨
  (0 ≤ m ∧ m ≤ (rest.length : Int) ∧ (∃ v, e = .returned v ∧ Got w' (rest.take m.toNat) v) ∧ Eff w w' g s (at_ + m.toNat) 0)
theorem bpost_of {w w' : World} {g : Nat} {s : Value} {at_ : Nat} {rest : List Nat} {m : Int} {e : Ending} (h : RP w g s (.slice none 0 0) at_ (BPhi at_ rest m) e w') : BPost w g s at_ rest m e w' := by
  rcases h with ⟨v, a', rfl, hE, ⟨_, h2⟩ | ⟨_, _, h2⟩ | ⟨h1, h2, h3, rfl, _⟩⟩ | ⟨err, hne, rfl, hE, v0, a0, w0, ⟨h1, h2⟩ | ⟨h1, h2, h3⟩ | ⟨_, _, _, _, h2⟩⟩
  · exact absurd h2 (by decide)
  · exact absurd h2 (by decide)
  · exact .inr (.inr ⟨h1, h2, ⟨v, rfl, h3⟩, hE⟩)
  · subst h2; exact .inl ⟨h1, rfl, hE⟩
  · subst h3; exact .inr (.inl ⟨h1, h2, rfl, hE⟩)
  · exact absurd h2 hne
set_option maxHeartbeats 4000000 in
theorem bytes (g n c at_ : Nat) (m : Int) (hm1 : -9223372036854775808 ≤ m) (hm2 : m ≤ 9223372036854775807) (A : Option Addr) (xs : List Nat) (w : World) (h : Rdr w g (.slice A n c) at_ 0) (hB : RB w g A n c xs) (hat : at_ ≤ n) (hn : n ≤ 4000000000) :
    Calls Try.prog 24 #[.pointer (some ⟨g, 0, none⟩), .int .i64 m] w (BPost w g (.slice A n c) at_ (xs.drop at_) m) := by
  have ha := ext_alloc (Ext.rfl' w) (.cells #[.pointer (some ⟨g, 0, none⟩)] 34)
  have hb := ext_alloc (Ext.rfl' (w.alloc (.cells #[.pointer (some ⟨g, 0, none⟩)] 34))) (.cells #[.int .i64 m] 3)
  have hc := ext_alloc (Ext.rfl' ((w.alloc (.cells #[.pointer (some ⟨g, 0, none⟩)] 34)).alloc (.cells #[.int .i64 m] 3))) (.cells #[.pointer (some ⟨g, 0, none⟩)] 34)
  have HC := Lib.hid (reading_71 g at_ (.slice A n c) (.pointer (some ⟨w.heap.size + 1, 0, none⟩)) (.pointer (some ⟨w.heap.size, 0, none⟩)) (BPhi at_ (xs.drop at_) m) ((w.alloc (.cells #[.pointer (some ⟨g, 0, none⟩)] 34)).alloc (.cells #[.int .i64 m] 3)) ((h.ext ha).ext hb)
    (bytes1 ((w.alloc (.cells #[.pointer (some ⟨g, 0, none⟩)] 34)).alloc (.cells #[.int .i64 m] 3)).heap.size (w.heap.size + 1) w.heap.size g n c at_ m A xs _ (by rw [World.cell?_alloc_new]; rfl) (kc hc (kc hb (by rw [World.cell?_alloc_new]; rfl))) (kc hc (by
      have := World.cell?_alloc_new (w.alloc (.cells #[.pointer (some ⟨g, 0, none⟩)] 34)) #[.int .i64 m] 3 0
      rw [World.size_alloc] at this
      rw [this]; rfl)) hm1 hm2 (((h.ext ha).ext hb).ext hc) (((hB.eff (gb_ext ha _)).eff (gb_ext hb _)).eff (gb_ext hc _)) hat hn))
  clear h hB ha hb hc hm1 hm2
  generalize xs.drop at_ = rest at *
  go_enter Try.func24, Try.ntmps24
  go_wp2_with fail
  refine (HC.out).mono ?_
  intro e w3 hq
  have hp := bpost_of (rp_alloc _ (rp_alloc _ hq))
  clear hq
  have HP := Lib.hid hp
  rcases hp with ⟨h1, rfl, hE⟩ | ⟨h1, h2, rfl, hE⟩ | ⟨h1, h2, ⟨v, rfl, h3⟩, hE⟩
  · clear h1 hE
    go_wp2_with fail
    go_ret
    exact HP.out
  · clear h1 h2 hE
    go_wp2_with fail
    go_ret
    exact HP.out
  · clear h1 h2 h3 hE
    go_wp2_with fail
    go_ret
    exact HP.out
end Go.Proofs.Ytodmjkhfckokhaa.Wire
