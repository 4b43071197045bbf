/- The known bytes, packed and unpacked. -/
import Derived.Test.YtodmjkhfckokhaaLzT
import Derived.Test.YtodmjkhfckokhaaLzK
import Derived.Test.YtodmjkhfckokhaaLzM
import Derived.Test.YtodmjkhfckokhaaWireW
namespace Go.Proofs.Ytodmjkhfckokhaa.Lz
open Go.ChangeShapes Go.WideShapes Go.ChangeAt Go.RowKit Go.Shelf
open Go.Proofs.Ytodmjkhfckokhaa.Wire Go.Proofs.Ytodmjkhfckokhaa.Map32
set_option linter.unusedVariables false

theorem pk_small {xs : List Nat} (hx : ∀ j, xs.getD j 0 < 256) : ∀ (n told a : Nat), xs.length - a = n → ∀ c ∈ pk xs told a, c < 256 := by
  have hm := mem_small hx
  intro n
  induction n using Nat.strongRecOn with
  | ind n ih =>
    intro told a hn
    by_cases h : a < xs.length
    · by_cases h2 : (bst xs a).2 = 0
      · rw [pk_lit h h2]; exact ih (xs.length - (a + 1)) (by omega) told (a + 1) rfl
      · rw [pk_match h h2]
        rcases bst_good hx a with hg | ⟨g1, g2, g3, g4, g5, g6, g7⟩
        · rw [hg] at h2; exact absurd rfl h2
        · intro c hc
          rcases List.mem_append.1 hc with hc | hc
          · exact litT_small _ _ rfl (fun c hc => hm c (List.mem_of_mem_drop (List.mem_of_mem_take hc))) c hc
          · rcases List.mem_cons.1 hc with rfl | hc
            · omega
            · rcases List.mem_append.1 hc with hc | hc
              · exact mem_small (vb_byte _) c hc
              · exact ih (xs.length - (a + (bst xs a).2)) (by omega) _ _ rfl c hc
    · rw [pk_end (by omega)]
      exact litT_small _ _ rfl (fun c hc => hm c (List.mem_of_mem_drop hc))
theorem pk_byte {xs : List Nat} (hx : ∀ j, xs.getD j 0 < 256) : ∀ j, (pk xs 0 0).getD j 0 < 256 := small_mem (pk_small hx _ 0 0 rfl)
theorem pk_k1 : pk [97, 97, 97, 97, 97, 97, 97, 97] 0 0 = [0, 97, 9, 0] := by
  have b0 : bst [97, 97, 97, 97, 97, 97, 97, 97] 0 = (0, 0) := by decide
  have b1 : bst [97, 97, 97, 97, 97, 97, 97, 97] 1 = (1, 7) := by decide
  rw [pk_lit (by decide) (by rw [b0]), pk_match (by decide) (by rw [b1]; decide), b1, pk_end (by decide), vb_small (by decide)]
  have e : ([97, 97, 97, 97, 97, 97, 97, 97] : List Nat).drop (0 + 1 + 7) = [] := rfl
  rw [e, litT_nil]
  have e2 : (([97, 97, 97, 97, 97, 97, 97, 97] : List Nat).drop 0).take (0 + 1 - 0) = [97] := rfl
  rw [e2, litT_step (by decide)]
  have e3 : ([97] : List Nat).drop (min 64 [97].length) = [] := rfl
  rw [e3, litT_nil]
  rfl
theorem pack_k (w : World) : Calls Try.prog 35 #[.slice (some ⟨w.heap.size, 0, none⟩) 8 8] (w.alloc (.cells #[.int .u8 97, .int .u8 97, .int .u8 97, .int .u8 97, .int .u8 97, .int .u8 97, .int .u8 97, .int .u8 97] 5 (8, 9)))
    (PkPost (w.alloc (.cells #[.int .u8 97, .int .u8 97, .int .u8 97, .int .u8 97, .int .u8 97, .int .u8 97, .int .u8 97, .int .u8 97] 5 (8, 9))) [0, 97, 9, 0]) := by
  have h1 := bs_new w 5 (8, 9) [97, 97, 97, 97, 97, 97, 97, 97] (small_of (by decide))
  have h := pack _ 8 8 _ _ h1 (by omega) (by omega) (by omega)
  rw [pk_k1] at h
  exact h
theorem unp_k1 : unp 8 [] [0, 97, 9, 0] = .ok [97, 97, 97, 97, 97, 97, 97, 97] := by
  have h := unp_pk (xs := [97, 97, 97, 97, 97, 97, 97, 97]) (small_of (by decide)) _ 0 0 rfl (Nat.le_refl _) (Nat.zero_le _)
  rw [pk_k1] at h
  exact h
theorem unp_k2 : unp 7 [] [0, 97, 9, 0] = .bad 6 := by
  have h := unp_low (xs := [97, 97, 97, 97, 97, 97, 97, 97]) (small_of (by decide)) 7 (by decide) _ 0 0 rfl (Nat.le_refl _) (Nat.zero_le _) (Nat.zero_le _)
  rw [pk_k1] at h
  exact h
theorem un_a (B : Option Addr) (cd : Nat) (w : World) (hB : Bs w B 4 [0, 97, 9, 0]) : Calls Try.prog 37 #[.slice B 4 cd, .int .i64 8] w (UPost w (.ok [97, 97, 97, 97, 97, 97, 97, 97])) := by
  have hn : B = none → 4 = 0 ∧ cd = 0 := fun e => by obtain ⟨b, o, he, _⟩ := hB.2.2 (by omega); rw [e] at he; cases he
  have h := unpack B 4 cd _ 8 w hB hn (by omega) (by omega) (by omega)
  rw [show (8 : Int).toNat = 8 from rfl, unp_k1] at h
  exact h
theorem un_b (B : Option Addr) (cd : Nat) (w : World) (hB : Bs w B 4 [0, 97, 9, 0]) : Calls Try.prog 37 #[.slice B 4 cd, .int .i64 7] w (UPost w (.bad 6)) := by
  have hn : B = none → 4 = 0 ∧ cd = 0 := fun e => by obtain ⟨b, o, he, _⟩ := hB.2.2 (by omega); rw [e] at he; cases he
  have h := unpack B 4 cd _ 7 w hB hn (by omega) (by omega) (by omega)
  rw [show (7 : Int).toNat = 7 from rfl, unp_k2] at h
  exact h
set_option maxHeartbeats 4000000 in
set_option maxRecDepth 100000 in
theorem wakes (w : World) : Calls Try.prog 34 #[] w fun e w' => e = .returned (.bool true) ∧ Ext w w' := by
  have kcv := fun (w : World) (C : Array Value) (n c : Nat) => Lib.run_convert_bytes_const (P := Try.prog) w 22 5 C n c Try.underlying22 Try.underlying5
  go_enter Try.func34, Try.ntmps34
  go_wp2_with fail
  refine (pack_k w).mono ?_
  rintro e w1 ⟨v1, rfl, hO1, hE1⟩
  obtain ⟨A1, k1, rfl, _⟩ := own_shape hO1
  have B1 := Lib.hid (Own.bs hO1 (small_of (by decide)))
  have E1 := Lib.hid (ext_trans (ext_alloc (Ext.rfl' w) _) hE1)
  clear hO1 hE1
  go_wp2_with fail
  refine (un_a _ _ w1 B1.out).mono ?_
  rintro e w2 ⟨hE2, ⟨v2, rfl, hO2⟩, _⟩
  obtain ⟨A2, k2, rfl, _⟩ := own_shape hO2
  have B2 := Lib.hid (Own.bs hO2 (small_of (by decide)))
  have B12 := Lib.hid (B1.out.ext hE2)
  have E2 := Lib.hid (ext_trans E1.out hE2)
  clear hO2 hE2
  go_wp2_with fail
  refine (un_b _ _ w2 B12.out).mono ?_
  rintro e w3 ⟨hE3, rfl, _⟩
  have c1 := Com.conv8 (n := 4) (B12.out.ext hE3) k1
  have c2 := Com.conv8 (n := 8) (B2.out.ext hE3) k2
  have e1 : strOf [0, 97, 9, 0] = ⟨#[0, 97, 9, 0]⟩ := by decide
  have e2 : strOf [97, 97, 97, 97, 97, 97, 97, 97] = ⟨#[97, 97, 97, 97, 97, 97, 97, 97]⟩ := by decide
  rw [e1] at c1
  rw [e2] at c2
  have E3 := Lib.hid (ext_trans E2.out hE3)
  clear hE3 e1 e2
  go_wp2_with fail
  go_ret
  exact ⟨rfl, E3.out⟩
end Go.Proofs.Ytodmjkhfckokhaa.Lz
