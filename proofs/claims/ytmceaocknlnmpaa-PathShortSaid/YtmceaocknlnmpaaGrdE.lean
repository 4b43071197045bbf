/- The document's maps: which there may be, what tiles are, how far they are apart. -/
import Derived.Test.YtmceaocknlnmpaaP3
import Derived.RegionTactic
import Derived.StillTailTactics
import Derived.WalkMore
namespace Go.Proofs.Ytmceaocknlnmpaa.Grid
open Go.ChangeShapes Go.WideShapes Go.ChangeAt Go.RowKit
set_option linter.unusedVariables false

theorem wp_still {P : Program} {id : Nat} {Q : Exit → Act → World → Prop} {a : Act} {w : World} {l : List Oper} (hm : P.follows .mixedOrders = true) (hB : Region.lexB .any l.toArray = true)
    (h : wpStill P l.toArray w.drew (fun a' => Q .normal a' w.drew) l a) : (Code.region id l.toArray true).wp P Q a w := wp_region_still_lit hm hB h
set_option maxHeartbeats 4000000 in
theorem may_any (w h : Int) (T : ByteArray) (W : World) (hs : T.size ≤ 5000) (hw1 : -9223372036854775808 ≤ w) (hw2 : w ≤ 9223372036854775807) (hh1 : -9223372036854775808 ≤ h) (hh2 : h ≤ 9223372036854775807) :
    Calls Try.prog 7 #[.int .i64 w, .int .i64 h, .string T] W (MayPost w h T W) := by
  by_cases hr : 4 ≤ w ∧ w ≤ 64 ∧ 4 ≤ h ∧ h ≤ 64
  · obtain ⟨r1, r2, r3, r4⟩ := hr
    obtain ⟨a, rfl⟩ : ∃ a : Nat, w = (a : Int) := ⟨w.toNat, by omega⟩
    obtain ⟨b, rfl⟩ : ∃ b : Nat, h = (b : Int) := ⟨h.toNat, by omega⟩
    obtain ⟨P, hP⟩ : ∃ P, P = a * b := ⟨_, rfl⟩
    have hP1 : (a : Int) * (b : Int) = (P : Int) := by rw [hP]; exact (Int.natCast_mul a b).symm
    have hP2 : P ≤ 64 * 64 := by rw [hP]; exact Nat.mul_le_mul (by omega) (by omega)
    have z1 : ¬ (a : Int) < 4 := by omega
    have z2 : ¬ (64 : Int) < (a : Int) := by omega
    have z3 : ¬ (b : Int) < 4 := by omega
    have z4 : ¬ (64 : Int) < (b : Int) := by omega
    by_cases hsz : T.size = P
    · have z5 : (((T.size : Nat) : Int) != (P : Int)) = false := by rw [hsz]; simp
      have z6 : (((T.size : Nat) : Int) == (P : Int)) = true := by rw [hsz]; simp
      have HOK : Hid ((∀ i, (hi : i < T.size) → T[i].toNat ≤ 2) ↔ okm (a : Int) (b : Int) T) := Lib.hid ⟨fun hall => ⟨r1, r2, r3, r4, by rw [hP1, hsz], hall⟩, fun ho => ho.2.2.2.2.2⟩
      clear hP
      have HSZ := Lib.hid hsz; clear hsz
      have HP1 := Lib.hid hP1
      go_enter Try.func7, Try.ntmps7
      go_wp2_with fail
      go_loop [7] (fun iv => MyRel T iv) (fun iv => T.size - (intOf iv).toNat)
      case atStart => exact ⟨0, Nat.zero_le _, rfl, fun i _ h => by omega⟩
      case round =>
        obtain ⟨k, hk, rfl, hall⟩ := hrel
        have HALL := Lib.hid hall
        clear hall
        by_cases hlt : k < T.size
        · have y0 : (k : Int) < (T.size : Int) := by omega
          have y1 : (0 : Int) ≤ (k : Int) := by omega
          by_cases hbad : 2 < T[k].toNat
          · have y2 : (2 : Int) < (T[k].toNat : Int) := by omega
            have HN : Hid (¬ okm (a : Int) (b : Int) T) := Lib.hid (fun ho => by have := HOK.out.2 ho k hlt; omega)
            clear hbad
            go_wp2_with fail
            go_ret
            exact ⟨by rw [decide_eq_false HN.out]; rfl, rfl⟩
          · have y2 : ¬ (2 : Int) < (T[k].toNat : Int) := by omega
            have HA2 : Hid (∀ i, (hi : i < T.size) → i < k + 1 → T[i].toNat ≤ 2) := Lib.hid (fun i hi hik => by
              by_cases e : i = k
              · subst e; omega
              · exact HALL.out i hi (by omega))
            clear hbad
            go_wp2_with fail
            go_round
            case rel => exact ⟨k + 1, by omega, by go_num, HA2.out⟩
            case measure => simp [intOf]; omega
        · have y0 : ¬ (k : Int) < (T.size : Int) := by omega
          have HN : Hid (okm (a : Int) (b : Int) T) := Lib.hid (HOK.out.1 (fun i hi => HALL.out i hi (by omega)))
          go_wp2_with fail
          go_ret
          exact ⟨by rw [decide_eq_true HN.out]; rfl, rfl⟩
    · have z5 : (((T.size : Nat) : Int) != (P : Int)) = true := by simp; omega
      have z6 : (((T.size : Nat) : Int) == (P : Int)) = false := beq_eq_false_iff_ne.2 (by omega)
      have HN : Hid (¬ okm (a : Int) (b : Int) T) := Lib.hid (fun ho => by have := ho.2.2.2.2.1; rw [hP1] at this; omega)
      clear hP hsz
      go_enter Try.func7, Try.ntmps7
      go_wp2_with fail
      go_ret
      exact ⟨by rw [decide_eq_false HN.out]; rfl, rfl⟩
  · have HN : Hid (¬ okm w h T) := Lib.hid (fun ho => hr ⟨ho.1, ho.2.1, ho.2.2.1, ho.2.2.2.1⟩)
    by_cases r1 : w < 4
    · clear hr
      go_enter Try.func7, Try.ntmps7
      go_wp2_with fail
      go_ret
      exact ⟨by rw [decide_eq_false HN.out]; rfl, rfl⟩
    · by_cases r2 : 64 < w
      · clear hr
        go_enter Try.func7, Try.ntmps7
        go_wp2_with fail
        go_ret
        exact ⟨by rw [decide_eq_false HN.out]; rfl, rfl⟩
      · by_cases r3 : h < 4
        · clear hr
          go_enter Try.func7, Try.ntmps7
          go_wp2_with fail
          go_ret
          exact ⟨by rw [decide_eq_false HN.out]; rfl, rfl⟩
        · have r4 : 64 < h := by omega
          clear hr
          go_enter Try.func7, Try.ntmps7
          go_wp2_with fail
          go_ret
          exact ⟨by rw [decide_eq_false HN.out]; rfl, rfl⟩
set_option maxHeartbeats 1000000 in
theorem ron_yes (W H P x : Nat) (T : ByteArray) (w : World) (hP : P = W * H) (hP2 : P ≤ 5000) (hx : x < P) : Calls Try.prog 20 #[.agg #[.int .i64 (W : Int), .int .i64 (H : Int), .string T], .int .i64 (x : Int)] w fun e w' => e = .returned (.bool true) ∧ Ext w w' := by
  have hP1 : (W : Int) * (H : Int) = (P : Int) := by rw [hP]; exact (Int.natCast_mul W H).symm
  have z1 : (0 : Int) ≤ (x : Int) := by omega
  have z2 : (x : Int) < (P : Int) := by omega
  clear hP
  go_enter Try.func20, Try.ntmps20
  go_wp2_with fail
  go_ret
  exact ⟨rfl, ext_alloc (Ext.rfl' _) _⟩
set_option maxHeartbeats 1000000 in
theorem ron_no (W H P : Nat) (x : Int) (T : ByteArray) (w : World) (hP : P = W * H) (hP2 : P ≤ 5000) (hx : x < 0 ∨ (P : Int) ≤ x) : Calls Try.prog 20 #[.agg #[.int .i64 (W : Int), .int .i64 (H : Int), .string T], .int .i64 x] w fun e w' => e = .returned (.bool false) ∧ Ext w w' := by
  have hP1 : (W : Int) * (H : Int) = (P : Int) := by rw [hP]; exact (Int.natCast_mul W H).symm
  clear hP
  by_cases h : x < 0
  · have z1 : ¬ (0 : Int) ≤ x := by omega
    clear hx
    go_enter Try.func20, Try.ntmps20
    go_wp2_with fail
    go_ret
    exact ⟨rfl, ext_alloc (Ext.rfl' _) _⟩
  · have z1 : (0 : Int) ≤ x := by omega
    have z2 : ¬ x < (P : Int) := by omega
    clear hx
    go_enter Try.func20, Try.ntmps20
    go_wp2_with fail
    go_ret
    exact ⟨rfl, ext_alloc (Ext.rfl' _) _⟩
set_option maxHeartbeats 1000000 in
theorem ris_yes (W H P x : Nat) (T : ByteArray) (w : World) (hP : P = W * H) (hP2 : P ≤ 5000) (hs : T.size = P) (hx : x < T.size) : Calls Try.prog 24 #[.agg #[.int .i64 (W : Int), .int .i64 (H : Int), .string T], .int .i64 (x : Int)] w fun e w' => e = .returned (.int .u8 (T[x].toNat : Int)) ∧ Ext w w' := by
  have HP := Lib.hid hP; clear hP
  have hx2 : x < P := by omega
  have HS := Lib.hid hs; clear hs
  have z1 : (0 : Int) ≤ (x : Int) := by omega
  have z2 : (x : Int) < (T.size : Int) := by omega
  go_enter Try.func24, Try.ntmps24
  go_wp2_with fail
  refine (ron_yes W H P x T _ HP.out hP2 hx2).mono ?_
  rintro e w1 ⟨rfl, b1⟩
  obtain ⟨c0, c1, c2⟩ := map_cells ((Blk.new w 36 #[.int .i64 (W : Int), .int .i64 (H : Int), .string T]).ext b1)
  have HE := Lib.hid (ext_trans (ext_alloc (Ext.rfl' w) _) b1)
  clear b1
  go_wp2_with fail
  go_ret
  exact ⟨rfl, HE.out⟩
set_option maxHeartbeats 1000000 in
theorem ris_no (W H P : Nat) (x : Int) (T : ByteArray) (w : World) (hP : P = W * H) (hP2 : P ≤ 5000) (hx : x < 0 ∨ (P : Int) ≤ x) : Calls Try.prog 24 #[.agg #[.int .i64 (W : Int), .int .i64 (H : Int), .string T], .int .i64 x] w fun e w' => e = .returned (.int .u8 1) ∧ Ext w w' := by
  have HP := Lib.hid hP; have HX := Lib.hid hx; clear hP hx
  go_enter Try.func24, Try.ntmps24
  go_wp2_with fail
  refine (ron_no W H P x T _ HP.out hP2 HX.out).mono ?_
  rintro e w1 ⟨rfl, b1⟩
  have HE := Lib.hid (ext_trans (ext_alloc (Ext.rfl' w) _) b1)
  clear b1
  go_wp2_with fail
  go_ret
  exact ⟨rfl, HE.out⟩
set_option maxHeartbeats 1000000 in
theorem rapart (a b : Nat) (w : World) (ha : a ≤ 5000) (hb : b ≤ 5000) : Calls Try.prog 36 #[.int .i64 (a : Int), .int .i64 (b : Int)] w fun e w' => e = .returned (.int .i64 ((a - b + (b - a) : Nat) : Int)) ∧ w = w' := by
  obtain ⟨F, hF⟩ : ∃ F, F = a - b + (b - a) := ⟨_, rfl⟩
  rw [← hF]
  by_cases h : b < a
  · have h1 : (b : Int) < (a : Int) := by omega
    have HF := Lib.hid hF; clear hF
    go_enter Try.func36, Try.ntmps36
    go_wp2_with fail
    go_ret
    exact ⟨ret_int (by have := HF.out; omega), rfl⟩
  · have h1 : ¬ (b : Int) < (a : Int) := by omega
    have HF := Lib.hid hF; clear hF
    go_enter Try.func36, Try.ntmps36
    go_wp2_with fail
    go_ret
    exact ⟨ret_int (by have := HF.out; omega), rfl⟩
set_option maxHeartbeats 4000000 in
theorem rfar_no (W H P : Nat) (a b : Int) (T : ByteArray) (w : World) (hP : P = W * H) (hP2 : P ≤ 5000) (h : (a < 0 ∨ (P : Int) ≤ a) ∨ (b < 0 ∨ (P : Int) ≤ b)) : Calls Try.prog 33 #[.agg #[.int .i64 (W : Int), .int .i64 (H : Int), .string T], .int .i64 a, .int .i64 b] w fun e w' => e = .returned (.int .i64 (-1)) ∧ Ext w w' := by
  have HP := Lib.hid hP; clear hP
  by_cases ha : a < 0 ∨ (P : Int) ≤ a
  · have HA := Lib.hid ha; clear h ha
    go_enter Try.func33, Try.ntmps33
    go_wp2_with fail
    refine (ron_no W H P a T _ HP.out hP2 HA.out).mono ?_
    rintro e w1 ⟨rfl, b1⟩
    have HE1 := Lib.hid (ext_trans (ext_alloc (Ext.rfl' w) _) b1)
    clear b1
    go_wp2_with fail
    go_ret
    exact ⟨rfl, HE1.out⟩
  · have hb : b < 0 ∨ (P : Int) ≤ b := by
      rcases h with h | h
      · exact absurd h ha
      · exact h
    obtain ⟨x, rfl⟩ : ∃ x : Nat, a = (x : Int) := ⟨a.toNat, by omega⟩
    have hx : x < P := by omega
    have HB := Lib.hid hb; clear h hb ha
    go_enter Try.func33, Try.ntmps33
    go_wp2_with fail
    refine (ron_yes W H P x T _ HP.out hP2 hx).mono ?_
    rintro e w1 ⟨rfl, b1⟩
    obtain ⟨c0, c1, c2⟩ := map_cells ((Blk.new w 36 #[.int .i64 (W : Int), .int .i64 (H : Int), .string T]).ext b1)
    have HE1 := Lib.hid (ext_trans (ext_alloc (Ext.rfl' w) _) b1)
    clear b1
    go_wp2_with fail
    refine (ron_no W H P b T _ HP.out hP2 HB.out).mono ?_
    rintro e w2 ⟨rfl, b2⟩
    have HE2 := Lib.hid (ext_trans HE1.out b2)
    clear b2
    go_wp2_with fail
    go_ret
    exact ⟨rfl, HE2.out⟩
set_option maxHeartbeats 4000000 in
set_option maxRecDepth 100000 in
theorem rfar_yes (W H P a b : Nat) (T : ByteArray) (w : World) (hW : 4 ≤ W) (hP : P = W * H) (hP2 : P ≤ 5000) (ha : a < P) (hb : b < P) : Calls Try.prog 33 #[.agg #[.int .i64 (W : Int), .int .i64 (H : Int), .string T], .int .i64 (a : Int), .int .i64 (b : Int)] w fun e w' => e = .returned (.int .i64 (far W a b : Nat)) ∧ Ext w w' := by
  have HP := Lib.hid hP; clear hP
  have hf : far W a b = (a % W - b % W) + (b % W - a % W) + ((a / W - b / W) + (b / W - a / W)) := rfl
  have q1 : (a : Int).tmod (W : Int) = ((a % W : Nat) : Int) := by rw [Int.tmod_eq_emod_of_nonneg (by omega)]; exact (Int.natCast_emod a W).symm
  have q2 : (a : Int).tdiv (W : Int) = ((a / W : Nat) : Int) := by rw [Int.tdiv_eq_ediv_of_nonneg (by omega)]; exact (Int.natCast_ediv a W).symm
  have q3 : (b : Int).tmod (W : Int) = ((b % W : Nat) : Int) := by rw [Int.tmod_eq_emod_of_nonneg (by omega)]; exact (Int.natCast_emod b W).symm
  have q4 : (b : Int).tdiv (W : Int) = ((b / W : Nat) : Int) := by rw [Int.tdiv_eq_ediv_of_nonneg (by omega)]; exact (Int.natCast_ediv b W).symm
  have p1 : (a : Int) % (W : Int) = ((a % W : Nat) : Int) := (Int.natCast_emod a W).symm
  have p2 : (a : Int) / (W : Int) = ((a / W : Nat) : Int) := (Int.natCast_ediv a W).symm
  have p3 : (b : Int) % (W : Int) = ((b % W : Nat) : Int) := (Int.natCast_emod b W).symm
  have p4 : (b : Int) / (W : Int) = ((b / W : Nat) : Int) := (Int.natCast_ediv b W).symm
  have h1 := Nat.mod_le a W; have h2 := Nat.mod_le b W
  have h3 := Nat.div_le_self a W; have h4 := Nat.div_le_self b W
  generalize a % W = ax at *; generalize b % W = bx at *; generalize a / W = ay at *; generalize b / W = by_ at *
  obtain ⟨F, hF⟩ : ∃ F, F = far W a b := ⟨_, rfl⟩
  rw [← hF] at hf ⊢
  clear hF
  have w1 : IntKind.i64.wrap (ax : Int) = (ax : Int) := by rw [IntKind.wrap_i64]; omega
  have w2 : IntKind.i64.wrap (bx : Int) = (bx : Int) := by rw [IntKind.wrap_i64]; omega
  have w3 : IntKind.i64.wrap (ay : Int) = (ay : Int) := by rw [IntKind.wrap_i64]; omega
  have w4 : IntKind.i64.wrap (by_ : Int) = (by_ : Int) := by rw [IntKind.wrap_i64]; omega
  obtain ⟨F1, hF1⟩ : ∃ F1, F1 = ax - bx + (bx - ax) := ⟨_, rfl⟩
  obtain ⟨F2, hF2⟩ : ∃ F2, F2 = ay - by_ + (by_ - ay) := ⟨_, rfl⟩
  have HA1 := Lib.hid (fun W => rapart ax bx W (by omega) (by omega))
  have HA2 := Lib.hid (fun W => rapart ay by_ W (by omega) (by omega))
  rw [← hF1] at HA1
  rw [← hF2] at HA2
  have w5 : IntKind.i64.wrap ((F1 : Int) + (F2 : Int)) = (F : Int) := by rw [IntKind.wrap_i64]; omega
  have z7 : ((W : Int) == 0) = false := beq_eq_false_iff_ne.2 (by omega)
  have z8 : ¬ W = 0 := by omega
  have HQ := Lib.hid (And.intro q1 (And.intro q2 (And.intro q3 (And.intro q4 (And.intro w1 (And.intro w2 (And.intro w3 (And.intro w4 w5))))))))
  have HQ2 := Lib.hid (And.intro p1 (And.intro p2 (And.intro p3 p4)))
  clear q1 q2 q3 q4 w1 w2 w3 w4 w5 p1 p2 p3 p4 hf hF1 hF2
  go_enter Try.func33, Try.ntmps33
  go_wp2_with fail
  refine (ron_yes W H P a T _ HP.out hP2 ha).mono ?_
  rintro e w1 ⟨rfl, b1⟩
  have K1 := Lib.hid ((Blk.new w 36 #[.int .i64 (W : Int), .int .i64 (H : Int), .string T]).ext b1)
  obtain ⟨c0, c1, c2⟩ := map_cells K1.out
  have HE1 := Lib.hid (ext_trans (ext_alloc (Ext.rfl' w) _) b1)
  clear b1
  go_wp2_with fail
  refine (ron_yes W H P b T _ HP.out hP2 hb).mono ?_
  rintro e w2 ⟨rfl, b2⟩
  have K2 := Lib.hid (K1.out.ext b2)
  clear c0 c1 c2
  obtain ⟨c0, c1, c2⟩ := map_cells K2.out
  have HE2 := Lib.hid (ext_trans HE1.out b2)
  clear b2
  go_wp2_with fail
  obtain ⟨q1, q2, q3, q4, r1, r2, r3, r4, r5⟩ := HQ.out
  obtain ⟨p1, p2, p3, p4⟩ := HQ2.out
  have HA3 := Lib.hid ((HA1.out w2.drew).mono (fun e w' h => (⟨h.1, h.2.symm⟩ : e = .returned _ ∧ w' = w2.drew)))
  have HA4 := Lib.hid ((HA2.out w2.drew).mono (fun e w' h => (⟨h.1, h.2.symm⟩ : e = .returned _ ∧ w' = w2.drew)))
  refine wp_still (by kernel_rfl) (by kernel_rfl) ?_
  iterate 8 still_step
  still_call HA3.out
  iterate 8 still_step
  still_call HA4.out
  iterate 2 still_step
  refine wpStill_nil ?_
  clear q1 q2 q3 q4 r1 r2 r3 r4 r5 p1 p2 p3 p4
  go_wp2_with fail
  go_ret
  exact ⟨rfl, ext_drew HE2.out⟩
end Go.Proofs.Ytmceaocknlnmpaa.Grid
