/- Contracts of package wire: what keeps a fault; a varint that stands next (70). -/
import Derived.Test.YtckjmabacibojaaDoorGA
import Derived.Test.YtckjmabacibojaaDoorGC
import Derived.Test.YtckjmabacibojaaDoorGB
import Derived.Lib.SlBytesConst
import Derived.Test.YtckjmabacibojaaDoorGE
import Derived.Deep.RegionWith
import Derived.BigQuiet
namespace Go.Proofs.YtckjmabacibojaaDoor.Wire
open Go.ChangeShapes Go.WideShapes Go.ChangeAt Go.RowKit
set_option linter.unusedVariables false

end Go.Proofs.YtckjmabacibojaaDoor.Wire
namespace Go.Proofs.YtckjmabacibojaaDoor.Wire
open Go.ChangeShapes Go.WideShapes Go.ChangeAt Go.RowKit
set_option linter.unusedVariables false

end Go.Proofs.YtckjmabacibojaaDoor.Wire
namespace Go.Proofs.YtckjmabacibojaaDoor.Wire
open Go.ChangeShapes Go.WideShapes Go.ChangeAt Go.RowKit
set_option linter.unusedVariables false

/-- What reading a text tells. -/
inductive TR where
  | bad (err : Int)
  | ok (ys : List Nat) (k : Nat)
def tr (rest : List Nat) (most : Int) : TR :=
  match vr 0 0 rest with
  | .short => .bad 3
  | .form => .bad 4
  | .ok z k => if most < 0 ∨ most < (z : Int) then .bad 4 else if rest.length - k < z then .bad 3 else .ok ((rest.drop k).take z) (k + z)
def TPhi (at_ : Nat) (R : TR) (v : Value) (a' : Nat) (err : Int) (w' : World) : Prop :=
  match R with
  | .bad f => err = f
  | .ok ys k => v = .string (strOf ys) ∧ a' = at_ + k ∧ err = 0
theorem bad_of {at_ : Nat} {f : Int} {v : Value} {a' : Nat} {w' : World} {R : TR} (h : R = .bad f) : TPhi at_ R v a' f w' := by subst h; rfl
theorem ok_of {at_ : Nat} {ys : List Nat} {k : Nat} {v : Value} {a' : Nat} {w' : World} {R : TR} (h : R = .ok ys k) (hv : v = .string (strOf ys)) (ha : a' = at_ + k) : TPhi at_ R v a' 0 w' := by subst h; exact ⟨hv, ha, rfl⟩
/-- What Text comes to. -/
def TPost (w : World) (g : Nat) (s : Value) (at_ : Nat) (R : TR) (e : Ending) (w' : World) : Prop :=
  match R with
  | .bad f => e = .returned (.string ⟨#[]⟩) ∧ Eff w w' g s at_ f
  | .ok ys k => e = .returned (.string (strOf ys)) ∧ Eff w w' g s (at_ + k) 0
theorem tr_bad {rest : List Nat} {most : Int} {f : Int} (h : tr rest most = .bad f) : f ≠ 0 := by
  unfold tr at h
  split at h
  · cases h; decide
  · cases h; decide
  · split at h
    · cases h; decide
    · split at h
      · cases h; decide
      · cases h
theorem tpost_of {w w' : World} {g : Nat} {s : Value} {at_ : Nat} {R : TR} (hR : ∀ f, R = .bad f → f ≠ 0) {e : Ending} (h : RP w g s (.string ⟨#[]⟩) at_ (TPhi at_ R) e w') : TPost w g s at_ R e w' := by
  rcases h with ⟨v, a', rfl, hE, hm⟩ | ⟨err, hne, rfl, hE, v0, a0, w0, hm⟩
  · cases R with
    | bad f => exact absurd hm.symm (hR f rfl)
    | ok ys k => obtain ⟨rfl, rfl, _⟩ := hm; exact ⟨rfl, hE⟩
  · cases R with
    | bad f => obtain rfl : err = f := hm; exact ⟨rfl, hE⟩
    | ok ys k => exact absurd hm.2.2 hne
end Go.Proofs.YtckjmabacibojaaDoor.Wire
namespace Go.Proofs.YtckjmabacibojaaDoor.Wire
open Go.ChangeShapes Go.WideShapes Go.ChangeAt Go.RowKit
set_option linter.unusedVariables false

theorem bs_new (w : World) (t : TypeId) (fr : Nat × Nat) (xs : List Nat) (hb : ∀ j, xs.getD j 0 < 256) : Bs (w.alloc (.cells ((xs.map fun x => Value.int .u8 (x : Nat)).toArray) t fr)) (some ⟨w.heap.size, 0, none⟩) xs.length xs :=
  ⟨rfl, hb, fun _ => ⟨w.heap.size, 0, rfl, by simp, fun j hj => by
    rw [Nat.zero_add, World.cell?_alloc_mark]
    simp [List.getD_eq_getElem?_getD, List.getElem?_eq_getElem hj]⟩⟩
theorem small_of {xs : List Nat} (h : xs.all (fun x => decide (x < 256)) = true) (j : Nat) : xs.getD j 0 < 256 :=
  small_mem (fun c hc => by simpa using List.all_eq_true.1 h c hc) j
theorem vb300 : vb 300 = [172, 2] := by rw [vb_more (by omega), vb_small (by omega)]
theorem vb3 : vb (zz (-2)) = [3] := by rw [show zz (-2) = 3 from by decide, vb_small (by omega)]
theorem vb2 : vb 2 = [2] := vb_small (by omega)
theorem nats_hi : natsOf ⟨#[104, 105]⟩ = [104, 105] := by decide
theorem tr_known : tr [2, 104, 105] 5 = .ok [104, 105] 3 := by rfl
theorem vr_bad : vr 0 0 [128, 0] = .form := by rfl
theorem Rdr.other {w w' : World} {g g' : Nat} {s : Value} {i : Nat} {e : Int} (h : Rdr w g s i e) (hg : w.grownBy w' (some g')) (hne : g ≠ g') : Rdr w' g s i e :=
  (hg.block g (Blk.lt h) (by simpa using hne)).trans h
theorem RB.other {w w' : World} {g g' : Nat} {A : Option Addr} {n c : Nat} {xs : List Nat} (h : RB w g A n c xs) (hg : w.grownBy w' (some g')) (hne : ∀ a, A = some a → a.block ≠ g') : RB w' g A n c xs :=
  ⟨h.1.kept hg (fun a ha => by have := hne a ha; simpa using this), h.2⟩
theorem put_a (w : World) : Calls Tryd.prog 17 #[.slice (some ⟨w.heap.size, 0, none⟩) 1 1, .int .u64 300] (w.alloc (.cells #[.int .u8 97] 5 (1, 2))) (Puts (w.alloc (.cells #[.int .u8 97] 5 (1, 2))) [97, 172, 2]) := by
  have h := put (some ⟨w.heap.size, 0, none⟩) 1 1 [97] 300 (by omega) _ (bs_new w 5 (1, 2) [97] (small_of (by decide))) (fun h => by cases h) (by omega) (by omega) (by omega)
  rw [vb300] at h
  exact h
theorem put_c (w : World) : Calls Tryd.prog 15 #[.slice none 0 0, .int .u32 16909060] w (Puts w [1, 2, 3, 4]) :=
  putFixed none 0 0 [] 16909060 (by omega) w (Bs.none _ _) (fun _ => ⟨rfl, rfl⟩) (by omega) (by omega) (by omega)
theorem len7 : ([1, 2, 3, 4, 2, 104, 105] : List Nat).length = 7 := rfl
end Go.Proofs.YtckjmabacibojaaDoor.Wire
namespace Go.Proofs.YtckjmabacibojaaDoor.Lz
open Go.ChangeShapes Go.WideShapes Go.ChangeAt Go.RowKit Go.Shelf
open Go.Proofs.YtckjmabacibojaaDoor.Wire Go.Proofs.YtckjmabacibojaaDoor.Map32
set_option linter.unusedVariables false

theorem pk_small {xs : List Nat} (hx : ∀ j, xs.getD j 0 < 256) : ∀ (n told a : Nat), xs.length - a = n → ∀ c ∈ pk xs told a, c < 256 := by
  have hm := mem_small hx
  intro n
  induction n using Nat.strongRecOn with
  | ind n ih =>
    intro told a hn
    by_cases h : a < xs.length
    · by_cases h2 : (bst xs a).2 = 0
      · rw [pk_lit h h2]; exact ih (xs.length - (a + 1)) (by omega) told (a + 1) rfl
      · rw [pk_match h h2]
        rcases bst_good hx a with hg | ⟨g1, g2, g3, g4, g5, g6, g7⟩
        · rw [hg] at h2; exact absurd rfl h2
        · intro c hc
          rcases List.mem_append.1 hc with hc | hc
          · exact litT_small _ _ rfl (fun c hc => hm c (List.mem_of_mem_drop (List.mem_of_mem_take hc))) c hc
          · rcases List.mem_cons.1 hc with rfl | hc
            · omega
            · rcases List.mem_append.1 hc with hc | hc
              · exact mem_small (vb_byte _) c hc
              · exact ih (xs.length - (a + (bst xs a).2)) (by omega) _ _ rfl c hc
    · rw [pk_end (by omega)]
      exact litT_small _ _ rfl (fun c hc => hm c (List.mem_of_mem_drop hc))
theorem pk_byte {xs : List Nat} (hx : ∀ j, xs.getD j 0 < 256) : ∀ j, (pk xs 0 0).getD j 0 < 256 := small_mem (pk_small hx _ 0 0 rfl)
theorem pk_k1 : pk [97, 97, 97, 97, 97, 97, 97, 97] 0 0 = [0, 97, 9, 0] := by
  have b0 : bst [97, 97, 97, 97, 97, 97, 97, 97] 0 = (0, 0) := by decide
  have b1 : bst [97, 97, 97, 97, 97, 97, 97, 97] 1 = (1, 7) := by decide
  rw [pk_lit (by decide) (by rw [b0]), pk_match (by decide) (by rw [b1]; decide), b1, pk_end (by decide), vb_small (by decide)]
  have e : ([97, 97, 97, 97, 97, 97, 97, 97] : List Nat).drop (0 + 1 + 7) = [] := rfl
  rw [e, litT_nil]
  have e2 : (([97, 97, 97, 97, 97, 97, 97, 97] : List Nat).drop 0).take (0 + 1 - 0) = [97] := rfl
  rw [e2, litT_step (by decide)]
  have e3 : ([97] : List Nat).drop (min 64 [97].length) = [] := rfl
  rw [e3, litT_nil]
  rfl
theorem pack_k (w : World) : Calls Tryd.prog 13 #[.slice (some ⟨w.heap.size, 0, none⟩) 8 8] (w.alloc (.cells #[.int .u8 97, .int .u8 97, .int .u8 97, .int .u8 97, .int .u8 97, .int .u8 97, .int .u8 97, .int .u8 97] 5 (8, 9)))
    (PkPost (w.alloc (.cells #[.int .u8 97, .int .u8 97, .int .u8 97, .int .u8 97, .int .u8 97, .int .u8 97, .int .u8 97, .int .u8 97] 5 (8, 9))) [0, 97, 9, 0]) := by
  have h1 := bs_new w 5 (8, 9) [97, 97, 97, 97, 97, 97, 97, 97] (small_of (by decide))
  have h := pack _ 8 8 _ _ h1 (by omega) (by omega) (by omega)
  rw [pk_k1] at h
  exact h
theorem unp_k1 : unp 8 [] [0, 97, 9, 0] = .ok [97, 97, 97, 97, 97, 97, 97, 97] := by
  have h := unp_pk (xs := [97, 97, 97, 97, 97, 97, 97, 97]) (small_of (by decide)) _ 0 0 rfl (Nat.le_refl _) (Nat.zero_le _)
  rw [pk_k1] at h
  exact h
theorem unp_k2 : unp 7 [] [0, 97, 9, 0] = .bad 6 := by
  have h := unp_low (xs := [97, 97, 97, 97, 97, 97, 97, 97]) (small_of (by decide)) 7 (by decide) _ 0 0 rfl (Nat.le_refl _) (Nat.zero_le _) (Nat.zero_le _)
  rw [pk_k1] at h
  exact h
theorem un_a (B : Option Addr) (cd : Nat) (w : World) (hB : Bs w B 4 [0, 97, 9, 0]) : Calls Tryd.prog 25 #[.slice B 4 cd, .int .i64 8] w (UPost w (.ok [97, 97, 97, 97, 97, 97, 97, 97])) := by
  have hn : B = none → 4 = 0 ∧ cd = 0 := fun e => by obtain ⟨b, o, he, _⟩ := hB.2.2 (by omega); rw [e] at he; cases he
  have h := unpack B 4 cd _ 8 w hB hn (by omega) (by omega) (by omega)
  rw [show (8 : Int).toNat = 8 from rfl, unp_k1] at h
  exact h
theorem un_b (B : Option Addr) (cd : Nat) (w : World) (hB : Bs w B 4 [0, 97, 9, 0]) : Calls Tryd.prog 25 #[.slice B 4 cd, .int .i64 7] w (UPost w (.bad 6)) := by
  have hn : B = none → 4 = 0 ∧ cd = 0 := fun e => by obtain ⟨b, o, he, _⟩ := hB.2.2 (by omega); rw [e] at he; cases he
  have h := unpack B 4 cd _ 7 w hB hn (by omega) (by omega) (by omega)
  rw [show (7 : Int).toNat = 7 from rfl, unp_k2] at h
  exact h
end Go.Proofs.YtckjmabacibojaaDoor.Lz
namespace Go.Proofs.YtckjmabacibojaaDoor.Wire
open Go.ChangeShapes Go.WideShapes Go.ChangeAt Go.RowKit
set_option linter.unusedVariables false

set_option maxHeartbeats 1000000 in
theorem refFixed (m : Nat) (h : m < 4294967296) (w : World) : Calls Tryd.prog 20 #[.int .u32 (m : Int)] w fun e w' => e = .returned (.string (strOf (fx m))) ∧ Ext w w' := by
  have e : ((fx m).map fun x => Value.int .u8 (x : Nat)).toArray = #[.int .u8 ((m : Int) / 16777216), .int .u8 ((m : Int) / 65536 % 256), .int .u8 ((m : Int) / 256 % 256), .int .u8 ((m : Int) % 256)] := by simp [fx]
  have hB := bs_new w 5 (0, 0) (fx m) (small_mem (fx_mem h))
  rw [e] at hB
  have hcv := hB.conv (P := Tryd.prog) 22 5 9 Tryd.underlying22 Tryd.underlying5 Tryd.underlying9 4
  rw [show (fx m).length = 4 from rfl] at hcv
  clear e hB
  generalize strOf (fx m) = S at *
  go_enter Tryd.func20, Tryd.ntmps20
  go_wp2_with fail
  go_ret
  exact ⟨rfl, ext_alloc (Ext.rfl' _) _⟩
theorem one_conv (B : Nat) (w : World) (x : Nat) (hx : x < 256) (h : w.cell? ⟨B, 0, none⟩ = some (.int .u8 (x : Int))) : (convert 22 9 (.slice (some ⟨B, 0, none⟩) 1 1)).run Tryd.prog w = .ok (.string (strOf [x])) w := by
  have hB : Bs w (some ⟨B, 0, none⟩) 1 [x] := ⟨rfl, small_mem (fun c hc => by simp at hc; omega), fun _ => ⟨B, 0, rfl, World.block_lt_of_cell? w _ h, fun j hj => by
    obtain rfl : j = 0 := by omega
    simpa using h⟩⟩
  exact hB.conv (P := Tryd.prog) 22 5 9 Tryd.underlying22 Tryd.underlying5 Tryd.underlying9 1
set_option maxHeartbeats 4000000 in
set_option maxRecDepth 100000 in
theorem refVarint (n : Nat) : ∀ (h : n < 18446744073709551616) (w : World), Calls Tryd.prog 19 #[.int .u64 (n : Int)] w fun e w' => e = .returned (.string (strOf (vb n))) ∧ Ext w w' := by
  induction n using Nat.strongRecOn with
  | _ n ih =>
    intro h w
    by_cases hlt : n < 128
    · rw [vb_small hlt]
      have hcv := one_conv w.heap.size (w.alloc (.cells #[.int .u8 (n : Int)] 5)) n (by omega) (by simp)
      generalize strOf [n] = S at *
      clear ih h
      go_enter Tryd.func19, Tryd.ntmps19
      go_wp2_with fail
      go_ret
      exact ⟨rfl, ext_alloc (Ext.rfl' _) _⟩
    · have HIH := Lib.hid (fun w => ih (n / 128) (by omega) (by omega) w)
      have HV : Hid (strOf (vb n) = strOf [n % 128 + 128] ++ strOf (vb (n / 128))) := Lib.hid (by rw [vb_more hlt, ← strOf_app]; rfl)
      have hdi : (n : Int) / 128 = ((n / 128 : Nat) : Int) := by omega
      obtain ⟨y, hy⟩ : ∃ y, y = n % 128 + 128 := ⟨_, rfl⟩
      obtain ⟨r, hr⟩ : ∃ r, r = n % 128 := ⟨_, rfl⟩
      have hcv : ∀ (B : Nat) (w' : World), w'.cell? ⟨B, 0, none⟩ = some (.int .u8 (y : Int)) → (convert 22 9 (.slice (some ⟨B, 0, none⟩) 1 1)).run Tryd.prog w' = .ok (.string (strOf [y])) w' := fun B w' hc => one_conv B w' y (by omega) hc
      have ht : (n : Int).tmod 128 = (r : Int) := by rw [Int.tmod_eq_emod_of_nonneg (by omega)]; omega
      have hw1 : IntKind.u64.wrap ((r : Int) + 128) = (y : Int) := by rw [IntKind.wrap_u64]; omega
      have hw2 : IntKind.u8.wrap (y : Int) = (y : Int) := by rw [IntKind.wrap_u8]; omega
      have hw3 : IntKind.u64.wrap ((n / 128 : Nat) : Int) = ((n / 128 : Nat) : Int) := by rw [IntKind.wrap_u64]; omega
      have HW := Lib.hid (And.intro ht (And.intro hw1 (And.intro hw2 hw3)))
      rw [← hy] at HV
      have hsz : ¬ (9223372036854775807 < (strOf [y]).size + (strOf (vb (n / 128))).size) := by
        rw [strOf_size, strOf_size]
        have := vb_ten (n := n / 128) (by omega)
        simp; omega
      clear ih h hy hr ht hw1 hw2 hw3
      generalize strOf [y] = S1 at *
      generalize n / 128 = q at *
      generalize strOf (vb q) = S2 at *
      rw [HV.out]
      go_enter Tryd.func19, Tryd.ntmps19
      go_wp2_with fail
      obtain ⟨ht, hw1, hw2, hw3⟩ := HW.out
      go_region_with (go_at_call 19; refine (HIH.out _).mono ?_; rintro e w8 ⟨rfl, b8⟩; obtain ⟨hcl, hfr⟩ := ecell b8; have hz8 := b8.size; have B8 := Lib.hid b8; clear b8)
      all_goals
        clear hcl hfr hcv
        go_wp2_with fail
        go_ret
        refine ⟨rfl, ?_⟩
        first
        | exact ext_trans (ext_drew (ext_alloc (Ext.rfl' _) _)) B8.out
        | exact ext_alloc (ext_trans (ext_drew (Ext.rfl' _)) B8.out) _
end Go.Proofs.YtckjmabacibojaaDoor.Wire
namespace Go.Proofs.YtckjmabacibojaaDoor.Lz
open Go.ChangeShapes Go.WideShapes Go.ChangeAt Go.RowKit
open Go.Proofs.YtckjmabacibojaaDoor.Wire Go.Proofs.YtckjmabacibojaaDoor.Map32
set_option linter.unusedVariables false

/-- One more place looked at, as the document says it. -/
def pickR (xs : List Nat) (a : Nat) (s : Nat × Nat) (f : Nat) : Nat × Nat := if s.2 < mt xs f a ∧ (3 < mt xs f a ∨ a - f ≤ 128) then (a - f, mt xs f a) else s
theorem fold_pickR {xs : List Nat} {a : Nat} : ∀ (l : List Nat) (s : Nat × Nat), (s = (0, 0) ∨ 3 ≤ s.2) → (∀ f ∈ l, s.1 < a - f ∧ 3 ≤ mt xs f a) → l.Pairwise (fun f g => g < f) → l.foldl (pickR xs a) (mask s) = mask (l.foldl (pick xs a) s)
  | [], s, _, _, _ => rfl
  | f :: l, s, hs, hl, hp => by
    obtain ⟨h1, h2⟩ := hl f List.mem_cons_self
    rw [List.pairwise_cons] at hp
    rw [List.foldl_cons, List.foldl_cons]
    by_cases hlt : s.2 < mt xs f a
    · have e1 : pick xs a s f = (a - f, mt xs f a) := if_pos hlt
      have e2 : pickR xs a (mask s) f = mask (a - f, mt xs f a) := by
        by_cases h3 : 3 < mt xs f a
        · have e3 : mask (a - f, mt xs f a) = (a - f, mt xs f a) := if_neg (fun h => by have := h.1; simp only at this; omega)
          rw [e3]
          refine if_pos ⟨?_, .inl h3⟩
          unfold mask
          split
          · show 0 < _; omega
          · exact hlt
        · have h3' : mt xs f a = 3 := by omega
          rcases hs with rfl | hs
          · have e0 : mask (0, 0) = (0, 0) := rfl
            rw [e0]
            by_cases hn : a - f ≤ 128
            · rw [show mask (a - f, mt xs f a) = (a - f, mt xs f a) from if_neg (fun h => by have := h.2; simp only at this; omega)]
              exact if_pos ⟨hlt, .inr hn⟩
            · rw [show mask (a - f, mt xs f a) = (0, 0) from if_pos ⟨h3', by simp only; omega⟩]
              exact if_neg (fun h => by rcases h.2 with h | h <;> omega)
          · omega
      rw [e1, e2]
      refine fold_pickR l (a - f, mt xs f a) (.inr h2) (fun g hg => ?_) hp.2
      have := hl g (List.mem_cons_of_mem _ hg)
      have := hp.1 g hg
      exact ⟨by simp only; omega, by omega⟩
    · have e1 : pick xs a s f = s := if_neg hlt
      have e2 : pickR xs a (mask s) f = mask s := by
        refine if_neg (fun h => ?_)
        have h4 := h.1
        unfold mask at h4
        split at h4
        · rename_i hc
          rcases h.2 with h5 | h5 <;> omega
        · exact hlt h4
      rw [e1, e2]
      exact fold_pickR l s hs (fun g hg => hl g (List.mem_cons_of_mem _ hg)) hp.2
theorem pls_sorted (xs : List Nat) (lo hi k : Nat) : (pls xs lo hi k).Pairwise (fun f g => f < g) := by
  unfold pls
  exact List.Pairwise.filter _ List.pairwise_lt_range
theorem bst_ref {xs : List Nat} (hx : ∀ j, xs.getD j 0 < 256) {a : Nat} (h : a + 3 ≤ xs.length) : bst xs a = (seen xs a (key xs a)).reverse.foldl (pickR xs a) (0, 0) := by
  have e := fold_pickR (xs := xs) (a := a) (seen xs a (key xs a)).reverse (0, 0) (.inl rfl) (fun f hf => by
    obtain ⟨h1, h2, h3⟩ := seen_mt hx h (List.mem_reverse.1 hf)
    exact ⟨by simp only; omega, h3⟩) (by
      rw [List.pairwise_reverse]
      exact List.Pairwise.sublist (List.drop_sublist _ _) (pls_sorted _ _ _ _))
  unfold bst
  rw [if_pos h]
  exact e.symm
end Go.Proofs.YtckjmabacibojaaDoor.Lz
namespace Go.Proofs.YtckjmabacibojaaDoor.Lz
open Go.ChangeShapes Go.WideShapes Go.ChangeAt Go.RowKit
open Go.Proofs.YtckjmabacibojaaDoor.Wire Go.Proofs.YtckjmabacibojaaDoor.Map32
open Go.Proofs.YtckjmabacibojaaDoor.Com (natsOf_get str_ext)
set_option linter.unusedVariables false

def MRel (w : World) (xs : List Nat) (f a : Nat) (nv : Value) (wr : World) : Prop :=
  ∃ n : Nat, n ≤ 66 ∧ a + n ≤ xs.length ∧ nv = .int .i64 (n : Int) ∧ (∀ j, j < n → xs.getD (f + j) 0 = xs.getD (a + j) 0) ∧ Ext w wr
set_option maxHeartbeats 4000000 in
set_option maxRecDepth 100000 in
theorem refMatch (s : ByteArray) (f a : Nat) (w : World) (hs : s.size ≤ 1000000) (hf : f < a) (ha : a ≤ s.size) :
    Calls Tryd.prog 49 #[.string s, .int .i64 (f : Int), .int .i64 (a : Int)] w fun e w' => e = .returned (.int .i64 (mt (natsOf s) f a : Nat)) ∧ Ext w w' := by
  have hl : (natsOf s).length = s.size := natsOf_len s
  have HL := Lib.hid hl; clear hl
  have HG := Lib.hid (fun k hk => natsOf_get s k hk)
  go_enter Tryd.func49, Tryd.ntmps49
  go_wp2_with fail
  go_loopw [7] (fun nv wr => MRel w (natsOf s) f a nv wr) (fun nv wr => 66 - (intOf nv).toNat)
  case atStart => exact ⟨0, by omega, by rw [HL.out]; exact ha, rfl, fun j hj => by omega, Ext.rfl' _⟩
  case round =>
    obtain ⟨n, hn, hna, rfl, hj, hE⟩ := hrel
    rw [HL.out] at hna
    have HJ := Lib.hid hj; have HE := Lib.hid hE; clear hj hE
    have HX : Hid (∀ m, Ext w (wr.drewN m)) := Lib.hid (fun m => ext_drewN HE.out m)
    go_wp2_with fail
    by_cases h66 : n < 66
    · have z0 : (n : Int) < 66 := by omega
      by_cases hin : a + n < s.size
      · have z1 : (a : Int) + (n : Int) < (s.size : Int) := by omega
        have HST := Lib.hid (fun h => mt_stop (xs := natsOf s) (f := f) (a := a) (n := n) (by rw [HL.out]; omega) HJ.out h)
        have g1 := HG.out (f + n) (by omega)
        have g2 := HG.out (a + n) hin
        rw [g1, g2] at HST
        have s1 : (0 : Int) ≤ (f : Int) + (n : Int) := by omega
        have s2 : (f : Int) + (n : Int) < (s.size : Int) := by omega
        have s3 : ((f : Int) + (n : Int)).toNat = f + n := by omega
        have s4 : (0 : Int) ≤ (a : Int) + (n : Int) := by omega
        have s6 : ((a : Int) + (n : Int)).toNat = a + n := by omega
        by_cases heq : s[f + n].toNat = s[a + n].toNat
        · have HJ2 : Hid (∀ j, j < n + 1 → (natsOf s).getD (f + j) 0 = (natsOf s).getD (a + j) 0) := Lib.hid (fun j hj => by
            by_cases h : j = n
            · rw [h, g1, g2]; exact heq
            · exact HJ.out j (by omega))
          have z5 : (((s[f + n].toNat : Nat) : Int) == ((s[a + n].toNat : Nat) : Int)) = true := beq_iff_eq.2 (by omega)
          clear g1 g2 HST
          go_quiet (fail)
          go_wp2_with fail
          exact ⟨⟨n + 1, by omega, by rw [HL.out]; omega, by go_num, HJ2.out, HX.out _⟩, by simp only [intOf]; omega⟩
        · have hnm := HST.out heq
          have z5 : (((s[f + n].toNat : Nat) : Int) == ((s[a + n].toNat : Nat) : Int)) = false := beq_eq_false_iff_ne.2 (by omega)
          clear g1 g2 HST
          have HNM := Lib.hid hnm; clear hnm
          go_quiet (fail)
          go_wp2_with fail
          refine bodyPost_ret (results_tmp rfl _ _ _) rfl ?_
          exact ⟨by rw [HNM.out]; rfl, HX.out _⟩
      · have z1 : decide ((a : Int) + (n : Int) < (s.size : Int)) = false := decide_eq_false (by omega)
        have HNM := Lib.hid (mt_most (xs := natsOf s) (f := f) (a := a) (n := n) (by rw [HL.out]; omega) HJ.out)
        go_quiet (fail)
        go_wp2_with fail
        refine bodyPost_ret (results_tmp rfl _ _ _) rfl ?_
        exact ⟨by rw [HNM.out]; rfl, HX.out _⟩
    · have z0 : decide ((n : Int) < 66) = false := decide_eq_false (by omega)
      have HNM := Lib.hid (mt_most (xs := natsOf s) (f := f) (a := a) (n := n) (by rw [HL.out]; omega) HJ.out)
      go_quiet (fail)
      go_wp2_with fail
      refine bodyPost_ret (results_tmp rfl _ _ _) rfl ?_
      exact ⟨by rw [HNM.out]; rfl, HX.out _⟩
end Go.Proofs.YtckjmabacibojaaDoor.Lz
namespace Go.Proofs.YtckjmabacibojaaDoor.Lz
open Go.ChangeShapes Go.WideShapes Go.ChangeAt Go.RowKit
open Go.Proofs.YtckjmabacibojaaDoor.Wire Go.Proofs.YtckjmabacibojaaDoor.Map32
set_option linter.unusedVariables false

theorem pls_empty (xs : List Nat) (m k : Nat) : pls xs m m k = [] := by
  apply List.eq_nil_iff_forall_not_mem.2; intro p hp; rw [pls_mem] at hp; omega
theorem pls_split {xs : List Nat} {lo m k : Nat} (h : lo ≤ m) : ∀ hi, m ≤ hi → pls xs lo hi k = pls xs lo m k ++ pls xs m hi k := by
  intro hi
  induction hi with
  | zero => intro hm; obtain rfl : m = 0 := by omega
            rw [pls_empty, List.append_nil]
  | succ hi ih =>
    intro hm
    by_cases he : m = hi + 1
    · subst he; rw [pls_empty, List.append_nil]
    · rw [pls_snoc (by omega), pls_snoc (by omega), ih (by omega)]
      split
      · rw [List.append_assoc]
      · rfl
theorem last16_app {l r : List Nat} (h : r.length = 16) : last16 (l ++ r) = r := by
  unfold last16
  rw [List.length_append, show l.length + r.length - 16 = l.length from by omega, List.drop_left]
/-- The loop is at its end: all that may be seen has been looked at. -/
theorem seen_all {xs : List Nat} {a m k : Nat} (hm : m ≤ a) (hw : a - 4096 ≤ m) (hl : (pls xs m a k).length ≤ 16) (he : m = a - 4096 ∨ (pls xs m a k).length = 16) : seen xs a k = pls xs m a k := by
  unfold seen
  generalize a - 4096 = lo at *
  rcases he with he | he
  · rw [← he]; exact last16_few hl
  · rw [pls_split hw a hm, last16_app he]
/-- Three bytes match where the key is the same. -/
theorem mt_three {xs : List Nat} (hx : ∀ j, xs.getD j 0 < 256) {a f : Nat} (hf : f < a) : 3 ≤ mt xs f a ↔ a + 3 ≤ xs.length ∧ key xs f = key xs a := by
  constructor
  · intro h
    have h1 := mt_le xs f a
    refine ⟨by omega, (key_inj hx).2 ⟨?_, ?_, ?_⟩⟩
    · have := mtU_eq (xs := xs) (f := f) (a := a) _ 0 (show 0 < mt xs f a by omega); simpa using this
    · exact mtU_eq (xs := xs) (f := f) (a := a) _ 1 (show 1 < mt xs f a by omega)
    · exact mtU_eq (xs := xs) (f := f) (a := a) _ 2 (show 2 < mt xs f a by omega)
  · rintro ⟨h1, h2⟩
    obtain ⟨e0, e1, e2⟩ := (key_inj hx).1 h2
    refine mtU_ge _ 3 (by omega) (fun j hj => ?_)
    rcases (show j = 0 ∨ j = 1 ∨ j = 2 by omega) with rfl | rfl | rfl
    · simpa using e0
    · exact e1
    · exact e2
end Go.Proofs.YtckjmabacibojaaDoor.Lz
namespace Go.Proofs.YtckjmabacibojaaDoor.Lz
open Go.ChangeShapes Go.WideShapes Go.ChangeAt Go.RowKit
open Go.Proofs.YtckjmabacibojaaDoor.Wire Go.Proofs.YtckjmabacibojaaDoor.Map32
set_option linter.unusedVariables false

/-- The places looked at so far, from the latest. -/
def lkd (xs : List Nat) (a m : Nat) : List Nat := if a + 3 ≤ xs.length then (pls xs m a (key xs a)).reverse else []
def stR (xs : List Nat) (a m : Nat) : Nat × Nat := (lkd xs a m).foldl (pickR xs a) (0, 0)
def plc (a : Nat) (s : Nat × Nat) : Nat := if s.2 = 0 then 0 else a - s.1
theorem lkd_step {xs : List Nat} (hx : ∀ j, xs.getD j 0 < 256) {a m : Nat} (hm : m < a) (ha : a ≤ xs.length) : lkd xs a m = if 3 ≤ mt xs m a then lkd xs a (m + 1) ++ [m] else lkd xs a (m + 1) := by
  unfold lkd
  by_cases h : a + 3 ≤ xs.length
  · rw [if_pos h, if_pos h, filter_lo a hm]
    by_cases hk : key xs m = key xs a
    · rw [if_pos ⟨by omega, hk⟩, if_pos ((mt_three hx hm).2 ⟨h, hk⟩), List.reverse_cons]
    · rw [if_neg (fun e => hk e.2), if_neg (fun e => hk ((mt_three hx hm).1 e).2)]
  · rw [if_neg h, if_neg h, if_neg (fun e => h ((mt_three hx hm).1 e).1)]
theorem stR_step {xs : List Nat} (hx : ∀ j, xs.getD j 0 < 256) {a m : Nat} (hm : m < a) (ha : a ≤ xs.length) : stR xs a m = if 3 ≤ mt xs m a then pickR xs a (stR xs a (m + 1)) m else stR xs a (m + 1) := by
  unfold stR
  rw [lkd_step hx hm ha]
  split
  · rw [List.foldl_append]; rfl
  · rfl
theorem stR_end {xs : List Nat} (hx : ∀ j, xs.getD j 0 < 256) {a m : Nat} (hm : m ≤ a) (hw : a - 4096 ≤ m) (hl : (lkd xs a m).length ≤ 16) (he : m = a - 4096 ∨ (lkd xs a m).length = 16) : stR xs a m = bst xs a := by
  unfold stR lkd at *
  by_cases h : a + 3 ≤ xs.length
  · rw [if_pos h] at hl he ⊢
    rw [List.length_reverse] at hl he
    rw [bst_ref hx h, seen_all hm hw hl he]
  · rw [if_neg h, bst_end (by omega)]; rfl
def QRel (w : World) (xs : List Nat) (a : Nat) (pv nv lv fv : Value) (wr : World) : Prop :=
  ∃ m : Nat, m ≤ a ∧ a - 4096 ≤ m ∧ (lkd xs a m).length ≤ 16 ∧ pv = .int .i64 (plc a (stR xs a m) : Nat) ∧ nv = .int .i64 ((stR xs a m).2 : Nat) ∧ lv = .int .i64 ((lkd xs a m).length : Nat) ∧ fv = .int .i64 ((m : Int) - 1) ∧ (stR xs a m).2 ≤ 66 ∧ Ext w wr
set_option maxHeartbeats 8000000 in
set_option maxRecDepth 100000 in
theorem refBest (s : ByteArray) (a : Nat) (w : World) (hs : s.size ≤ 1000000) (ha : a ≤ s.size) :
    Calls Tryd.prog 32 #[.string s, .int .i64 (a : Int)] w fun e w' => e = .returned (.tuple #[.int .i64 (plc a (bst (natsOf s) a) : Nat), .int .i64 ((bst (natsOf s) a).2 : Nat)]) ∧ Ext w w' := by
  have HX := Lib.hid (natsOf_small s)
  have HL := Lib.hid (natsOf_len s)
  have HM := Lib.hid (fun f W (h : f < a) => refMatch s f a W hs h ha)
  obtain ⟨xs, hxs⟩ : ∃ xs, xs = natsOf s := ⟨_, rfl⟩
  rw [← hxs] at HX HL HM ⊢
  clear hxs
  go_enter Tryd.func32, Tryd.ntmps32
  go_wp2_with fail
  go_loopw [6, 7, 8, 9] (fun pv nv lv fv wr => QRel w xs a pv nv lv fv wr) (fun _ _ _ fv wr => (intOf fv + 1).toNat)
  case atStart =>
    have e : lkd xs a a = [] := by unfold lkd; split; · rw [pls_empty]; rfl
                                   · rfl
    have e2 : stR xs a a = (0, 0) := by unfold stR; rw [e]; rfl
    exact ⟨a, Nat.le_refl _, by omega, by rw [e]; exact Nat.zero_le _, by rw [e2]; rfl, by rw [e2]; rfl, by rw [e]; rfl, rfl, by rw [e2]; exact Nat.zero_le _, Ext.rfl' _⟩
  case round =>
    obtain ⟨m, hm, hw, hl16, rfl, rfl, rfl, rfl, h66, hE⟩ := hrel
    have HE := Lib.hid hE; clear hE
    have HEND : Hid (m = a - 4096 ∨ (lkd xs a m).length = 16 → stR xs a m = bst xs a) := Lib.hid (fun h => stR_end HX.out hm hw hl16 h)
    by_cases hend : m = a - 4096 ∨ (lkd xs a m).length = 16
    · have HB := Lib.hid (HEND.out hend)
      obtain ⟨P1, hP1⟩ : ∃ P1, P1 = plc a (stR xs a m) := ⟨_, rfl⟩
      obtain ⟨N1, hN1⟩ : ∃ N1, N1 = (stR xs a m).2 := ⟨_, rfl⟩
      obtain ⟨K, hK⟩ : ∃ K, K = (lkd xs a m).length := ⟨_, rfl⟩
      rw [← hP1, ← hN1, ← hK]
      rw [← hK] at hend hl16
      have HP1 := Lib.hid hP1; have HN1 := Lib.hid hN1
      clear hP1 hN1 hK h66 HEND
      by_cases hm0 : m = 0
      · have z1 : ¬ (0 : Int) ≤ (m : Int) - 1 := by omega
        clear hend
        go_wp2_with fail
        go_ret2
        exact ⟨by rw [HP1.out, HN1.out, HB.out]; rfl, HE.out⟩
      · have z1 : (0 : Int) ≤ (m : Int) - 1 := by omega
        by_cases hfar : m = a - 4096
        · have z2 : ¬ (a : Int) - ((m : Int) - 1) ≤ 4096 := by omega
          clear hend hfar
          go_wp2_with fail
          go_ret2
          exact ⟨by rw [HP1.out, HN1.out, HB.out]; rfl, HE.out⟩
        · have z2 : (a : Int) - ((m : Int) - 1) ≤ 4096 := by omega
          have z3 : ¬ (K : Int) < 16 := by omega
          clear hend
          go_wp2_with fail
          go_ret2
          exact ⟨by rw [HP1.out, HN1.out, HB.out]; rfl, HE.out⟩
    · obtain ⟨f, rfl⟩ : ∃ f, m = f + 1 := ⟨m - 1, by omega⟩
      have HST := Lib.hid (stR_step HX.out (a := a) (m := f) (by omega) (by rw [HL.out]; exact ha))
      have HLK := Lib.hid (lkd_step HX.out (a := a) (m := f) (by omega) (by rw [HL.out]; exact ha))
      have hT66 := mt_le xs f a
      clear HEND
      generalize stR xs a (f + 1) = S at *
      generalize lkd xs a (f + 1) = ls at *
      obtain ⟨P1, hP1⟩ : ∃ P1, P1 = plc a S := ⟨_, rfl⟩
      rw [← hP1]
      have HP1 := Lib.hid hP1; clear hP1
      obtain ⟨S1, S2⟩ := S
      simp only at h66 ⊢
      have hK16 : ls.length < 16 := by omega
      have z1 : (0 : Int) ≤ (f : Int) := by omega
      have z2 : (a : Int) - (f : Int) ≤ 4096 := by omega
      have z3 : (ls.length : Int) < 16 := by omega
      clear hend
      go_wp2_with fail
      refine (HM.out f _ (by omega)).mono ?_
      rintro e w1 ⟨rfl, b1⟩
      have HE1 := Lib.hid (ext_trans HE.out b1); clear b1
      obtain ⟨T, hT⟩ : ∃ T, mt xs f a = T := ⟨_, rfl⟩
      rw [hT] at hT66 ⊢
      have HT := Lib.hid hT; clear hT
      by_cases h3 : 3 ≤ T
      · have z4 : ¬ (T : Int) < 3 := by omega
        have HL2 : Hid (lkd xs a f = ls ++ [f]) := Lib.hid (by rw [HLK.out, if_pos (by rw [HT.out]; exact h3)])
        have HS2 : Hid (stR xs a f = if S2 < T ∧ (3 < T ∨ a - f ≤ 128) then (a - f, T) else (S1, S2)) := Lib.hid (by rw [HST.out, if_pos (by rw [HT.out]; exact h3)]; unfold pickR; rw [HT.out])
        by_cases hc : S2 < T
        · have z5 : (S2 : Int) < (T : Int) := by omega
          by_cases h33 : 3 < T
          · have z6 : (3 : Int) < (T : Int) := by omega
            have HS3 : Hid (stR xs a f = (a - f, T)) := Lib.hid (by rw [HS2.out, if_pos ⟨hc, .inl h33⟩])
            have HP2 : Hid (plc a (a - f, T) = f) := Lib.hid (by unfold plc; rw [if_neg (by simp only; omega)]; simp only; omega)
            go_wp2_with fail
            go_roundw
            case rel => exact ⟨f, by omega, by omega, by rw [HL2.out, List.length_append]; simp; omega, by rw [HS3.out, HP2.out], by rw [HS3.out], by rw [HL2.out, List.length_append]; go_num, by go_num, by rw [HS3.out]; simp only; omega, HE1.out⟩
            case measure => simp only [intOf]; omega
          · have z6 : ¬ (3 : Int) < (T : Int) := by omega
            by_cases hnear : a - f ≤ 128
            · have z7 : (a : Int) - (f : Int) ≤ 128 := by omega
              have HS3 : Hid (stR xs a f = (a - f, T)) := Lib.hid (by rw [HS2.out, if_pos ⟨hc, .inr hnear⟩])
              have HP2 : Hid (plc a (a - f, T) = f) := Lib.hid (by unfold plc; rw [if_neg (by simp only; omega)]; simp only; omega)
              go_wp2_with fail
              go_roundw
              case rel => exact ⟨f, by omega, by omega, by rw [HL2.out, List.length_append]; simp; omega, by rw [HS3.out, HP2.out], by rw [HS3.out], by rw [HL2.out, List.length_append]; go_num, by go_num, by rw [HS3.out]; simp only; omega, HE1.out⟩
              case measure => simp only [intOf]; omega
            · have z7 : ¬ (a : Int) - (f : Int) ≤ 128 := by omega
              have HS3 : Hid (stR xs a f = (S1, S2)) := Lib.hid (by rw [HS2.out, if_neg (fun h => by rcases h.2 with h | h <;> omega)])
              go_wp2_with fail
              go_roundw
              case rel => exact ⟨f, by omega, by omega, by rw [HL2.out, List.length_append]; simp; omega, by rw [HS3.out, HP1.out], by rw [HS3.out], by rw [HL2.out, List.length_append]; go_num, by go_num, by rw [HS3.out]; exact h66, HE1.out⟩
              case measure => simp only [intOf]; omega
        · have z5 : ¬ (S2 : Int) < (T : Int) := by omega
          have HS3 : Hid (stR xs a f = (S1, S2)) := Lib.hid (by rw [HS2.out, if_neg (fun h => hc h.1)])
          go_wp2_with fail
          go_roundw
          case rel => exact ⟨f, by omega, by omega, by rw [HL2.out, List.length_append]; simp; omega, by rw [HS3.out, HP1.out], by rw [HS3.out], by rw [HL2.out, List.length_append]; go_num, by go_num, by rw [HS3.out]; exact h66, HE1.out⟩
          case measure => simp only [intOf]; omega
      · have z4 : (T : Int) < 3 := by omega
        have HL2 : Hid (lkd xs a f = ls) := Lib.hid (by rw [HLK.out, if_neg (by rw [HT.out]; exact h3)])
        have HS3 : Hid (stR xs a f = (S1, S2)) := Lib.hid (by rw [HST.out, if_neg (by rw [HT.out]; exact h3)])
        go_wp2_with fail
        go_roundw
        case rel => exact ⟨f, by omega, by omega, by rw [HL2.out]; exact hl16, by rw [HS3.out, HP1.out], by rw [HS3.out], by rw [HL2.out], by go_num, by rw [HS3.out]; exact h66, HE1.out⟩
        case measure => simp only [intOf]; omega
end Go.Proofs.YtckjmabacibojaaDoor.Lz
namespace Go.Proofs.YtckjmabacibojaaDoor.Lz
open Go.ChangeShapes Go.WideShapes Go.ChangeAt Go.RowKit Go.Shelf
open Go.Proofs.YtckjmabacibojaaDoor.Wire Go.Proofs.YtckjmabacibojaaDoor.Map32
set_option linter.unusedVariables false

def RRRel (w : World) (R : List Nat) (M : Nat) (sv ov : Value) (wr : World) : Prop :=
  ∃ (X : ByteArray) (E : List Nat), sv = .string X ∧ ov = .string (strOf E) ∧ X.size ≤ M ∧ E ++ litT (natsOf X) = R ∧ Ext w wr
set_option maxHeartbeats 4000000 in
set_option maxRecDepth 100000 in
theorem refRun (s : ByteArray) (w : World) (hs : s.size ≤ 1000000) :
    Calls Tryd.prog 33 #[.string s] w fun e w' => e = .returned (.string (strOf (litT (natsOf s)))) ∧ Ext w w' := by
  have hl := litT_len _ (natsOf s) rfl
  rw [natsOf_len] at hl
  obtain ⟨R, hR⟩ : ∃ R, R = litT (natsOf s) := ⟨_, rfl⟩
  rw [← hR] at hl ⊢
  have hRl : R.length ≤ 2000000 := by omega
  have HR := Lib.hid hR; clear hl hR
  go_enter Tryd.func33, Tryd.ntmps33
  go_wp2_with fail
  go_loopw [0, 3] (fun sv ov wr => RRRel w R s.size sv ov wr) (fun sv _ _ => match sv with | .string X => X.size | _ => 0)
  case atStart => exact ⟨s, [], rfl, rfl, Nat.le_refl _, by rw [HR.out, List.nil_append], Ext.rfl' _⟩
  case round =>
    obtain ⟨X, E, rfl, rfl, hX, hE, hEx⟩ := hrel
    have hEl : E.length ≤ 2000000 := by
      have e := congrArg List.length hE
      rw [List.length_append] at e
      omega
    have HE := Lib.hid hE; have HEx := Lib.hid hEx; clear hE hEx
    by_cases h0 : 0 < X.size
    · obtain ⟨n, hn⟩ : ∃ n, n = min 64 X.size := ⟨_, rfl⟩
      have hn1 : 1 ≤ n := by omega
      have hn2 : n ≤ 64 := by omega
      have hn3 : n ≤ X.size := by omega
      have z0 : (0 : Int) < (X.size : Int) := by omega
      have HST := Lib.hid (litT_step (l := natsOf X) (by rw [natsOf_len]; exact h0))
      go_upto_region 3 with fail
      go_cut [4] (fun nv wx => nv = .int .i64 (n : Int) ∧ wr = wx)
      case first =>
        by_cases hm : 64 ≤ X.size
        · have hm1 : (64 : Int) ≤ (X.size : Int) := by omega
          go_wp2_with fail
          go_meet
          exact ⟨int_eq (by omega), rfl⟩
        · have hm1 : (X.size : Int) < 64 := by omega
          go_wp2_with fail
          go_meet
          exact ⟨int_eq (by omega), rfl⟩
      case rest =>
      obtain ⟨rfl, rfl⟩ := hcut
      obtain ⟨m, hm⟩ : ∃ m, m = 2 * (n - 1) := ⟨_, rfl⟩
      have hm1 : m ≤ 126 := by omega
      have HST2 : Hid (litT (natsOf X) = m :: ((natsOf X).take n ++ litT (natsOf (X.extract n X.size)))) := Lib.hid (by
        rw [HST.out, natsOf_len, ← hn, ← hm, Com.nats_ext])
      have q1 : IntKind.i64.wrap ((n : Int) - 1) = (n : Int) - 1 := by rw [IntKind.wrap_i64]; omega
      have q2 : (2 : Int) * ((n : Int) - 1) = (m : Int) := by omega
      have q3 : IntKind.i64.wrap (m : Int) = (m : Int) := by rw [IntKind.wrap_i64]; omega
      have q4 : IntKind.u8.wrap (m : Int) = (m : Int) := by rw [IntKind.wrap_u8]; omega
      have s1 : (0 : Int) ≤ (n : Int) := by omega
      have s2 : (n : Int) ≤ (X.size : Int) := by omega
      have HC := Lib.hid (one_conv wr.heap.size (wr.alloc (.cells #[.int .u8 (m : Int)] 5)).drew m (by omega) ((Blk.new wr 5 #[.int .u8 (m : Int)]).drew.cell 0))
      have HF : Hid (strOf E ++ strOf [m] ++ X.extract 0 n = strOf (E ++ (m :: (natsOf X).take n))) := Lib.hid (by
        rw [Com.str_ext X 0 n, List.drop_zero, Nat.sub_zero, ← strOf_app, ← strOf_app]
        simp only [List.append_assoc, List.singleton_append])
      have hs0 : (strOf E).size ≤ 2000000 := by rw [strOf_size]; exact hEl
      have hs1 : (strOf [m]).size = 1 := by rw [strOf_size]; rfl
      clear hn hm HST
      have HS1 := Lib.hid hs1
      have hs2 : (strOf [m]).size ≤ 1 := by omega
      clear hs1
      generalize strOf E = S0 at *
      generalize strOf [m] = S1 at *
      have hz1 : ¬ 9223372036854775807 < S0.size + S1.size := by omega
      have hz2 : ¬ 9223372036854775807 < S0.size + S1.size + n := by omega
      go_wp2_with fail
      go_cut [3] (fun ov wx => ov = .string (S0 ++ S1 ++ X.extract 0 n) ∧ Ext wr wx)
      case first =>
        refine wp_region_held_drew (S := fun _ => True) hmx trivial (fun _ => ?_)
        (refine wpAnyH_take (i := 0) (v := ?_) rfl (by kernel_rfl) (by kernel_rfl) (by kernel_rfl) (fun _ _ _ h => h) (Or.inl ⟨by rfl, ?_⟩) trivial ?_); rotate_left
        · (intro w hSw; go_simp; try with_reducible rfl)
        (refine wpAnyH_take (i := 1) (v := ?_) rfl (by kernel_rfl) (by kernel_rfl) (by kernel_rfl) (fun _ _ _ h => h) (Or.inl ⟨by rfl, ?_⟩) trivial ?_); rotate_left
        · (intro w hSw; go_simp; try with_reducible rfl)
        (refine wpAnyH_take (i := 2) (v := ?_) rfl (by kernel_rfl) (by kernel_rfl) (by kernel_rfl) (fun _ _ _ h => h) (Or.inl ⟨by rfl, ?_⟩) trivial ?_); rotate_left
        · (intro w hSw; go_simp; try with_reducible rfl)
        (refine wpAnyH_take (i := 3) (v := ?_) rfl (by kernel_rfl) (by kernel_rfl) (by kernel_rfl) (fun _ _ _ h => h) (Or.inl ⟨by rfl, ?_⟩) trivial ?_); rotate_left
        · (intro w hSw; go_simp; try with_reducible rfl)
        (refine wpAnyH_take (i := 4) (v := ?_) rfl (by kernel_rfl) (by kernel_rfl) (by kernel_rfl) (fun _ _ _ h => h) (Or.inl ⟨by rfl, ?_⟩) trivial ?_); rotate_left
        · (intro w hSw; go_simp; try with_reducible rfl)
        (refine wpAnyH_take (i := 8) (v := ?_) rfl (by kernel_rfl) (by kernel_rfl) (by kernel_rfl) (fun _ _ _ h => h) (Or.inl ⟨by rfl, ?_⟩) trivial ?_); rotate_left
        · (intro w hSw; go_simp; try with_reducible rfl)
        (refine wpAnyH_take (i := 9) (v := ?_) rfl (by kernel_rfl) (by kernel_rfl) (by kernel_rfl) (fun _ _ _ h => h) (Or.inl ⟨by rfl, ?_⟩) trivial ?_); rotate_left
        · (intro w hSw; go_simp; try with_reducible rfl)
        (refine wpAnyH_take (i := 10) (v := ?_) rfl (by kernel_rfl) (by kernel_rfl) (by kernel_rfl) (fun _ _ _ h => h) (Or.inl ⟨by rfl, ?_⟩) trivial ?_); rotate_left
        · (intro w hSw; go_simp; try with_reducible rfl)
        have hC := HC.out
        refine wpAnyH_ready (rs := [5]) (by kernel_rfl) (by simp) ?_
        refine AllReadyH.cons rfl (fun K hK => ?_) AllReadyH.nil
        go_simp
        refine hK.out _ _ trivial (fun _ => ?_)
        clear hK K
        refine wpAnyH_ready (rs := [6]) (by kernel_rfl) (by simp) ?_
        refine AllReadyH.cons rfl (fun K hK => ?_) AllReadyH.nil
        go_simp
        refine hK.out _ _ trivial (fun _ => ?_)
        clear hK K hC
        refine wpAnyH_ready (rs := [7]) (by kernel_rfl) (by simp) ?_
        refine AllReadyH.cons rfl (fun K hK => ?_) AllReadyH.nil
        go_simp
        refine hK.out _ _ trivial (fun _ => ?_)
        clear hK K
        refine wpAnyH_ready (rs := [11]) (by kernel_rfl) (by simp) ?_
        refine AllReadyH.cons rfl (fun K hK => ?_) AllReadyH.nil
        go_simp
        refine hK.out _ _ trivial (fun _ => ?_)
        clear hK K
        refine wpAnyH_ready (rs := [12]) (by kernel_rfl) (by simp) ?_
        refine AllReadyH.cons rfl (fun K hK => ?_) AllReadyH.nil
        go_simp
        refine hK.out _ _ trivial (fun _ => ?_)
        clear hK K
        refine wpAnyH_done (by kernel_rfl) ?_ _
        go_wp2_with fail
        go_meet
        exact ⟨rfl, ext_alloc (ext_drew (Ext.rfl' _)) _⟩
      case rest =>
        obtain ⟨rfl, hE2⟩ := hcut
        have HE2 := Lib.hid (ext_trans HEx.out hE2); clear hE2 HC q1 q2 q3 q4
        go_wp2_with fail
        go_roundw
        case rel => exact ⟨_, E ++ (m :: (natsOf X).take n), rfl, by rw [HF.out], by simp; omega, by rw [← HE.out, HST2.out]; simp only [List.append_assoc, List.cons_append], HE2.out⟩
        case measure => simp; omega
    · have z0 : ¬ (0 : Int) < (X.size : Int) := by omega
      have HF : Hid (E = R) := Lib.hid (by
        have e : natsOf X = [] := List.eq_nil_of_length_eq_zero (by rw [natsOf_len]; omega)
        rw [← HE.out, e, litT_nil, List.append_nil])
      go_wp2_with fail
      go_ret
      exact ⟨by rw [HF.out]; rfl, HEx.out⟩
end Go.Proofs.YtckjmabacibojaaDoor.Lz
namespace Go.Proofs.YtckjmabacibojaaDoor.Lz
open Go.ChangeShapes Go.WideShapes Go.ChangeAt Go.RowKit Go.Shelf
open Go.Proofs.YtckjmabacibojaaDoor.Wire Go.Proofs.YtckjmabacibojaaDoor.Map32
set_option linter.unusedVariables false

def RPRel (w : World) (xs R : List Nat) (N : Nat) (ov pv av : Value) (wr : World) : Prop :=
  ∃ (a plain : Nat) (E : List Nat), a ≤ N ∧ plain ≤ a ∧ av = .int .i64 (a : Int) ∧ pv = .int .i64 (plain : Int) ∧ ov = .string (strOf E) ∧ E ++ pk xs plain a = R ∧ Ext w wr
set_option maxHeartbeats 8000000 in
set_option maxRecDepth 100000 in
theorem refPack (s : ByteArray) (w : World) (hs : s.size ≤ 1000000) :
    Calls Tryd.prog 18 #[.string s] w fun e w' => e = .returned (.string (strOf (pk (natsOf s) 0 0))) ∧ Ext w w' := by
  have hpl := pk_len (natsOf_small s) _ 0 0 rfl (Nat.le_refl _) (Nat.zero_le _)
  rw [natsOf_len] at hpl
  have HGD := Lib.hid (bst_good (natsOf_small s))
  have HXL := Lib.hid (natsOf_len s)
  have HBE := Lib.hid (fun a W (h : a ≤ s.size) => refBest s a W hs h)
  obtain ⟨xs, hxs⟩ : ∃ xs, xs = natsOf s := ⟨_, rfl⟩
  rw [← hxs] at HGD HXL HBE hpl ⊢
  have HRN : Hid (∀ p a W, a ≤ s.size → p ≤ a → Calls Tryd.prog 33 #[.string (s.extract p a)] W fun e w' => e = .returned (.string (strOf (litT ((xs.drop p).take (a - p))))) ∧ Ext W w') := Lib.hid (fun p a W h1 h2 => by
    have h := refRun (s.extract p a) W (by simp; omega)
    have e : natsOf (s.extract p a) = (xs.drop p).take (a - p) := by
      rw [Com.str_ext, ← hxs, nats_strOf]
      intro j
      rcases Nat.lt_or_ge j (((xs.drop p).take (a - p)).length) with hj | hj
      · rw [List.length_take, List.length_drop] at hj
        rw [List.getD_eq_getElem?_getD, List.getElem?_take_of_lt (by omega), List.getElem?_drop, ← List.getD_eq_getElem?_getD, hxs]
        exact natsOf_small s _
      · rw [List.getD_eq_getElem?_getD, List.getElem?_eq_none hj]; simp
    rwa [e] at h)
  clear hxs
  obtain ⟨R, hR⟩ : ∃ R, R = pk xs 0 0 := ⟨_, rfl⟩
  rw [← hR] at hpl ⊢
  have hRl : R.length ≤ 2000000 := by omega
  have HR := Lib.hid hR; clear hpl hR
  go_enter Tryd.func18, Tryd.ntmps18
  go_wp2_with fail
  go_loopw [3, 4, 5] (fun ov pv av wr => RPRel w xs R s.size ov pv av wr) (fun _ _ av _ => s.size - (intOf av).toNat)
  case atStart => exact ⟨0, 0, [], Nat.zero_le _, Nat.le_refl _, rfl, rfl, rfl, by rw [HR.out, List.nil_append], Ext.rfl' _⟩
  case round =>
    obtain ⟨a, plain, E, ha, hpa, rfl, rfl, rfl, hE, hEx⟩ := hrel
    have hEl : E.length ≤ 2000000 := by
      have e := congrArg List.length hE
      rw [List.length_append] at e
      omega
    have HE := Lib.hid hE; have HEx := Lib.hid hEx; clear hE hEx
    have hs0 : (strOf E).size ≤ 2000000 := by rw [strOf_size]; exact hEl
    obtain ⟨wo, hwo⟩ : ∃ wo, wo = wr := ⟨_, rfl⟩
    subst hwo
    by_cases hlt : a < s.size
    · have z0 : (a : Int) < (s.size : Int) := by omega
      obtain ⟨S0, hS0⟩ : ∃ S0, S0 = strOf E := ⟨_, rfl⟩
      rw [← hS0] at hs0 ⊢
      have HS0 := Lib.hid hS0; clear hS0
      go_wp2_with fail
      refine (HBE.out a _ (by omega)).mono ?_
      rintro e w1 ⟨rfl, b1⟩
      have HE1 := Lib.hid (ext_trans HEx.out b1); clear b1
      obtain ⟨B, L, hBL⟩ : ∃ B L, bst xs a = (B, L) := ⟨_, _, rfl⟩
      have hgood := HGD.out a
      rw [hBL] at hgood ⊢
      simp only
      have HBL := Lib.hid hBL; clear hBL
      by_cases hL : L = 0
      · subst hL
        have HPK : Hid (pk xs plain a = pk xs plain (a + 1)) := Lib.hid (pk_lit (by rw [HXL.out]; exact hlt) (by rw [HBL.out]))
        clear hgood
        go_wp2_with fail
        go_roundw
        case rel => exact ⟨a + 1, plain, E, by omega, by omega, by go_num, rfl, by rw [HS0.out], by rw [← HPK.out]; exact HE.out, HE1.out⟩
        case measure => simp [intOf]; omega
      · obtain ⟨h3, h66, haN, hB1, hB4, hBa⟩ : 3 ≤ L ∧ L ≤ 66 ∧ a + L ≤ s.size ∧ 1 ≤ B ∧ B ≤ 4096 ∧ B ≤ a := by
          rcases hgood with h | h
          · exact absurd (Prod.mk.inj h).2 hL
          · simp only at h; have := HXL.out; omega
        have HPK : Hid (E ++ litT ((xs.drop plain).take (a - plain)) ++ [2 * (L - 3) + 1] ++ vb (B - 1) ++ pk xs (a + L) (a + L) = R) := Lib.hid (by
          have e := pk_match (xs := xs) (told := plain) (a := a) (by rw [HXL.out]; exact hlt) (by rw [HBL.out]; exact hL)
          rw [HBL.out] at e
          rw [← HE.out, e]
          simp only [List.append_assoc, List.cons_append, List.nil_append])
        have hplc : plc a (B, L) = a - B := by unfold plc; rw [if_neg (by simpa using hL)]
        rw [hplc]
        clear hgood hplc
        have z1 : ((L : Int) == 0) = false := beq_eq_false_iff_ne.2 (by omega)
        clear hL
        obtain ⟨f, hf⟩ : ∃ f, f = a - B := ⟨_, rfl⟩
        rw [← hf]
        obtain ⟨bb, hbb⟩ : ∃ bb, bb = B - 1 := ⟨_, rfl⟩
        rw [← hbb] at HPK
        obtain ⟨m, hm⟩ : ∃ m, m = 2 * (L - 3) + 1 := ⟨_, rfl⟩
        rw [← hm] at HPK
        have q0 : IntKind.i64.wrap ((L : Int) - 3) = (L : Int) - 3 := by rw [IntKind.wrap_i64]; omega
        have q1 : IntKind.i64.wrap ((2 : Int) * ((L : Int) - 3)) = (2 : Int) * ((L : Int) - 3) := by rw [IntKind.wrap_i64]; omega
        have q2 : IntKind.i64.wrap ((2 : Int) * ((L : Int) - 3) + 1) = (m : Int) := by rw [IntKind.wrap_i64]; omega
        have q3 : IntKind.u8.wrap (m : Int) = (m : Int) := by rw [IntKind.wrap_u8]; omega
        have q4 : IntKind.i64.wrap ((a : Int) - (f : Int)) = (B : Int) := by rw [IntKind.wrap_i64]; omega
        have q5 : IntKind.i64.wrap ((B : Int) - 1) = (bb : Int) := by rw [IntKind.wrap_i64]; omega
        have q6 : IntKind.u64.wrap (bb : Int) = (bb : Int) := by rw [IntKind.wrap_u64]; omega
        have HW := Lib.hid (And.intro q0 (And.intro q1 (And.intro q2 (And.intro q3 (And.intro q4 (And.intro q5 q6))))))
        clear q0 q1 q2 q3 q4 q5 q6
        have hm1 : m ≤ 127 := by omega
        have hbb2 : bb < 4096 := by omega
        have hv1 := vb_ten (n := bb) (by omega)
        have HC1 := Lib.hid (fun W => HRN.out plain a W ha hpa)
        have HC2 := Lib.hid (fun W => refVarint bb (by omega) W)
        have HCV : Hid (∀ (B' : Nat) (w' : World), w'.cell? ⟨B', 0, none⟩ = some (.int .u8 (m : Int)) → (convert 22 9 (.slice (some ⟨B', 0, none⟩) 1 1)).run Tryd.prog w' = .ok (.string (strOf [m])) w') := Lib.hid (fun B' w' hc => one_conv B' w' m (by omega) hc)
        have hlits : (litT ((xs.drop plain).take (a - plain))).length ≤ 2000000 := by
          have e := congrArg List.length HPK.out
          simp only [List.length_append] at e
          omega
        have hs1 : (strOf (litT ((xs.drop plain).take (a - plain)))).size ≤ 2000000 := by rw [strOf_size]; exact hlits
        have hs2 : (strOf [m]).size ≤ 1 := by rw [strOf_size]; simp
        have hs3 : (strOf (vb bb)).size ≤ 10 := by rw [strOf_size]; exact hv1
        have HF : Hid (S0 ++ strOf (litT ((xs.drop plain).take (a - plain))) ++ strOf [m] ++ strOf (vb bb) = strOf (E ++ litT ((xs.drop plain).take (a - plain)) ++ [m] ++ vb bb)) := Lib.hid (by
          rw [HS0.out, strOf_app, strOf_app, strOf_app])
        clear hf hbb hm hlits
        generalize E ++ litT ((xs.drop plain).take (a - plain)) ++ [m] ++ vb bb = E2 at *
        generalize strOf (litT ((xs.drop plain).take (a - plain))) = S1 at *
        generalize strOf [m] = S2 at *
        generalize strOf (vb bb) = S3 at *
        have hz1 : ¬ 9223372036854775807 < S0.size + S1.size := by omega
        have hz2 : ¬ 9223372036854775807 < S0.size + S1.size + S2.size := by omega
        have hz3 : ¬ 9223372036854775807 < S0.size + S1.size + S2.size + S3.size := by omega
        have s1 : (plain : Int) ≤ (a : Int) := by omega
        have s2 : (a : Int) ≤ (s.size : Int) := by omega
        go_wp2_with fail
        go_cut [3] (fun ov wx => ov = .string (S0 ++ S1 ++ S2 ++ S3) ∧ Ext w1 wx)
        case first =>
          obtain ⟨q0, q1, q2, q3, q4, q5, q6⟩ := HW.out
          -- REGION
          refine wp_region_held_drew (S := fun _ => True) hmx trivial (fun _ => ?_)
          have HX0 := Lib.hid (ext_drew (Ext.rfl' w1))
          (refine wpAnyH_take (i := 0) (v := ?_) rfl (by kernel_rfl) (by kernel_rfl) (by kernel_rfl) (fun _ _ _ h => h) (Or.inl ⟨by rfl, ?_⟩) trivial ?_); rotate_left
          · (intro w hSw; go_simp; try with_reducible rfl)
          (refine wpAnyH_take (i := 1) (v := ?_) rfl (by kernel_rfl) (by kernel_rfl) (by kernel_rfl) (fun _ _ _ h => h) (Or.inl ⟨by rfl, ?_⟩) trivial ?_); rotate_left
          · (intro w hSw; go_simp; try with_reducible rfl)
          (refine wpAnyH_take (i := 2) (v := ?_) rfl (by kernel_rfl) (by kernel_rfl) (by kernel_rfl) (fun _ _ _ h => h) (Or.inl ⟨by rfl, ?_⟩) trivial ?_); rotate_left
          · (intro w hSw; go_simp; try with_reducible rfl)
          (refine wpAnyH_take (i := 3) (v := ?_) rfl (by kernel_rfl) (by kernel_rfl) (by kernel_rfl) (fun _ _ _ h => h) (Or.inl ⟨by rfl, ?_⟩) trivial ?_); rotate_left
          · (intro w hSw; go_simp; try with_reducible rfl)
          (refine wpAnyH_take (i := 4) (v := ?_) rfl (by kernel_rfl) (by kernel_rfl) (by kernel_rfl) (fun _ _ _ h => h) (Or.inl ⟨by rfl, ?_⟩) trivial ?_); rotate_left
          · (intro w hSw; go_simp; try with_reducible rfl)
          (refine wpAnyH_take (i := 7) (v := ?_) rfl (by kernel_rfl) (by kernel_rfl) (by kernel_rfl) (fun _ _ _ h => h) (Or.inl ⟨by rfl, ?_⟩) trivial ?_); rotate_left
          · (intro w hSw; go_simp; try with_reducible rfl)
          (refine wpAnyH_take (i := 8) (v := ?_) rfl (by kernel_rfl) (by kernel_rfl) (by kernel_rfl) (fun _ _ _ h => h) (Or.inl ⟨by rfl, ?_⟩) trivial ?_); rotate_left
          · (intro w hSw; go_simp; try with_reducible rfl)
          (refine wpAnyH_take (i := 9) (v := ?_) rfl (by kernel_rfl) (by kernel_rfl) (by kernel_rfl) (fun _ _ _ h => h) (Or.inl ⟨by rfl, ?_⟩) trivial ?_); rotate_left
          · (intro w hSw; go_simp; try with_reducible rfl)
          (refine wpAnyH_take (i := 10) (v := ?_) rfl (by kernel_rfl) (by kernel_rfl) (by kernel_rfl) (fun _ _ _ h => h) (Or.inl ⟨by rfl, ?_⟩) trivial ?_); rotate_left
          · (intro w hSw; go_simp; try with_reducible rfl)
          (refine wpAnyH_take (i := 11) (v := ?_) rfl (by kernel_rfl) (by kernel_rfl) (by kernel_rfl) (fun _ _ _ h => h) (Or.inl ⟨by rfl, ?_⟩) trivial ?_); rotate_left
          · (intro w hSw; go_simp; try with_reducible rfl)
          (refine wpAnyH_take (i := 15) (v := ?_) rfl (by kernel_rfl) (by kernel_rfl) (by kernel_rfl) (fun _ _ _ h => h) (Or.inl ⟨by rfl, ?_⟩) trivial ?_); rotate_left
          · (intro w hSw; go_simp; try with_reducible rfl)
          (refine wpAnyH_take (i := 16) (v := ?_) rfl (by kernel_rfl) (by kernel_rfl) (by kernel_rfl) (fun _ _ _ h => h) (Or.inl ⟨by rfl, ?_⟩) trivial ?_); rotate_left
          · (intro w hSw; go_simp; try with_reducible rfl)
          (refine wpAnyH_take (i := 17) (v := ?_) rfl (by kernel_rfl) (by kernel_rfl) (by kernel_rfl) (fun _ _ _ h => h) (Or.inl ⟨by rfl, ?_⟩) trivial ?_); rotate_left
          · (intro w hSw; go_simp; try with_reducible rfl)
          (refine wpAnyH_take (i := 18) (v := ?_) rfl (by kernel_rfl) (by kernel_rfl) (by kernel_rfl) (fun _ _ _ h => h) (Or.inl ⟨by rfl, ?_⟩) trivial ?_); rotate_left
          · (intro w hSw; go_simp; try with_reducible rfl)
          (refine wpAnyH_take (i := 19) (v := ?_) rfl (by kernel_rfl) (by kernel_rfl) (by kernel_rfl) (fun _ _ _ h => h) (Or.inl ⟨by rfl, ?_⟩) trivial ?_); rotate_left
          · (intro w hSw; go_simp; try with_reducible rfl)
          clear q0 q1 q2 q3 q4 q5 q6
          refine wpAnyH_ready (rs := [5, 12]) (by kernel_rfl) (by simp) ?_
          refine AllReadyH.cons rfl (fun K hK => ?_) (AllReadyH.cons rfl (fun K hK => ?_) AllReadyH.nil)
          ·
            go_simp
            refine (HC1.out _).mono ?_
            rintro e x1 ⟨rfl, b8⟩
            have HX1 := Lib.hid (ext_trans HX0.out b8)
            clear b8
            (try go_wp2_with fail)
            refine hK.out _ _ trivial (fun _ => ?_)
            clear hK K
            (refine wpAnyH_take (i := 6) (v := ?_) rfl (by kernel_rfl) (by kernel_rfl) (by kernel_rfl) (fun _ _ _ h => h) (Or.inl ⟨by rfl, ?_⟩) trivial ?_); rotate_left
            · (intro w hSw; go_simp; try with_reducible rfl)
            refine wpAnyH_ready (rs := [12, 20]) (by kernel_rfl) (by simp) ?_
            refine AllReadyH.cons rfl (fun K hK => ?_) (AllReadyH.cons rfl (fun K hK => ?_) AllReadyH.nil)
            ·
              go_simp
              refine hK.out _ _ trivial (fun _ => ?_)
              clear hK K
              have HX2 := Lib.hid (ext_alloc HX1.out (.cells #[.int .u8 (m : Int)] 5))
              have HL2 := Lib.hid ((Blk.new x1 5 #[.int .u8 (m : Int)]).cell 0)
              refine wpAnyH_ready (rs := [13, 20]) (by kernel_rfl) (by simp) ?_
              refine AllReadyH.cons rfl (fun K hK => ?_) (AllReadyH.cons rfl (fun K hK => ?_) AllReadyH.nil)
              ·
                have hC := HCV.out _ _ HL2.out
                go_simp
                refine hK.out _ _ trivial (fun _ => ?_)
                clear hK K hC
                (refine wpAnyH_take (i := 14) (v := ?_) rfl (by kernel_rfl) (by kernel_rfl) (by kernel_rfl) (fun _ _ _ h => h) (Or.inl ⟨by rfl, ?_⟩) trivial ?_); rotate_left
                · (intro w hSw; go_simp; try with_reducible rfl)
                refine wpAnyH_ready (rs := [20]) (by kernel_rfl) (by simp) ?_
                refine AllReadyH.cons rfl (fun K hK => ?_) AllReadyH.nil
                go_simp
                refine (HC2.out _).mono ?_
                rintro e x4 ⟨rfl, b8⟩
                have HX4 := Lib.hid (ext_trans HX2.out b8)
                have HL4 := Lib.hid (kc b8 HL2.out)
                clear b8
                (try go_wp2_with fail)
                refine hK.out _ _ trivial (fun _ => ?_)
                clear hK K
                (refine wpAnyH_take (i := 21) (v := ?_) rfl (by kernel_rfl) (by kernel_rfl) (by kernel_rfl) (fun _ _ _ h => h) (Or.inl ⟨by rfl, ?_⟩) trivial ?_); rotate_left
                · (intro w hSw; go_simp; try with_reducible rfl)
                refine wpAnyH_ready (rs := [22]) (by kernel_rfl) (by simp) ?_
                refine AllReadyH.cons rfl (fun K hK => ?_) AllReadyH.nil
                go_simp
                refine hK.out _ _ trivial (fun _ => ?_)
                clear hK K
                refine wpAnyH_done (by kernel_rfl) ?_ _
                go_wp2_with fail
                go_meet
                exact ⟨rfl, HX4.out⟩
              ·
                go_simp
                refine (HC2.out _).mono ?_
                rintro e x5 ⟨rfl, b8⟩
                have HX5 := Lib.hid (ext_trans HX2.out b8)
                have HL5 := Lib.hid (kc b8 HL2.out)
                clear b8
                (try go_wp2_with fail)
                refine hK.out _ _ trivial (fun _ => ?_)
                clear hK K
                refine wpAnyH_ready (rs := [13]) (by kernel_rfl) (by simp) ?_
                refine AllReadyH.cons rfl (fun K hK => ?_) AllReadyH.nil
                have hC := HCV.out _ _ HL5.out
                go_simp
                refine hK.out _ _ trivial (fun _ => ?_)
                clear hK K hC
                (refine wpAnyH_take (i := 14) (v := ?_) rfl (by kernel_rfl) (by kernel_rfl) (by kernel_rfl) (fun _ _ _ h => h) (Or.inl ⟨by rfl, ?_⟩) trivial ?_); rotate_left
                · (intro w hSw; go_simp; try with_reducible rfl)
                (refine wpAnyH_take (i := 21) (v := ?_) rfl (by kernel_rfl) (by kernel_rfl) (by kernel_rfl) (fun _ _ _ h => h) (Or.inl ⟨by rfl, ?_⟩) trivial ?_); rotate_left
                · (intro w hSw; go_simp; try with_reducible rfl)
                refine wpAnyH_ready (rs := [22]) (by kernel_rfl) (by simp) ?_
                refine AllReadyH.cons rfl (fun K hK => ?_) AllReadyH.nil
                go_simp
                refine hK.out _ _ trivial (fun _ => ?_)
                clear hK K
                refine wpAnyH_done (by kernel_rfl) ?_ _
                go_wp2_with fail
                go_meet
                exact ⟨rfl, HX5.out⟩
            ·
              go_simp
              refine (HC2.out _).mono ?_
              rintro e x7 ⟨rfl, b8⟩
              have HX7 := Lib.hid (ext_trans HX1.out b8)
              clear b8
              (try go_wp2_with fail)
              refine hK.out _ _ trivial (fun _ => ?_)
              clear hK K
              refine wpAnyH_ready (rs := [12]) (by kernel_rfl) (by simp) ?_
              refine AllReadyH.cons rfl (fun K hK => ?_) AllReadyH.nil
              go_simp
              refine hK.out _ _ trivial (fun _ => ?_)
              clear hK K
              have HX8 := Lib.hid (ext_alloc HX7.out (.cells #[.int .u8 (m : Int)] 5))
              have HL8 := Lib.hid ((Blk.new x7 5 #[.int .u8 (m : Int)]).cell 0)
              refine wpAnyH_ready (rs := [13]) (by kernel_rfl) (by simp) ?_
              refine AllReadyH.cons rfl (fun K hK => ?_) AllReadyH.nil
              have hC := HCV.out _ _ HL8.out
              go_simp
              refine hK.out _ _ trivial (fun _ => ?_)
              clear hK K hC
              (refine wpAnyH_take (i := 14) (v := ?_) rfl (by kernel_rfl) (by kernel_rfl) (by kernel_rfl) (fun _ _ _ h => h) (Or.inl ⟨by rfl, ?_⟩) trivial ?_); rotate_left
              · (intro w hSw; go_simp; try with_reducible rfl)
              (refine wpAnyH_take (i := 21) (v := ?_) rfl (by kernel_rfl) (by kernel_rfl) (by kernel_rfl) (fun _ _ _ h => h) (Or.inl ⟨by rfl, ?_⟩) trivial ?_); rotate_left
              · (intro w hSw; go_simp; try with_reducible rfl)
              refine wpAnyH_ready (rs := [22]) (by kernel_rfl) (by simp) ?_
              refine AllReadyH.cons rfl (fun K hK => ?_) AllReadyH.nil
              go_simp
              refine hK.out _ _ trivial (fun _ => ?_)
              clear hK K
              refine wpAnyH_done (by kernel_rfl) ?_ _
              go_wp2_with fail
              go_meet
              exact ⟨rfl, HX8.out⟩
          ·
            go_simp
            refine hK.out _ _ trivial (fun _ => ?_)
            clear hK K
            have HX10 := Lib.hid (ext_drew (ext_alloc (Ext.rfl' w1) (.cells #[.int .u8 (m : Int)] 5)))
            have HL10 := Lib.hid ((Blk.new w1 5 #[.int .u8 (m : Int)]).drew.cell 0)
            refine wpAnyH_ready (rs := [5, 13]) (by kernel_rfl) (by simp) ?_
            refine AllReadyH.cons rfl (fun K hK => ?_) (AllReadyH.cons rfl (fun K hK => ?_) AllReadyH.nil)
            ·
              go_simp
              refine (HC1.out _).mono ?_
              rintro e x11 ⟨rfl, b8⟩
              have HX11 := Lib.hid (ext_trans HX10.out b8)
              have HL11 := Lib.hid (kc b8 HL10.out)
              clear b8
              (try go_wp2_with fail)
              refine hK.out _ _ trivial (fun _ => ?_)
              clear hK K
              (refine wpAnyH_take (i := 6) (v := ?_) rfl (by kernel_rfl) (by kernel_rfl) (by kernel_rfl) (fun _ _ _ h => h) (Or.inl ⟨by rfl, ?_⟩) trivial ?_); rotate_left
              · (intro w hSw; go_simp; try with_reducible rfl)
              refine wpAnyH_ready (rs := [13, 20]) (by kernel_rfl) (by simp) ?_
              refine AllReadyH.cons rfl (fun K hK => ?_) (AllReadyH.cons rfl (fun K hK => ?_) AllReadyH.nil)
              ·
                have hC := HCV.out _ _ HL11.out
                go_simp
                refine hK.out _ _ trivial (fun _ => ?_)
                clear hK K hC
                (refine wpAnyH_take (i := 14) (v := ?_) rfl (by kernel_rfl) (by kernel_rfl) (by kernel_rfl) (fun _ _ _ h => h) (Or.inl ⟨by rfl, ?_⟩) trivial ?_); rotate_left
                · (intro w hSw; go_simp; try with_reducible rfl)
                refine wpAnyH_ready (rs := [20]) (by kernel_rfl) (by simp) ?_
                refine AllReadyH.cons rfl (fun K hK => ?_) AllReadyH.nil
                go_simp
                refine (HC2.out _).mono ?_
                rintro e x13 ⟨rfl, b8⟩
                have HX13 := Lib.hid (ext_trans HX11.out b8)
                have HL13 := Lib.hid (kc b8 HL11.out)
                clear b8
                (try go_wp2_with fail)
                refine hK.out _ _ trivial (fun _ => ?_)
                clear hK K
                (refine wpAnyH_take (i := 21) (v := ?_) rfl (by kernel_rfl) (by kernel_rfl) (by kernel_rfl) (fun _ _ _ h => h) (Or.inl ⟨by rfl, ?_⟩) trivial ?_); rotate_left
                · (intro w hSw; go_simp; try with_reducible rfl)
                refine wpAnyH_ready (rs := [22]) (by kernel_rfl) (by simp) ?_
                refine AllReadyH.cons rfl (fun K hK => ?_) AllReadyH.nil
                go_simp
                refine hK.out _ _ trivial (fun _ => ?_)
                clear hK K
                refine wpAnyH_done (by kernel_rfl) ?_ _
                go_wp2_with fail
                go_meet
                exact ⟨rfl, HX13.out⟩
              ·
                go_simp
                refine (HC2.out _).mono ?_
                rintro e x14 ⟨rfl, b8⟩
                have HX14 := Lib.hid (ext_trans HX11.out b8)
                have HL14 := Lib.hid (kc b8 HL11.out)
                clear b8
                (try go_wp2_with fail)
                refine hK.out _ _ trivial (fun _ => ?_)
                clear hK K
                refine wpAnyH_ready (rs := [13]) (by kernel_rfl) (by simp) ?_
                refine AllReadyH.cons rfl (fun K hK => ?_) AllReadyH.nil
                have hC := HCV.out _ _ HL14.out
                go_simp
                refine hK.out _ _ trivial (fun _ => ?_)
                clear hK K hC
                (refine wpAnyH_take (i := 14) (v := ?_) rfl (by kernel_rfl) (by kernel_rfl) (by kernel_rfl) (fun _ _ _ h => h) (Or.inl ⟨by rfl, ?_⟩) trivial ?_); rotate_left
                · (intro w hSw; go_simp; try with_reducible rfl)
                (refine wpAnyH_take (i := 21) (v := ?_) rfl (by kernel_rfl) (by kernel_rfl) (by kernel_rfl) (fun _ _ _ h => h) (Or.inl ⟨by rfl, ?_⟩) trivial ?_); rotate_left
                · (intro w hSw; go_simp; try with_reducible rfl)
                refine wpAnyH_ready (rs := [22]) (by kernel_rfl) (by simp) ?_
                refine AllReadyH.cons rfl (fun K hK => ?_) AllReadyH.nil
                go_simp
                refine hK.out _ _ trivial (fun _ => ?_)
                clear hK K
                refine wpAnyH_done (by kernel_rfl) ?_ _
                go_wp2_with fail
                go_meet
                exact ⟨rfl, HX14.out⟩
            ·
              have hC := HCV.out _ _ HL10.out
              go_simp
              refine hK.out _ _ trivial (fun _ => ?_)
              clear hK K hC
              refine wpAnyH_ready (rs := [5]) (by kernel_rfl) (by simp) ?_
              refine AllReadyH.cons rfl (fun K hK => ?_) AllReadyH.nil
              go_simp
              refine (HC1.out _).mono ?_
              rintro e x17 ⟨rfl, b8⟩
              have HX17 := Lib.hid (ext_trans HX10.out b8)
              have HL17 := Lib.hid (kc b8 HL10.out)
              clear b8
              (try go_wp2_with fail)
              refine hK.out _ _ trivial (fun _ => ?_)
              clear hK K
              (refine wpAnyH_take (i := 6) (v := ?_) rfl (by kernel_rfl) (by kernel_rfl) (by kernel_rfl) (fun _ _ _ h => h) (Or.inl ⟨by rfl, ?_⟩) trivial ?_); rotate_left
              · (intro w hSw; go_simp; try with_reducible rfl)
              (refine wpAnyH_take (i := 14) (v := ?_) rfl (by kernel_rfl) (by kernel_rfl) (by kernel_rfl) (fun _ _ _ h => h) (Or.inl ⟨by rfl, ?_⟩) trivial ?_); rotate_left
              · (intro w hSw; go_simp; try with_reducible rfl)
              refine wpAnyH_ready (rs := [20]) (by kernel_rfl) (by simp) ?_
              refine AllReadyH.cons rfl (fun K hK => ?_) AllReadyH.nil
              go_simp
              refine (HC2.out _).mono ?_
              rintro e x18 ⟨rfl, b8⟩
              have HX18 := Lib.hid (ext_trans HX17.out b8)
              have HL18 := Lib.hid (kc b8 HL17.out)
              clear b8
              (try go_wp2_with fail)
              refine hK.out _ _ trivial (fun _ => ?_)
              clear hK K
              (refine wpAnyH_take (i := 21) (v := ?_) rfl (by kernel_rfl) (by kernel_rfl) (by kernel_rfl) (fun _ _ _ h => h) (Or.inl ⟨by rfl, ?_⟩) trivial ?_); rotate_left
              · (intro w hSw; go_simp; try with_reducible rfl)
              refine wpAnyH_ready (rs := [22]) (by kernel_rfl) (by simp) ?_
              refine AllReadyH.cons rfl (fun K hK => ?_) AllReadyH.nil
              go_simp
              refine hK.out _ _ trivial (fun _ => ?_)
              clear hK K
              refine wpAnyH_done (by kernel_rfl) ?_ _
              go_wp2_with fail
              go_meet
              exact ⟨rfl, HX18.out⟩
        -- REST
        case rest =>
          obtain ⟨rfl, hE2⟩ := hcut
          have HE2 := Lib.hid (ext_trans HE1.out hE2); clear hE2
          go_wp2_with fail
          go_roundw
          case rel => exact ⟨a + L, a + L, E2, by omega, Nat.le_refl _, by go_num, by go_num, by rw [HF.out], HPK.out, HE2.out⟩
          case measure => simp [intOf]; omega
    · have haN : a = s.size := by omega
      have z0 : ¬ (a : Int) < (s.size : Int) := by omega
      have HF : Hid (strOf E ++ strOf (litT ((xs.drop plain).take (s.size - plain))) = strOf R) := Lib.hid (by
        rw [← strOf_app, ← HE.out, pk_end (by rw [HXL.out]; omega), List.take_of_length_le (by rw [List.length_drop, HXL.out]; exact Nat.le_refl _)])
      have hlits : (litT ((xs.drop plain).take (s.size - plain))).length ≤ 2000000 := by
        have e := congrArg ByteArray.size HF.out
        rw [ByteArray.size_append, strOf_size, strOf_size, strOf_size] at e
        omega
      have hs1 : (strOf (litT ((xs.drop plain).take (s.size - plain)))).size ≤ 2000000 := by rw [strOf_size]; exact hlits
      have HC1 := Lib.hid (fun W => HRN.out plain s.size W (Nat.le_refl _) (by omega))
      have HAN := Lib.hid haN; clear haN hlits
      generalize strOf E = S0 at *
      generalize strOf (litT ((xs.drop plain).take (s.size - plain))) = S1 at *
      have hz1 : ¬ 9223372036854775807 < S0.size + S1.size := by omega
      have s1 : (plain : Int) ≤ (s.size : Int) := by omega
      go_wp2_with fail
      refine (HC1.out _).mono ?_
      rintro e w8 ⟨rfl, b8⟩
      have HE2 := Lib.hid (ext_trans HEx.out b8); clear b8
      go_wp2_with fail
      go_ret
      exact ⟨by rw [HF.out]; rfl, HE2.out⟩
end Go.Proofs.YtckjmabacibojaaDoor.Lz
