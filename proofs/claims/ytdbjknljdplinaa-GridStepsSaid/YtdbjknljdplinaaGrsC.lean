/- GridSteps, walked. -/
import Derived.Test.YtdbjknljdplinaaGrsB
import Derived.Deep.LoopGhost
import Derived.Deep.CutRange
import Derived.Deep.DeepCutAuto
import Derived.BigRegion
namespace Go.Proofs.Ytdbjknljdplinaa.Grid
open Go.ChangeShapes Go.WideShapes Go.ChangeAt Go.RowKit Go.Shelf
set_option linter.unusedVariables false

theorem infoB : (Try.prog.info? 5).map (fun i => (i.zero, i.size, i.bytes)) = some (some (.int .u8 0), 1, 1) := by kernel_rfl
/-- What holds at the head of each round. -/
def BRel (w : World) (W H P f bm bs : Nat) (T : ByteArray) (g : Nat) (v : Value) (wr : World) : Prop :=
  ∃ s Q, Bfs (far W f) (nxt W H) P f s Q ∧ s.count 0 + Q.length = g ∧ g ≤ P + 1 ∧ Wk wr (bs + 1) bs v Q ∧ NB wr bs s ∧ Blk wr bm 52 #[.int .i64 (W : Int), .int .i64 (H : Int), .string T] ∧ Ext w wr
theorem brel_start {w w5 : World} {W H P f bm bs : Nat} {T : ByteArray} (hf : f < P) (hs : bs < w5.heap.size) (hN : NB w5 bs (List.replicate P 0)) (hM : Blk w5 bm 52 #[.int .i64 (W : Int), .int .i64 (H : Int), .string T]) (hE : Ext w w5) :
    BRel w W H P f bm bs T (P + 1) (.slice (some ⟨w5.heap.size, 0, none⟩) 1 1) (w5.alloc (.cells #[.int .i64 (f : Int)] 3)) := by
  refine ⟨_, [f], Bfs.start hf (far_self W f), by simp, Nat.le_refl _, ⟨fun k hk => ?_, .inr ⟨w5.heap.size, 0, 1, _, rfl, hs, heap_alloc_new w5 _, Nat.le_refl _, by unfold maxLen; omega, rfl, rfl⟩⟩, Blk.alloc hN _, hM.alloc _, ext_alloc hE _⟩
  obtain rfl := Option.some.inj hk
  exact ⟨hs, by show w5.heap.size ≠ bs; omega, by simp⟩
/-- What holds while those next to i are looked at. -/
def IRel (w : World) (W H P f bm bs i gl : Nat) (T : ByteArray) (cur : Array Value) (L : List Nat) (G g : Nat) (v kv : Value) (wr : World) : Prop :=
  ∃ s Q k, kv = .int .i64 ((k : Nat) : Int) ∧ k + g = L.length ∧ Bfs (far W f) (nxt W H) P f s (i :: Q) ∧ (∀ j, j < k → vis f s (L.getD j 0)) ∧ s.count 0 + Q.length + 1 = G ∧
    Wk wr (bs + 1) gl v Q ∧ NB wr bs s ∧ Blk wr bm 52 #[.int .i64 (W : Int), .int .i64 (H : Int), .string T] ∧ Blk wr gl 3 cur ∧ Ext w wr
def NRel (w6 : World) (W P f F : Nat) (sv iv : Value) (wr : World) : Prop := ∃ i : Nat, i ≤ P ∧ iv = .int .i64 ((i : Nat) : Int) ∧ sv = .int .i64 (((upto W f (F : Int) i).length : Nat) : Int) ∧ Ext w6 wr
set_option maxHeartbeats 16000000 in
set_option maxRecDepth 100000 in
theorem steps (n0 n1 n2 F : Nat) (w : World) (h0 : n0 < 256) (h1 : n1 < 256) (h2 : n2 < 256) (h3 : F < 256) :
    Calls Try.prog 9 #[.int .u8 (n0 : Int), .int .u8 (n1 : Int), .int .u8 (n2 : Int), .int .u8 (F : Int)] w fun e w' => e = .returned (.bool true) ∧ Ext w w' := by
  obtain ⟨r0, hr0⟩ : ∃ r, r = n0 % 9 := ⟨_, rfl⟩
  obtain ⟨r1, hr1⟩ : ∃ r, r = n1 % 9 := ⟨_, rfl⟩
  obtain ⟨W, hW⟩ : ∃ W, W = 4 + r0 := ⟨_, rfl⟩
  obtain ⟨H, hH⟩ : ∃ H, H = 4 + r1 := ⟨_, rfl⟩
  obtain ⟨P, hP⟩ : ∃ P, P = W * H := ⟨_, rfl⟩
  have hW4 : 4 ≤ W := by omega
  have hW12 : W ≤ 12 := by omega
  have hH4 : 4 ≤ H := by omega
  have hH12 : H ≤ 12 := by omega
  have hP16 : 16 ≤ P := by rw [hP]; exact Nat.mul_le_mul hW4 hH4
  have hP144 : P ≤ 144 := by rw [hP]; exact Nat.mul_le_mul hW12 hH12
  obtain ⟨f, hf⟩ : ∃ f, f = n2 % P := ⟨_, rfl⟩
  have hfP : f < P := by rw [hf]; exact Nat.mod_lt _ (by omega)
  have t1 : (n0 : Int).tmod 9 = (r0 : Int) := by rw [Int.tmod_eq_emod_of_nonneg (by omega)]; omega
  have t2 : (n0 : Int) % 9 = (r0 : Int) := by omega
  have t3 : (n1 : Int).tmod 9 = (r1 : Int) := by rw [Int.tmod_eq_emod_of_nonneg (by omega)]; omega
  have t4 : (n1 : Int) % 9 = (r1 : Int) := by omega
  have t5 : (4 : Int) + (r0 : Int) = (W : Int) := by omega
  have t6 : (4 : Int) + (r1 : Int) = (H : Int) := by omega
  have t7 : (W : Int) * (H : Int) = (P : Int) := by rw [hP]; exact (Int.natCast_mul W H).symm
  have t8 : (n2 : Int).tmod (P : Int) = (f : Int) := by rw [Int.tmod_eq_emod_of_nonneg (by omega), hf]; exact (Int.natCast_emod n2 P).symm
  have t9 : (n2 : Int) % (P : Int) = (f : Int) := by rw [hf]; exact (Int.natCast_emod n2 P).symm
  have HP := Lib.hid hP
  have HA := Lib.hid (And.intro t1 (And.intro t2 (And.intro t3 (And.intro t4 (And.intro t5 t6)))))
  have HB := Lib.hid (And.intro t7 (And.intro t8 t9))
  clear hr0 hr1 hW hH hP hf t8 t9
  obtain ⟨i8, hi8, hz8, hs8, hb8⟩ := info_parts infoB
  obtain ⟨iI, hiI, hzI, hsI, hbI⟩ := info_parts infoI
  have HI := Lib.hid (And.intro hiI (And.intro hzI (And.intro hsI hbI))); clear hiI hzI hsI hbI
  have H8 := Lib.hid (And.intro hi8 (And.intro hz8 (And.intro hs8 hb8))); clear hi8 hz8 hs8 hb8
  have HQ0 : Hid (i8.bytes * P ≤ 281474976710656) := Lib.hid (by rw [H8.out.2.2.2]; omega)
  have HQI : Hid (iI.bytes * P ≤ 281474976710656) := Lib.hid (by rw [HI.out.2.2.2]; omega)
  have HQ1 : Hid (P ≤ maxLen) := Lib.hid (by unfold maxLen; omega)
  obtain ⟨T, hT⟩ : ∃ T, T = strOf (List.replicate P 0) := ⟨_, rfl⟩
  obtain ⟨hTs, hTz⟩ := zeros_ok P
  rw [← hT] at hTs hTz
  have hok : okm (W : Int) (H : Int) T := ⟨by omega, by omega, by omega, by omega, by rw [hTs, HP.out]; exact Int.natCast_mul W H, hTz⟩
  have HNEW : Hid (∀ w, Calls Try.prog 32 #[.int .i64 (W : Int), .int .i64 (H : Int), .string T] w fun e w' => e = .returned (.tuple #[.agg #[.int .i64 (W : Int), .int .i64 (H : Int), .string T], .int .i64 0]) ∧ Ext w w') := Lib.hid (fun w => (new_any (W : Int) (H : Int) T w (by omega) (by omega) (by omega) (by omega) (by omega)).mono (fun e w' h => ⟨by rw [h.1]; unfold newR; rw [if_pos hok]; rfl, h.2⟩))
  have HLEN : Hid (∀ w, Calls Try.prog 34 #[.agg #[.int .i64 (W : Int), .int .i64 (H : Int), .string T]] w fun e w' => e = .returned (.int .i64 (P : Int)) ∧ Ext w w') := Lib.hid (fun w => by have h := len_map W H T w (by omega); rwa [hTs] at h)
  have HNEXT : Hid (∀ i, i < P → ∀ w, Calls Try.prog 44 #[.agg #[.int .i64 (W : Int), .int .i64 (H : Int), .string T], .int .i64 (i : Int)] w (NxPost w (nxt W H i))) := Lib.hid (fun i hi w => next_yes W H i T w hW4 (by omega) hH4 (by omega) (by omega) (by omega))
  have HON : Hid (∀ i, i < P → ∀ w, Calls Try.prog 35 #[.agg #[.int .i64 (W : Int), .int .i64 (H : Int), .string T], .int .i64 (i : Int)] w fun e w' => e = .returned (.bool true) ∧ Ext w w') := Lib.hid (fun i hi w => on_yes W H i T w hW4 (by omega) (by omega))
  have HFAR : Hid (∀ i, i < P → ∀ w, Calls Try.prog 42 #[.agg #[.int .i64 (W : Int), .int .i64 (H : Int), .string T], .int .i64 (f : Int), .int .i64 (i : Int)] w fun e w' => e = .returned (.int .i64 (far W f i : Nat)) ∧ Ext w w') := Lib.hid (fun i hi w => far_yes W H f i T w hW4 (by omega) (by omega) (by omega) (by omega))
  have HARD := Lib.hid (fun w => around W H P f (F : Int) T w hW4 (by omega) hH4 (by omega) HP.out hTs hfP (by omega) (by omega))
  have HT := Lib.hid hT; have HTS := Lib.hid hTs
  clear hok hTz hTs hT
  obtain ⟨t1, t2, t3, t4, t5, t6⟩ := HA.out
  go_enter Try.func9, Try.ntmps9
  go_wp2_with (at_make; refine wpList_make_full w rfl (.tmp 35) (.tmp 35) 71 rfl w.heap.size 5 i8 (.int .u8 0) 1 Try.underlying71 H8.out.1 H8.out.2.1 H8.out.2.2.1 .i64 .i64 (P : Int) (P : Int) P rfl rfl rfl rfl HQ0.out HQ1.out (Nat.le_refl _) ?_; intro w1 hown1 hg1; have hcv := conv_zeros hown1; rw [← HT.out] at hcv; have HE1 := Lib.hid (ext_grown (Ext.rfl' w) hg1 (fun k hk => by cases hk)); clear hown1 hg1)
  clear t1 t2 t3 t4 t5 t6 hcv
  refine (HNEW.out _).mono ?_
  rintro e w2 ⟨rfl, b2⟩
  have HE2 := Lib.hid (ext_trans HE1.out b2)
  clear b2
  go_wp2_with fail
  have KM2 := Lib.hid (Blk.new w2 52 #[.int .i64 (W : Int), .int .i64 (H : Int), .string T])
  obtain ⟨bm, hbm⟩ : ∃ b, b = w2.heap.size := ⟨_, rfl⟩
  obtain ⟨w3, hw3⟩ : ∃ W3, W3 = w2.alloc (.cells #[.int .i64 (W : Int), .int .i64 (H : Int), .string T] 52) := ⟨_, rfl⟩
  have HE3 := Lib.hid (ext_alloc HE2.out (.cells #[.int .i64 (W : Int), .int .i64 (H : Int), .string T] 52))
  have hbmw : w.heap.size ≤ bm := by have := HE2.out.size; omega
  rw [← hw3] at KM2 HE3 ⊢
  rw [← hbm] at KM2 ⊢
  clear hw3 hbm
  obtain ⟨m0, m1, m2⟩ := map_cells KM2.out
  go_wp2_with fail
  refine (HLEN.out _).mono ?_
  rintro e w4 ⟨rfl, b4⟩
  have KM4 := Lib.hid (KM2.out.ext b4); have HE4 := Lib.hid (ext_trans HE3.out b4)
  clear b4 m0 m1 m2
  obtain ⟨t7, t8, t9⟩ := HB.out
  have t10 : ¬ P = 0 := by omega
  go_wp2_with (at_make; refine wpList_make_full w4 rfl (.tmp 59) (.tmp 59) 66 rfl w4.heap.size 3 iI (.int .i64 0) 1 Try.underlying66 HI.out.1 HI.out.2.1 HI.out.2.2.1 .i64 .i64 (P : Int) (P : Int) P rfl rfl rfl rfl HQI.out HQ1.out (Nat.le_refl _) ?_; intro w5 hown5 hg5; have HO5 := Lib.hid hown5; have HG5 := Lib.hid hg5; clear hown5 hg5)
  have HN5 := Lib.hid (nums_zeros HO5.out)
  have KM5 := Lib.hid (blk_grown KM4.out HG5.out (fun e => by cases e))
  have HE5 := Lib.hid (ext_grown HE4.out HG5.out (fun k hk => by cases hk))
  have hs5 := Blk.lt HN5.out
  have hbs4 := KM4.out.lt
  clear HO5 HG5
  obtain ⟨bs, hbs⟩ : ∃ b, b = w4.heap.size := ⟨_, rfl⟩
  rw [← hbs] at HN5 hs5 hbs4 ⊢
  clear hbs t8 t9 t10
  have HS := Lib.hid (brel_start hfP hs5 HN5.out KM5.out HE5.out)
  go_loopg [15] (P + 1) (fun g v wr => BRel w W H P f bm bs T g v wr)
  case atStart => exact HS.out
  case round =>
    obtain ⟨s, Q, hB, hg, hgP, hWk, hN, hM, hE⟩ := hrel
    obtain ⟨wq, rfl⟩ : ∃ wq : World, wq = wr := ⟨_, rfl⟩
    obtain ⟨G, rfl⟩ : ∃ G : Nat, G = gk := ⟨_, rfl⟩
    have HBF := Lib.hid hB; have HG := Lib.hid hg; have HWK := Lib.hid hWk; have HN := Lib.hid hN; have HM := Lib.hid hM; have HE := Lib.hid hE
    clear hB hg hN hM hE
    cases Q with
    | nil =>
      obtain ⟨ag, ac, rfl⟩ := hWk.len
      have HFIN : Hid (∀ j, j < P → s.getD j 0 = far W f j) := Lib.hid (HBF.out.end_ (fun x hx h0 => by have := nxt_closer hW4 (by rw [← HP.out]; exact hfP) (by rw [← HP.out]; exact hx) h0; rwa [← HP.out] at this) (fun x _ h0 => far_zero h0))
      have hslen : s.length = P := HBF.out.len
      have HSL := Lib.hid hslen
      obtain ⟨m0, m1, m2⟩ := map_cells HM.out
      clear hWk hslen
      go_wp2_with fail
      refine (HARD.out _).mono ?_
      rintro e w6 ⟨v6, rfl, hR6, b6⟩
      obtain ⟨A6, c6, rfl, _⟩ := own_shape hR6
      have HNS := Lib.hid (Row.ns hR6).2
      have KM6 := Lib.hid (HM.out.ext b6); have KN6 := Lib.hid (NB.ext HN.out b6); have HE6 := Lib.hid (ext_trans HE.out b6)
      have hul := upto_len W f (F : Int) P
      clear hR6 b6 m0 m1 m2
      generalize hm : (upto W f (F : Int) P).length = m at hul HNS ⊢
      have HMM := Lib.hid hm
      clear hm
      go_wp2_with fail
      go_loopw [20, 21] (fun sv iv wr => NRel w6 W P f F sv iv wr) (fun _ iv _ => P - (intOf iv).toNat)
      case atStart => exact ⟨0, Nat.zero_le _, rfl, rfl, Ext.rfl' _⟩
      case round =>
        obtain ⟨i, hi, rfl, rfl, hE6⟩ := hrel
        obtain ⟨wi, rfl⟩ : ∃ wi : World, wi = wr := ⟨_, rfl⟩
        have KM := Lib.hid (KM6.out.ext hE6); have KN := Lib.hid (NB.ext KN6.out hE6); have HEI := Lib.hid hE6
        clear hE6
        by_cases hlt : i < P
        · obtain ⟨d, hd⟩ : ∃ d, far W f i = d := ⟨_, rfl⟩
          have hsi : s.getD i 0 = d := (HFIN.out i hlt).trans hd
          have hls : i < s.length := by rw [HSL.out]; exact hlt
          have HFI : Hid (∀ w, Calls Try.prog 42 #[.agg #[.int .i64 (W : Int), .int .i64 (H : Int), .string T], .int .i64 (f : Int), .int .i64 (i : Int)] w fun e w' => e = .returned (.int .i64 (d : Int)) ∧ Ext w w') := Lib.hid (fun w => by have := HFAR.out i hlt w; rwa [hd] at this)
          have hdb : d ≤ 24 := by
            have h2 := far_le (W := W) (H := H) (a := f) (b := i) (by omega) (by rw [← HP.out]; exact hfP) (by rw [← HP.out]; exact hlt)
            omega
          have HD := Lib.hid hd
          have y1 : (i : Int) < (P : Int) := by omega
          have y2 : (0 : Int) ≤ (i : Int) := by omega
          clear hd
          have HSI := Lib.hid hsi
          go_wp2_with fail
          have HX0 := Lib.hid (show SE wi wi.drew from ext_drew (Ext.rfl' wi))
          refine wp_region_held_drew (S := SE wi) hmx HX0.out (fun _ => ?_)
          (refine wpAnyH_take (i := 0) (oi := { dst := some 133, op := Go.Op.load 52 (Go.Operand.tmp 11), type := 52, pos := "law.go:82", after := #[], guard := none }) (v := ?_) rfl (by kernel_rfl) (by kernel_rfl) (by kernel_rfl) (fun _ _ _ h => h) (Or.inl ⟨by rfl, ?_⟩) HX0.out ?_); rotate_left
          · (intro w' hSw; obtain ⟨m0, m1, m2⟩ := map_cells (KM.out.ext hSw); have l0 := NB.cell (NB.ext KN.out hSw) hls; rw [hsi] at l0; go_simp; try with_reducible rfl)
          (try simp only [Act.put, List.setIfInBounds_toArray, List.set_cons_zero, List.set_cons_succ])
          (refine wpAnyH_take (i := 1) (oi := { dst := some 134, op := Go.Op.move (Go.Operand.tmp 13), type := 3, pos := "law.go:82", after := #[], guard := none }) (v := ?_) rfl (by kernel_rfl) (by kernel_rfl) (by kernel_rfl) (fun _ _ _ h => h) (Or.inl ⟨by rfl, ?_⟩) HX0.out ?_); rotate_left
          · (intro w' hSw; obtain ⟨m0, m1, m2⟩ := map_cells (KM.out.ext hSw); have l0 := NB.cell (NB.ext KN.out hSw) hls; rw [hsi] at l0; go_simp; try with_reducible rfl)
          (try simp only [Act.put, List.setIfInBounds_toArray, List.set_cons_zero, List.set_cons_succ])
          (refine wpAnyH_take (i := 2) (oi := { dst := some 135, op := Go.Op.move (Go.Operand.tmp 21), type := 3, pos := "law.go:82", after := #[], guard := none }) (v := ?_) rfl (by kernel_rfl) (by kernel_rfl) (by kernel_rfl) (fun _ _ _ h => h) (Or.inl ⟨by rfl, ?_⟩) HX0.out ?_); rotate_left
          · (intro w' hSw; obtain ⟨m0, m1, m2⟩ := map_cells (KM.out.ext hSw); have l0 := NB.cell (NB.ext KN.out hSw) hls; rw [hsi] at l0; go_simp; try with_reducible rfl)
          (try simp only [Act.put, List.setIfInBounds_toArray, List.set_cons_zero, List.set_cons_succ])
          (refine wpAnyH_take (i := 4) (oi := { dst := some 137, op := Go.Op.move (Go.Operand.tmp 14), type := 66, pos := "law.go:82", after := #[], guard := none }) (v := ?_) rfl (by kernel_rfl) (by kernel_rfl) (by kernel_rfl) (fun _ _ _ h => h) (Or.inl ⟨by rfl, ?_⟩) HX0.out ?_); rotate_left
          · (intro w' hSw; obtain ⟨m0, m1, m2⟩ := map_cells (KM.out.ext hSw); have l0 := NB.cell (NB.ext KN.out hSw) hls; rw [hsi] at l0; go_simp; try with_reducible rfl)
          (try simp only [Act.put, List.setIfInBounds_toArray, List.set_cons_zero, List.set_cons_succ])
          (refine wpAnyH_take (i := 5) (oi := { dst := some 138, op := Go.Op.move (Go.Operand.tmp 21), type := 3, pos := "law.go:82", after := #[], guard := none }) (v := ?_) rfl (by kernel_rfl) (by kernel_rfl) (by kernel_rfl) (fun _ _ _ h => h) (Or.inl ⟨by rfl, ?_⟩) HX0.out ?_); rotate_left
          · (intro w' hSw; obtain ⟨m0, m1, m2⟩ := map_cells (KM.out.ext hSw); have l0 := NB.cell (NB.ext KN.out hSw) hls; rw [hsi] at l0; go_simp; try with_reducible rfl)
          (try simp only [Act.put, List.setIfInBounds_toArray, List.set_cons_zero, List.set_cons_succ])
          (refine wpAnyH_take (i := 6) (oi := { dst := some 139, op := Go.Op.indexAddr 66 (Go.Operand.tmp 137) (Go.Operand.tmp 138), type := 0, pos := "law.go:82", after := #[{ on := 4, ground := Go.Ground.data }, { on := 5, ground := Go.Ground.data }], guard := none }) (v := ?_) rfl (by kernel_rfl) (by kernel_rfl) (by kernel_rfl) (fun _ _ _ h => h) (Or.inl ⟨by rfl, ?_⟩) HX0.out ?_); rotate_left
          · (intro w' hSw; obtain ⟨m0, m1, m2⟩ := map_cells (KM.out.ext hSw); have l0 := NB.cell (NB.ext KN.out hSw) hls; rw [hsi] at l0; go_simp; try with_reducible rfl)
          (try simp only [Act.put, List.setIfInBounds_toArray, List.set_cons_zero, List.set_cons_succ])
          (refine wpAnyH_take (i := 7) (oi := { dst := some 140, op := Go.Op.load 3 (Go.Operand.tmp 139), type := 3, pos := "law.go:82", after := #[{ on := 6, ground := Go.Ground.data }], guard := none }) (v := ?_) rfl (by kernel_rfl) (by kernel_rfl) (by kernel_rfl) (fun _ _ _ h => h) (Or.inl ⟨by rfl, ?_⟩) HX0.out ?_); rotate_left
          · (intro w' hSw; obtain ⟨m0, m1, m2⟩ := map_cells (KM.out.ext hSw); have l0 := NB.cell (NB.ext KN.out hSw) hls; rw [hsi] at l0; go_simp; try with_reducible rfl)
          (try simp only [Act.put, List.setIfInBounds_toArray, List.set_cons_zero, List.set_cons_succ])
          refine wpAnyH_ready (rs := [3]) (by kernel_rfl) (by simp) ?_
          refine AllReadyH.cons (o := { dst := some 136, op := Go.Op.call { callee := Go.Callee.value (Go.Operand.func 42), args := #[Go.Operand.tmp 133, Go.Operand.tmp 134, Go.Operand.tmp 135], argTypes := #[52, 3, 3] }, type := 3, pos := "law.go:82", after := #[{ on := 0, ground := Go.Ground.data }, { on := 1, ground := Go.Ground.data }, { on := 2, ground := Go.Ground.data }], guard := none }) rfl (fun K hK => ?_) AllReadyH.nil
          go_simp
          refine (HFI.out _).mono ?_
          rintro e x1 ⟨rfl, b9⟩
          have HXx1 := Lib.hid (show SE wi x1 from ext_trans HX0.out b9)
          clear b9
          (try go_wp2_with fail)
          refine hK.out _ _ HXx1.out (fun _ => ?_)
          clear hK K
          (try simp only [Act.put, List.setIfInBounds_toArray, List.set_cons_zero, List.set_cons_succ])
          (refine wpAnyH_take (i := 8) (oi := { dst := some 141, op := Go.Op.binOp Go.BinOp.neq 3 (Go.Operand.tmp 136) (Go.Operand.tmp 140) 3, type := 4, pos := "law.go:82", after := #[{ on := 3, ground := Go.Ground.data }, { on := 7, ground := Go.Ground.data }], guard := none }) (v := ?_) rfl (by kernel_rfl) (by kernel_rfl) (by kernel_rfl) (fun _ _ _ h => h) (Or.inl ⟨by rfl, ?_⟩) HXx1.out ?_); rotate_left
          · (intro w' hSw; obtain ⟨m0, m1, m2⟩ := map_cells (KM.out.ext hSw); have l0 := NB.cell (NB.ext KN.out hSw) hls; rw [hsi] at l0; go_simp; try with_reducible rfl)
          (try simp only [Act.put, List.setIfInBounds_toArray, List.set_cons_zero, List.set_cons_succ])
          refine wpAnyH_done (by kernel_rfl) ?_ _
          have HX := HXx1
          have KN1 := Lib.hid (NB.ext KN.out HX.out)
          have HE1 := Lib.hid (ext_trans HEI.out HX.out)
          have l0 := NB.cell KN1.out hls
          rw [hsi] at l0
          obtain ⟨wj, hwj⟩ : ∃ W9 : World, W9 = x1 := ⟨_, rfl⟩
          rw [← hwj] at KN1 HE1 l0 ⊢
          clear hwj HX HXx1 HX0 hsi
          by_cases hf : d ≤ F
          · have hle : (far W f i : Int) ≤ (F : Int) := by rw [HD.out]; omega
            obtain ⟨hget, hltn⟩ := upto_get hlt hle
            rw [HMM.out] at hltn
            have HUY := Lib.hid (upto_yes hle)
            obtain ⟨g6, o6, rfl, _, hc6⟩ := (HNS.out.ext HE1.out).2 (by omega)
            have l1 := hc6 _ hltn
            rw [hget] at l1
            have hni := upto_len W f (F : Int) i
            have HLI : Hid ((upto W f (F : Int) (i + 1)).length = (upto W f (F : Int) i).length + 1) := Lib.hid (by rw [HUY.out, List.length_append]; rfl)
            generalize (upto W f (F : Int) i).length = n at l1 hltn hni HLI ⊢
            have y3 : ¬ (F : Int) < (d : Int) := by omega
            have y4 : (n : Int) < (m : Int) := by omega
            have y5 : (0 : Int) ≤ (n : Int) := by omega
            clear hc6 hget hle
            go_wp2_with fail
            go_roundw
            case rel => exact ⟨i + 1, by omega, by go_num, by rw [HLI.out]; go_num, HE1.out⟩
            case measure => simp [intOf]; omega
          · have HUN := Lib.hid (upto_no (W := W) (t := f) (k := i) (f := (F : Int)) (by rw [HD.out]; omega))
            have y3 : (F : Int) < (d : Int) := by omega
            go_wp2_with fail
            go_roundw
            case rel => exact ⟨i + 1, by omega, by go_num, by rw [HUN.out], HE1.out⟩
            case measure => simp [intOf]; omega
        · obtain rfl : i = P := by omega
          rw [HMM.out]
          have y1 : ¬ (i : Int) < (i : Int) := by omega
          go_wp2_with fail
          refine (wakes _).mono ?_
          rintro e w9 ⟨rfl, b9⟩
          have HE9 := Lib.hid (ext_trans (ext_trans HE6.out HEI.out) b9)
          clear b9
          go_wp2_with fail
          go_ret
          exact ⟨rfl, HE9.out⟩
    | cons i Q =>
      obtain ⟨g, o, cap, rfl, hc1, hc2, hcell, hone, hmore⟩ := hWk.head
      have HONE := Lib.hid hone; have HMORE := Lib.hid hmore
      have hlq : Q.length ≤ 200 := by have := HG.out; simp only [List.length_cons] at this; omega
      clear hone hmore hWk
      have y1 : (0 : Int) < ((Q.length : Int) + 1) := by omega
      unfold maxLen at hc2
      go_upto_region 10 with fail
      go_cut [15] from 63 to 120 (fun v wx => Wk wx (bs + 1) bs v Q ∧ wx = wq)
      case first =>
        by_cases hcap : cap = 1
        · subst hcap
          obtain ⟨rfl, hw1⟩ := HONE.out rfl
          go_wp2_with fail
          go_meet
          exact ⟨hw1, rfl⟩
        · have y2 : ¬ cap = 1 := hcap
          go_wp2_with fail
          go_meet
          exact ⟨HMORE.out hcap, rfl⟩
      case rest =>
      obtain ⟨hwk, rfl⟩ := hcut
      obtain ⟨wp, hwp⟩ : ∃ W9 : World, W9 = wc := ⟨_, rfl⟩
      rw [← hwp] at hwk HN HM HE ⊢
      clear hwp HONE HMORE HWK
      have HWK := Lib.hid hwk
      have hiP := (HBF.out.right i (HBF.out.seen i (List.mem_cons_self ..))).1
      obtain ⟨m0, m1, m2⟩ := map_cells HM.out
      clear hwk hcell y1 hc1 hc2
      go_wp2_with fail
      refine (HNEXT.out i hiP _).mono ?_
      rintro e w6 ⟨v6, rfl, hR6, b6⟩
      have hbs6 := Blk.lt HN.out
      obtain ⟨gl, cl, cur, rfl, hgl, hL, htk, hcl⟩ := row_one hR6 (nxt_pos hW4)
      have hllt := hL.lt
      have hglbs : gl ≠ bs := by omega
      have hL4 : (nxt W H i).length ≤ 4 := by rw [← rn_nxt hW4 HP.out (by omega)]; exact rn_len _ _ _ _
      have HLF : Hid (∀ j ∈ nxt W H i, j < P ∧ far W f j ≤ far W f i + 1) := Lib.hid (fun j hj => by have := nxt_far (f := f) hW4 (by rw [← HP.out]; exact hiP) hj; rw [HP.out]; exact this)
      have HI0 : Hid (IRel w W H P f bm bs i gl T cur (nxt W H i) G (nxt W H i).length u15 (.int .i64 ((0 : Nat) : Int)) w6) := Lib.hid
        ⟨s, Q, 0, rfl, by omega, HBF.out, fun j hj => by omega, by have := HG.out; simp only [List.length_cons] at this; omega, (HWK.out.turn (.inl hgl)).ext b6, Blk.ext HN.out b6, HM.out.ext b6, hL, ext_trans HE.out b6⟩
      have HNX : Hid (∀ s', (∀ j, j < (nxt W H i).length → vis f s' ((nxt W H i).getD j 0)) → ∀ j ∈ nxt W H i, vis f s' j) := Lib.hid (fun s' h j hj => by
        obtain ⟨k, hk, rfl⟩ := List.getElem_of_mem hj
        have := h k hk
        rwa [List.getD_eq_getElem?_getD, List.getElem?_eq_getElem hk] at this)
      have HMEM : Hid (∀ k, k < (nxt W H i).length → (nxt W H i).getD k 0 ∈ nxt W H i) := Lib.hid (fun k hk => by
        rw [List.getD_eq_getElem?_getD, List.getElem?_eq_getElem hk]; exact List.getElem_mem hk)
      have HTK := Lib.hid htk
      generalize hLn : nxt W H i = L at HLF HI0 HNX HMEM HTK hL4 hcl ⊢
      have HLN := Lib.hid hLn
      clear hLn
      clear hR6 b6 m0 m1 m2 hL htk HBF HWK HN HM HE HG hlq hbs6
      go_wp2_with fail
      go_loopg [15, 18] L.length (fun g v kv wr => IRel w W H P f bm bs i gl T cur L G g v kv wr)
      case atStart => exact HI0.out
      case round =>
        obtain ⟨s, Q, k, rfl, hk, hB, hseen, hcnt, hWk, hN, hM, hL, hE⟩ := hrel
        obtain ⟨wi, rfl⟩ : ∃ wi : World, wi = wr := ⟨_, rfl⟩
        obtain ⟨ag, ac, rfl⟩ := hWk.len
        have HBF := Lib.hid hB; have HSN := Lib.hid hseen; have HCN := Lib.hid hcnt; have HWK := Lib.hid hWk
        have KN := Lib.hid hN; have KM := Lib.hid hM; have KL := Lib.hid hL; have HE := Lib.hid hE
        have hlq : Q.length ≤ 200 := by omega
        have hbsi := Blk.lt hN; have hgli := hL.lt
        clear hB hseen hcnt hWk hN hM hL hE
        by_cases hlt : k < L.length
        · obtain ⟨j, hj⟩ : ∃ j, L.getD k 0 = j := ⟨_, rfl⟩
          have hjm := HMEM.out k hlt
          rw [hj] at hjm
          obtain ⟨hjP, hjd⟩ := HLF.out j hjm
          have HJD := Lib.hid hjd
          have HJ := Lib.hid hj
          have y1 : (k : Int) < (L.length : Int) := by omega
          have y2 : (0 : Int) ≤ (k : Int) := by omega
          have hk5 : k ≤ 5 := by omega
          clear hjd hjm
          go_wp2_with fail
          have HX0 := Lib.hid (show SE wi wi.drew from ext_drew (Ext.rfl' wi))
          refine wp_region_held_drew (S := SE wi) hmx HX0.out (fun _ => ?_)
          (refine wpAnyH_take (i := 0) (oi := { dst := some 80, op := Go.Op.load 52 (Go.Operand.tmp 11), type := 52, pos := "law.go:70", after := #[], guard := none }) (v := ?_) rfl (by kernel_rfl) (by kernel_rfl) (by kernel_rfl) (fun _ _ _ h => h) (Or.inl ⟨by rfl, ?_⟩) HX0.out ?_); rotate_left
          · (intro w' hSw; obtain ⟨m0, m1, m2⟩ := map_cells (KM.out.ext hSw); have l0 := take_cell (KL.out.ext hSw) HTK.out rfl k hlt; rw [hj] at l0; go_simp; try with_reducible rfl)
          (try simp only [Act.put, List.setIfInBounds_toArray, List.set_cons_zero, List.set_cons_succ])
          (refine wpAnyH_take (i := 1) (oi := { dst := some 81, op := Go.Op.move (Go.Operand.tmp 17), type := 66, pos := "law.go:70", after := #[], guard := none }) (v := ?_) rfl (by kernel_rfl) (by kernel_rfl) (by kernel_rfl) (fun _ _ _ h => h) (Or.inl ⟨by rfl, ?_⟩) HX0.out ?_); rotate_left
          · (intro w' hSw; obtain ⟨m0, m1, m2⟩ := map_cells (KM.out.ext hSw); have l0 := take_cell (KL.out.ext hSw) HTK.out rfl k hlt; rw [hj] at l0; go_simp; try with_reducible rfl)
          (try simp only [Act.put, List.setIfInBounds_toArray, List.set_cons_zero, List.set_cons_succ])
          (refine wpAnyH_take (i := 2) (oi := { dst := some 82, op := Go.Op.move (Go.Operand.tmp 18), type := 3, pos := "law.go:70", after := #[], guard := none }) (v := ?_) rfl (by kernel_rfl) (by kernel_rfl) (by kernel_rfl) (fun _ _ _ h => h) (Or.inl ⟨by rfl, ?_⟩) HX0.out ?_); rotate_left
          · (intro w' hSw; obtain ⟨m0, m1, m2⟩ := map_cells (KM.out.ext hSw); have l0 := take_cell (KL.out.ext hSw) HTK.out rfl k hlt; rw [hj] at l0; go_simp; try with_reducible rfl)
          (try simp only [Act.put, List.setIfInBounds_toArray, List.set_cons_zero, List.set_cons_succ])
          (refine wpAnyH_take (i := 3) (oi := { dst := some 83, op := Go.Op.indexAddr 66 (Go.Operand.tmp 81) (Go.Operand.tmp 82), type := 0, pos := "law.go:70", after := #[{ on := 1, ground := Go.Ground.data }, { on := 2, ground := Go.Ground.data }], guard := none }) (v := ?_) rfl (by kernel_rfl) (by kernel_rfl) (by kernel_rfl) (fun _ _ _ h => h) (Or.inl ⟨by rfl, ?_⟩) HX0.out ?_); rotate_left
          · (intro w' hSw; obtain ⟨m0, m1, m2⟩ := map_cells (KM.out.ext hSw); have l0 := take_cell (KL.out.ext hSw) HTK.out rfl k hlt; rw [hj] at l0; go_simp; try with_reducible rfl)
          (try simp only [Act.put, List.setIfInBounds_toArray, List.set_cons_zero, List.set_cons_succ])
          (refine wpAnyH_take (i := 4) (oi := { dst := some 84, op := Go.Op.load 3 (Go.Operand.tmp 83), type := 3, pos := "law.go:70", after := #[{ on := 3, ground := Go.Ground.data }], guard := none }) (v := ?_) rfl (by kernel_rfl) (by kernel_rfl) (by kernel_rfl) (fun _ _ _ h => h) (Or.inl ⟨by rfl, ?_⟩) HX0.out ?_); rotate_left
          · (intro w' hSw; obtain ⟨m0, m1, m2⟩ := map_cells (KM.out.ext hSw); have l0 := take_cell (KL.out.ext hSw) HTK.out rfl k hlt; rw [hj] at l0; go_simp; try with_reducible rfl)
          (try simp only [Act.put, List.setIfInBounds_toArray, List.set_cons_zero, List.set_cons_succ])
          refine wpAnyH_ready (rs := [5]) (by kernel_rfl) (by simp) ?_
          refine AllReadyH.cons (o := { dst := some 85, op := Go.Op.call { callee := Go.Callee.value (Go.Operand.func 35), args := #[Go.Operand.tmp 80, Go.Operand.tmp 84], argTypes := #[52, 3] }, type := 4, pos := "law.go:70", after := #[{ on := 0, ground := Go.Ground.data }, { on := 4, ground := Go.Ground.data }], guard := none }) rfl (fun K hK => ?_) AllReadyH.nil
          go_simp
          refine (HON.out j hjP _).mono ?_
          rintro e x1 ⟨rfl, b9⟩
          have HXx1 := Lib.hid (show SE wi x1 from ext_trans HX0.out b9)
          clear b9
          (try go_wp2_with fail)
          refine hK.out _ _ HXx1.out (fun _ => ?_)
          clear hK K
          (try simp only [Act.put, List.setIfInBounds_toArray, List.set_cons_zero, List.set_cons_succ])
          (refine wpAnyH_take (i := 6) (oi := { dst := some 86, op := Go.Op.unOp Go.UnOp.not 4 (Go.Operand.tmp 85), type := 4, pos := "law.go:70", after := #[{ on := 5, ground := Go.Ground.data }], guard := none }) (v := ?_) rfl (by kernel_rfl) (by kernel_rfl) (by kernel_rfl) (fun _ _ _ h => h) (Or.inl ⟨by rfl, ?_⟩) HXx1.out ?_); rotate_left
          · (intro w' hSw; obtain ⟨m0, m1, m2⟩ := map_cells (KM.out.ext hSw); have l0 := take_cell (KL.out.ext hSw) HTK.out rfl k hlt; rw [hj] at l0; go_simp; try with_reducible rfl)
          (try simp only [Act.put, List.setIfInBounds_toArray, List.set_cons_zero, List.set_cons_succ])
          refine wpAnyH_done (by kernel_rfl) ?_ _
          have HX := HXx1
          have KM1 := Lib.hid (KM.out.ext HX.out); have KN1 := Lib.hid (NB.ext KN.out HX.out); have KL1 := Lib.hid (KL.out.ext HX.out)
          have HE1 := Lib.hid (ext_trans HE.out HX.out); have HWK1 := Lib.hid (HWK.out.ext HX.out)
          have l0 := take_cell KL1.out HTK.out rfl k hlt
          rw [hj] at l0
          have hsz := HX.out.size
          obtain ⟨wj, hwj⟩ : ∃ W9 : World, W9 = x1 := ⟨_, rfl⟩
          rw [← hwj] at KM1 KN1 KL1 HE1 HWK1 l0 hsz ⊢
          clear hwj KM KN KL HE HWK HX HXx1 HX0 hj
          by_cases hjf : j = f
          · subst hjf
            go_wp2_with fail
            go_roundg (L.length - (k + 1))
            case measure => omega
            case rel => exact ⟨s, Q, k + 1, by go_num, by omega, HBF.out, fun x hx => by
              by_cases e : x < k
              · exact HSN.out x e
              · obtain rfl : x = k := by omega
                exact .inl HJ.out, HCN.out, HWK1.out, KN1.out, KM1.out, KL1.out, HE1.out⟩
          · have q1 : ((j : Int) != (f : Int)) = true := bne_iff_ne.2 (by omega)
            have hjs : j < s.length := by rw [HBF.out.len]; exact hjP
            have l1 := NB.cell KN1.out hjs
            obtain ⟨sj, hsj⟩ : ∃ sj, s.getD j 0 = sj := ⟨_, rfl⟩
            rw [hsj] at l1
            have HSJ := Lib.hid hsj
            clear hsj
            have y4 : (j : Int) < (P : Int) := by omega
            have y5 : (0 : Int) ≤ (j : Int) := by omega
            by_cases hs0 : sj = 0
            · subst hs0
              have his : i < s.length := by rw [HBF.out.len]; exact hiP
              have l2 := NB.cell KN1.out his
              obtain ⟨si, hsi⟩ : ∃ si, s.getD i 0 = si := ⟨_, rfl⟩
              have hsi2 : si ≤ 24 := by
                have h1 := (HBF.out.right i (HBF.out.seen i (List.mem_cons_self ..))).2
                have h2 := far_le (W := W) (H := H) (a := f) (b := i) (by omega) (by rw [← HP.out]; exact hfP) (by rw [← HP.out]; exact hiP)
                omega
              rw [hsi] at l2
              have HSI := Lib.hid hsi
              have l3 := Blk.frozen KN1.out j
              have y6 : (i : Int) < (P : Int) := by omega
              have y7 : (0 : Int) ≤ (i : Int) := by omega
              clear hsi
              go_wp2_with fail
              go_region
              obtain ⟨wk, hwk⟩ : ∃ W9 : World, W9 = (wj.setCell ⟨bs, j, none⟩ (.int .i64 ((si : Int) + 1))).drew := ⟨_, rfl⟩
              have KN2 := Lib.hid (show NB wk bs (s.set j (si + 1)) from by rw [hwk]; have := NB.set KN1.out j (si + 1); rw [Int.natCast_add] at this; exact this)
              have KM2 := Lib.hid (show Blk wk bm 52 #[.int .i64 (W : Int), .int .i64 (H : Int), .string T] from by rw [hwk]; exact (KM1.out.far (by show bm ≠ bs; omega) _).drew)
              have KL2 := Lib.hid (show Blk wk gl 3 cur from by rw [hwk]; exact (KL1.out.far (by show gl ≠ bs; exact hglbs) _).drew)
              have HE2 := Lib.hid (show Ext w wk from by rw [hwk]; exact ext_drew (ext_set HE1.out (by show w.heap.size ≤ bs; omega) _))
              have HWK2 := Lib.hid (show Wk wk (bs + 1) gl (.slice (some ag) Q.length ac) Q from by rw [hwk]; exact HWK1.out.far (by show bs < bs + 1; omega) _)
              rw [← hwk]
              clear hwk l0 l1 l2 l3 KN1 KM1 KL1 HE1 HWK1
              have l0 := take_cell KL2.out HTK.out rfl k hlt
              rw [HJ.out] at l0
              have hb2 := Blk.lt KN2.out; have hg2 := KL2.out.lt
              obtain ⟨v9, w9, hr9, hw9, hg9⟩ := wk_more iI HI.out.1 HI.out.2.1 HI.out.2.2.1 HI.out.2.2.2 66 (HWK2.out.ext (ext_alloc (Ext.rfl' wk) (.cells #[.int .i64 (j : Int)] 3))) ⟨wk.heap.size, 0, none⟩ j ((Blk.new wk 3 #[.int .i64 (j : Int)]).cell 0) (by omega) (by simp; omega) (by simp; omega)
              have hown9 := HWK2.out.1
              have KN9 := Lib.hid (show NB w9 bs (s.set j (si + 1)) from blk_grown (Blk.alloc KN2.out _) hg9 (fun e => by have := hown9 _ e; omega))
              have KM9 := Lib.hid (blk_grown (KM2.out.alloc _) hg9 (fun e => by have := hown9 _ e; omega))
              have KL9 := Lib.hid (blk_grown (KL2.out.alloc _) hg9 (fun e => by have := hown9 _ e; omega))
              have HE9 := Lib.hid (ext_grown (ext_alloc HE2.out _) hg9 (fun n e => by have := hown9 _ e; omega))
              have HR9 := Lib.hid hr9; have HW9 := Lib.hid hw9
              clear hr9 hw9 hg9 hown9
              go_wp2_with (at_builtin; refine wpList_of_append rfl (.tmp 114) (.tmp 119) 66 66 rfl _ _ rfl rfl HR9.out ?_)
              have hnv : ¬ vis f s j := fun h => h.elim hjf (fun h => h HSJ.out)
              go_roundg (L.length - (k + 1))
              case measure => omega
              case rel => exact ⟨s.set j (si + 1), Q ++ [j], k + 1, by go_num, by omega, by
                have := HBF.out.step (fun x hx h0 => by have := nxt_closer hW4 (by rw [← HP.out]; exact hfP) (by rw [← HP.out]; exact hx) h0; rwa [← HP.out] at this) (fun x _ h0 => far_zero h0) hjP HJD.out hnv
                rwa [HSI.out] at this, fun x hx => by
                by_cases e : x < k
                · exact vis_set (HSN.out x e)
                · obtain rfl : x = k := by omega
                  rw [HJ.out]; exact vis_new hjs, by have := count_set hjs HSJ.out (show si + 1 ≠ 0 by omega); have := HCN.out; rw [List.length_append]; simp only [List.length_cons, List.length_nil]; omega, HW9.out, KN9.out, KM9.out, KL9.out, HE9.out⟩
            · have q2 : ((sj : Int) == 0) = false := beq_eq_false_iff_ne.2 (by omega)
              go_wp2_with fail
              go_roundg (L.length - (k + 1))
              case measure => omega
              case rel => exact ⟨s, Q, k + 1, by go_num, by omega, HBF.out, fun x hx => by
                by_cases e : x < k
                · exact HSN.out x e
                · obtain rfl : x = k := by omega
                  exact .inr (by rw [HJ.out, HSJ.out]; exact hs0), HCN.out, HWK1.out, KN1.out, KM1.out, KL1.out, HE1.out⟩
        · have y1 : ¬ (k : Int) < (L.length : Int) := by omega
          go_wp2_with fail
          have hc := HCN.out
          go_roundg (G - 1)
          case measure => omega
          case rel => exact ⟨s, Q, HBF.out.next (by rw [HLN.out]; exact HNX.out s (fun x hx => HSN.out x (by omega))), by omega, by omega, HWK.out.turn (.inr (by omega)), KN.out, KM.out, HE.out⟩
end Go.Proofs.Ytdbjknljdplinaa.Grid
