/- ArenaPlays, walked. -/
import Derived.Test.YtdbjknljdplinaaAreH
namespace Go.Proofs.Ytdbjknljdplinaa.Arena
open Go.ChangeShapes Go.WideShapes Go.ChangeAt Go.RowKit
set_option linter.unusedVariables false

def PRel (w : World) (n : Nat) (iv : Value) (wr : World) : Prop := ∃ (k : Nat) (A R Ah Rh : Array Value), k ≤ n ∧ iv = .int .i64 ((k : Nat) : Int) ∧ Tw A R ∧ Tw Ah Rh ∧
  Blk wr w.heap.size 78 A ∧ Blk wr (w.heap.size + 1) 78 Ah ∧ Blk wr (w.heap.size + 1 + 1) 82 R ∧ Blk wr (w.heap.size + 1 + 1 + 1) 82 Rh ∧ Ext w wr
set_option maxHeartbeats 16000000 in
set_option maxRecDepth 100000 in
theorem plays (A : Option Addr) (n c ask : Nat) (ls : List (Nat × Nat × Int)) (w : World) (hB : Acts w A n ls) (hn1 : n ≤ 300) (ha : ask < 65536) :
    Calls Try.prog 10 #[.slice A n c, .int .u16 (ask : Int)] w fun e w' => e = .returned (.bool true) ∧ Ext w w' := by
  obtain ⟨hn, hhn⟩ : ∃ h, h = n / 2 := ⟨_, rfl⟩
  have t1 : (n : Int).tdiv 2 = (hn : Int) := by rw [Int.tdiv_eq_ediv_of_nonneg (by omega)]; omega
  have t2 : (n : Int) / 2 = (hn : Int) := by omega
  have t3 : ¬ (300 : Int) < (n : Int) := by omega
  have HB := Lib.hid hB
  obtain ⟨ZA, hZA⟩ : ∃ Z, Z = zA := ⟨_, rfl⟩
  obtain ⟨ZR, hZR⟩ : ∃ Z, Z = zR := ⟨_, rfl⟩
  have HT0 : Hid (Tw ZA ZR) := Lib.hid (by rw [hZA, hZR]; exact Tw.zero)
  have HZA0 : Hid ((Try.prog.info? 78).bind (·.zero) = some (.agg ZA)) := Lib.hid (by rw [hZA]; exact zeroA)
  have HZR0 : Hid ((Try.prog.info? 82).bind (·.zero) = some (.agg ZR)) := Lib.hid (by rw [hZR]; exact zeroR)
  clear hB hZA hZR hhn
  obtain ⟨s1, s2, s3, s4⟩ := HT0.out.sizes
  have HZZA := Lib.hid s1; have HZZR := Lib.hid s2
  clear s1 s2 s3 s4
  go_enter Try.func10, Try.ntmps10
  go_upto_region 5 with (first | (refine wpList_allocZ rfl 78 rfl ZA HZA0.out ?_) | (refine wpList_allocZ rfl 82 rfl ZR HZR0.out ?_))
  try simp only [Act.put, List.setIfInBounds_toArray, List.set_cons_zero, List.set_cons_succ, World.size_alloc]
  have h4 := four w 78 82 ZA ZR
  obtain ⟨w0, hw0⟩ : ∃ W9 : World, W9 = (((w.alloc (.cells ZA 78)).alloc (.cells ZA 78)).alloc (.cells ZR 82)).alloc (.cells ZR 82) := ⟨_, rfl⟩
  rw [← hw0] at h4 ⊢
  clear hw0
  have HR0 : Hid (PRel w n (.int .i64 ((0 : Nat) : Int)) w0) := Lib.hid ⟨0, ZA, ZR, ZA, ZR, by omega, rfl, HT0.out, HT0.out, h4⟩
  clear h4
  go_wp2_with fail
  go_loopw [9] (fun iv wr => PRel w n iv wr) (fun iv _ => n - (intOf iv).toNat)
  case atStart => exact HR0.out
  case round =>
    obtain ⟨k, A1, R1, Ah, Rh, hk, rfl, hT, hTh, hA, hH, hW, hZ, hE⟩ := hrel
    obtain ⟨wi, rfl⟩ : ∃ wi : World, wi = wr := ⟨_, rfl⟩
    have HTT := Lib.hid hT; have HT := Lib.hid hTh
    have KA := Lib.hid hA; have KH := Lib.hid hH; have KW := Lib.hid hW; have KZ := Lib.hid hZ; have HE := Lib.hid hE
    clear hT hTh hA hH hW hZ HR0
    obtain ⟨s1, s2, s3, s4⟩ := HTT.out.sizes
    have HZA1 := Lib.hid s1; have HZR1 := Lib.hid s2; have HOA1 := Lib.hid s3; have HOR1 := Lib.hid s4
    clear s1 s2 s3 s4
    obtain ⟨s1, s2, s3, s4⟩ := HT.out.sizes
    have HZAh := Lib.hid s1; have HZRh := Lib.hid s2; have HOAh := Lib.hid s3; have HORh := Lib.hid s4
    clear s1 s2 s3 s4
    by_cases hlt : k < n
    · obtain ⟨gl, o, rfl, hgl, hc⟩ := HB.out.2.2 (by omega)
      have hlen := HB.out.1
      have hlk : k < ls.length := by omega
      have hbd := HB.out.2.1 ls[k] (List.getElem_mem hlk)
      obtain ⟨k0, k1, k2⟩ := hc k hlk
      generalize ls[k].1 = d at hbd k0
      generalize ls[k].2.1 = id at hbd k1
      generalize ls[k].2.2 = v at k2
      obtain ⟨hd, hid⟩ := hbd
      have HCE : Hid (∀ w', Ext w w' → w'.cell? ⟨gl, o + k * 3, none⟩ = some (.int .u8 (d : Int)) ∧ w'.cell? ⟨gl, o + k * 3 + 1, none⟩ = some (.int .u16 (id : Int)) ∧ w'.cell? ⟨gl, o + k * 3 + 2, none⟩ = some (.int .i64 v)) :=
        Lib.hid (fun w' e => ⟨(e.cell (p := ⟨gl, _, none⟩) hgl).trans k0, (e.cell (p := ⟨gl, _, none⟩) hgl).trans k1, (e.cell (p := ⟨gl, _, none⟩) hgl).trans k2⟩)
      have HRI : Hid (IntKind.i64.wrap (id : Int) = (id : Int)) := Lib.hid (IntWalk.i64_in _ (by omega))
      clear hc hlen hlk k0 k1 k2 hgl
      obtain ⟨c0, c1, c2⟩ := HCE.out wi HE.out
      have y1 : (0 : Int) ≤ (k : Int) := by omega
      have y2 : (k : Int) < (n : Int) := by omega
      clear hE
      by_cases hd0 : d = 0
      · subst hd0
        obtain ⟨A2, R2, hT2, hC1, hC2⟩ := HTT.out.drop id hid
        have HT2 := Lib.hid hT2; have HC1 := Lib.hid hC1; have HC2 := Lib.hid hC2
        clear hT2 hC1 hC2
        obtain ⟨s1, s2, s3, s4⟩ := HT2.out.sizes
        have HZA2 := Lib.hid s1; have HZR2 := Lib.hid s2; have HOA2 := Lib.hid s3; have HOR2 := Lib.hid s4
        clear s1 s2 s3 s4
        go_wp2_with fail
        clear c0 c1 c2
        have KA := Lib.hid KA.out.drew; have KH := Lib.hid KH.out.drew; have KW := Lib.hid KW.out.drew; have KZ := Lib.hid KZ.out.drew; have HE := Lib.hid (ext_drew HE.out)
        have HX0 := Lib.hid (show SE w wi.drew from HE.out)
        refine wp_region_held_drew (S := SE w) hmx HX0.out (fun _ => ?_)
        (refine wpAnyH_take (i := 1) (oi := { dst := some 80, op := Go.Op.move (Go.Operand.tmp 0), type := 73, pos := "law.go:60", after := #[], guard := none }) (v := ?_) rfl (by kernel_rfl) (by kernel_rfl) (by kernel_rfl) (fun _ _ _ h => h) (Or.inl ⟨by rfl, ?_⟩) HX0.out ?_); rotate_left
        · (intro w' hSw; obtain ⟨c0, c1, c2⟩ := HCE.out w' hSw; have rI := HRI.out; go_simp; try with_reducible rfl)
        (try simp only [Act.put, List.setIfInBounds_toArray, List.set_cons_zero, List.set_cons_succ])
        (refine wpAnyH_take (i := 2) (oi := { dst := some 81, op := Go.Op.move (Go.Operand.tmp 9), type := 3, pos := "law.go:60", after := #[], guard := none }) (v := ?_) rfl (by kernel_rfl) (by kernel_rfl) (by kernel_rfl) (fun _ _ _ h => h) (Or.inl ⟨by rfl, ?_⟩) HX0.out ?_); rotate_left
        · (intro w' hSw; obtain ⟨c0, c1, c2⟩ := HCE.out w' hSw; have rI := HRI.out; go_simp; try with_reducible rfl)
        (try simp only [Act.put, List.setIfInBounds_toArray, List.set_cons_zero, List.set_cons_succ])
        (refine wpAnyH_take (i := 3) (oi := { dst := some 82, op := Go.Op.indexAddr 73 (Go.Operand.tmp 80) (Go.Operand.tmp 81), type := 0, pos := "law.go:60", after := #[{ on := 1, ground := Go.Ground.data }, { on := 2, ground := Go.Ground.data }], guard := none }) (v := ?_) rfl (by kernel_rfl) (by kernel_rfl) (by kernel_rfl) (fun _ _ _ h => h) (Or.inl ⟨by rfl, ?_⟩) HX0.out ?_); rotate_left
        · (intro w' hSw; obtain ⟨c0, c1, c2⟩ := HCE.out w' hSw; have rI := HRI.out; go_simp; try with_reducible rfl)
        (try simp only [Act.put, List.setIfInBounds_toArray, List.set_cons_zero, List.set_cons_succ])
        (refine wpAnyH_take (i := 4) (oi := { dst := some 83, op := Go.Op.fieldAddr 84 (Go.Operand.tmp 82) 1, type := 0, pos := "law.go:60", after := #[{ on := 3, ground := Go.Ground.data }], guard := none }) (v := ?_) rfl (by kernel_rfl) (by kernel_rfl) (by kernel_rfl) (fun _ _ _ h => h) (Or.inl ⟨by rfl, ?_⟩) HX0.out ?_); rotate_left
        · (intro w' hSw; obtain ⟨c0, c1, c2⟩ := HCE.out w' hSw; have rI := HRI.out; go_simp; try with_reducible rfl)
        (try simp only [Act.put, List.setIfInBounds_toArray, List.set_cons_zero, List.set_cons_succ])
        (refine wpAnyH_take (i := 5) (oi := { dst := some 84, op := Go.Op.load 43 (Go.Operand.tmp 83), type := 43, pos := "law.go:60", after := #[{ on := 4, ground := Go.Ground.data }], guard := none }) (v := ?_) rfl (by kernel_rfl) (by kernel_rfl) (by kernel_rfl) (fun _ _ _ h => h) (Or.inl ⟨by rfl, ?_⟩) HX0.out ?_); rotate_left
        · (intro w' hSw; obtain ⟨c0, c1, c2⟩ := HCE.out w' hSw; have rI := HRI.out; go_simp; try with_reducible rfl)
        (try simp only [Act.put, List.setIfInBounds_toArray, List.set_cons_zero, List.set_cons_succ])
        refine wpAnyH_ready (rs := [0]) (by kernel_rfl) (by simp) ?_
        refine AllReadyH.cons (o := { dst := some 79, op := Go.Op.load 78 (Go.Operand.tmp 5), type := 78, pos := "law.go:60", after := #[], guard := none }) (by kernel_rfl) (fun K hK => ?_) AllReadyH.nil
        refine want (by rfl) ?_
        refine wp_load_row 78 (.tmp 5) rfl w.heap.size rfl 78 A1 (0, 0) _ KA.out Try.underlying78 rfl (by rw [HZA1.out]; exact sizeA) ?_
        refine hK.out _ _ HX0.out (fun _ => ?_)
        clear hK K
        (try simp only [Act.put, List.setIfInBounds_toArray, List.set_cons_zero, List.set_cons_succ])
        refine wpAnyH_ready (rs := [6]) (by kernel_rfl) (by simp) ?_
        refine AllReadyH.cons (o := { dst := some 85, op := Go.Op.call { callee := Go.Callee.value (Go.Operand.func 50), args := #[Go.Operand.tmp 79, Go.Operand.tmp 84], argTypes := #[78, 43] }, type := 78, pos := "law.go:60", after := #[{ on := 0, ground := Go.Ground.data }, { on := 5, ground := Go.Ground.data }], guard := none }) (by kernel_rfl) (fun K hK => ?_) AllReadyH.nil
        go_simp
        refine (HC1.out _).mono ?_
        rintro e x1 ⟨rfl, b9⟩
        have KA := Lib.hid (KA.out.ext b9); have KH := Lib.hid (KH.out.ext b9); have KW := Lib.hid (KW.out.ext b9); have KZ := Lib.hid (KZ.out.ext b9); have HE := Lib.hid (ext_trans HE.out b9)
        have HX1 := Lib.hid (show SE w x1 from HE.out)
        clear b9
        (try go_wp2_with fail)
        refine hK.out _ _ HX1.out (fun _ => ?_)
        clear hK K
        (try simp only [Act.put, List.setIfInBounds_toArray, List.set_cons_zero, List.set_cons_succ])
        refine wpAnyH_ready (rs := [7]) (by kernel_rfl) (by simp) ?_
        refine AllReadyH.cons (o := { dst := none, op := Go.Op.store 78 (Go.Operand.tmp 5) (Go.Operand.tmp 85), type := 0, pos := "law.go:60", after := #[{ on := 6, ground := Go.Ground.data }, { on := 6, ground := Go.Ground.chain }, { on := 0, ground := Go.Ground.phase }, { on := 1, ground := Go.Ground.phase }, { on := 2, ground := Go.Ground.phase }, { on := 3, ground := Go.Ground.phase }, { on := 4, ground := Go.Ground.phase }, { on := 5, ground := Go.Ground.phase }, { on := 6, ground := Go.Ground.phase }], guard := none }) (by kernel_rfl) (fun K hK => ?_) AllReadyH.nil
        refine want (by rfl) ?_
        refine wp_store_row 78 (.tmp 5) (.tmp 85) rfl w.heap.size A2 rfl rfl 78 A1 KA.out (by rw [HZA2.out]; exact sizeA) (by rw [HZA1.out, HZA2.out]) HOA2.out ?_
        have HX2 := Lib.hid (show SE w (x1.setRow w.heap.size A2) from ext_setRow HE.out (by omega) _)
        refine hK.out _ _ HX2.out (fun _ => ?_)
        clear hK K
        (try simp only [Act.put, List.setIfInBounds_toArray, List.set_cons_zero, List.set_cons_succ])
        refine wpAnyH_done (by kernel_rfl) ?_ _
        obtain ⟨wa, hwn⟩ : ∃ W9 : World, W9 = x1.setRow w.heap.size A2 := ⟨_, rfl⟩
        have NA := Lib.hid (show Blk wa w.heap.size 78 A2 from by rw [hwn]; exact setRow_blk KA.out)
        have NH := Lib.hid (show Blk wa (w.heap.size + 1) 78 Ah from by rw [hwn]; exact setRow_far KH.out (by omega))
        have NW := Lib.hid (show Blk wa (w.heap.size + 1 + 1) 82 R1 from by rw [hwn]; exact setRow_far KW.out (by omega))
        have NZ := Lib.hid (show Blk wa (w.heap.size + 1 + 1 + 1) 82 Rh from by rw [hwn]; exact setRow_far KZ.out (by omega))
        have NE := Lib.hid (show Ext w wa from by rw [hwn]; exact ext_setRow HE.out (by omega) _)
        rw [← hwn]
        clear hwn KA KH KW KZ HE
        have KA := NA; have KH := NH; have KW := NW; have KZ := NZ; have HE := NE
        clear NA NH NW NZ NE
        clear HX0 HX1 HX2
        go_wp2_with fail
        have KA := Lib.hid KA.out.drew; have KH := Lib.hid KH.out.drew; have KW := Lib.hid KW.out.drew; have KZ := Lib.hid KZ.out.drew; have HE := Lib.hid (ext_drew HE.out)
        have HX0 := Lib.hid (show SE w wa.drew from HE.out)
        refine wp_region_held_drew (S := SE w) hmx HX0.out (fun _ => ?_)
        (refine wpAnyH_take (i := 1) (oi := { dst := some 87, op := Go.Op.move (Go.Operand.tmp 0), type := 73, pos := "law.go:61", after := #[], guard := none }) (v := ?_) rfl (by kernel_rfl) (by kernel_rfl) (by kernel_rfl) (fun _ _ _ h => h) (Or.inl ⟨by rfl, ?_⟩) HX0.out ?_); rotate_left
        · (intro w' hSw; obtain ⟨c0, c1, c2⟩ := HCE.out w' hSw; have rI := HRI.out; go_simp; try with_reducible rfl)
        (try simp only [Act.put, List.setIfInBounds_toArray, List.set_cons_zero, List.set_cons_succ])
        (refine wpAnyH_take (i := 2) (oi := { dst := some 88, op := Go.Op.move (Go.Operand.tmp 9), type := 3, pos := "law.go:61", after := #[], guard := none }) (v := ?_) rfl (by kernel_rfl) (by kernel_rfl) (by kernel_rfl) (fun _ _ _ h => h) (Or.inl ⟨by rfl, ?_⟩) HX0.out ?_); rotate_left
        · (intro w' hSw; obtain ⟨c0, c1, c2⟩ := HCE.out w' hSw; have rI := HRI.out; go_simp; try with_reducible rfl)
        (try simp only [Act.put, List.setIfInBounds_toArray, List.set_cons_zero, List.set_cons_succ])
        (refine wpAnyH_take (i := 3) (oi := { dst := some 89, op := Go.Op.indexAddr 73 (Go.Operand.tmp 87) (Go.Operand.tmp 88), type := 0, pos := "law.go:61", after := #[{ on := 1, ground := Go.Ground.data }, { on := 2, ground := Go.Ground.data }], guard := none }) (v := ?_) rfl (by kernel_rfl) (by kernel_rfl) (by kernel_rfl) (fun _ _ _ h => h) (Or.inl ⟨by rfl, ?_⟩) HX0.out ?_); rotate_left
        · (intro w' hSw; obtain ⟨c0, c1, c2⟩ := HCE.out w' hSw; have rI := HRI.out; go_simp; try with_reducible rfl)
        (try simp only [Act.put, List.setIfInBounds_toArray, List.set_cons_zero, List.set_cons_succ])
        (refine wpAnyH_take (i := 4) (oi := { dst := some 90, op := Go.Op.fieldAddr 84 (Go.Operand.tmp 89) 1, type := 0, pos := "law.go:61", after := #[{ on := 3, ground := Go.Ground.data }], guard := none }) (v := ?_) rfl (by kernel_rfl) (by kernel_rfl) (by kernel_rfl) (fun _ _ _ h => h) (Or.inl ⟨by rfl, ?_⟩) HX0.out ?_); rotate_left
        · (intro w' hSw; obtain ⟨c0, c1, c2⟩ := HCE.out w' hSw; have rI := HRI.out; go_simp; try with_reducible rfl)
        (try simp only [Act.put, List.setIfInBounds_toArray, List.set_cons_zero, List.set_cons_succ])
        (refine wpAnyH_take (i := 5) (oi := { dst := some 91, op := Go.Op.load 43 (Go.Operand.tmp 90), type := 43, pos := "law.go:61", after := #[{ on := 4, ground := Go.Ground.data }], guard := none }) (v := ?_) rfl (by kernel_rfl) (by kernel_rfl) (by kernel_rfl) (fun _ _ _ h => h) (Or.inl ⟨by rfl, ?_⟩) HX0.out ?_); rotate_left
        · (intro w' hSw; obtain ⟨c0, c1, c2⟩ := HCE.out w' hSw; have rI := HRI.out; go_simp; try with_reducible rfl)
        (try simp only [Act.put, List.setIfInBounds_toArray, List.set_cons_zero, List.set_cons_succ])
        (refine wpAnyH_take (i := 6) (oi := { dst := some 92, op := Go.Op.convert 43 3 (Go.Operand.tmp 91), type := 3, pos := "law.go:61", after := #[{ on := 5, ground := Go.Ground.data }], guard := none }) (v := ?_) rfl (by kernel_rfl) (by kernel_rfl) (by kernel_rfl) (fun _ _ _ h => h) (Or.inl ⟨by rfl, ?_⟩) HX0.out ?_); rotate_left
        · (intro w' hSw; obtain ⟨c0, c1, c2⟩ := HCE.out w' hSw; have rI := HRI.out; go_simp; try with_reducible rfl)
        (try simp only [Act.put, List.setIfInBounds_toArray, List.set_cons_zero, List.set_cons_succ])
        refine wpAnyH_ready (rs := [0]) (by kernel_rfl) (by simp) ?_
        refine AllReadyH.cons (o := { dst := some 86, op := Go.Op.load 82 (Go.Operand.tmp 7), type := 82, pos := "law.go:61", after := #[], guard := none }) (by kernel_rfl) (fun K hK => ?_) AllReadyH.nil
        refine want (by rfl) ?_
        refine wp_load_row 82 (.tmp 7) rfl (w.heap.size + 1 + 1) rfl 82 R1 (0, 0) _ KW.out Try.underlying82 rfl (by rw [HZR1.out]; exact sizeR) ?_
        refine hK.out _ _ HX0.out (fun _ => ?_)
        clear hK K
        (try simp only [Act.put, List.setIfInBounds_toArray, List.set_cons_zero, List.set_cons_succ])
        refine wpAnyH_ready (rs := [7]) (by kernel_rfl) (by simp) ?_
        refine AllReadyH.cons (o := { dst := some 93, op := Go.Op.call { callee := Go.Callee.value (Go.Operand.func 51), args := #[Go.Operand.tmp 86, Go.Operand.tmp 92], argTypes := #[82, 3] }, type := 82, pos := "law.go:61", after := #[{ on := 0, ground := Go.Ground.data }, { on := 6, ground := Go.Ground.data }], guard := none }) (by kernel_rfl) (fun K hK => ?_) AllReadyH.nil
        go_simp
        refine (HC2.out _).mono ?_
        rintro e x1 ⟨rfl, b9⟩
        have KA := Lib.hid (KA.out.ext b9); have KH := Lib.hid (KH.out.ext b9); have KW := Lib.hid (KW.out.ext b9); have KZ := Lib.hid (KZ.out.ext b9); have HE := Lib.hid (ext_trans HE.out b9)
        have HX1 := Lib.hid (show SE w x1 from HE.out)
        clear b9
        (try go_wp2_with fail)
        refine hK.out _ _ HX1.out (fun _ => ?_)
        clear hK K
        (try simp only [Act.put, List.setIfInBounds_toArray, List.set_cons_zero, List.set_cons_succ])
        refine wpAnyH_ready (rs := [8]) (by kernel_rfl) (by simp) ?_
        refine AllReadyH.cons (o := { dst := none, op := Go.Op.store 82 (Go.Operand.tmp 7) (Go.Operand.tmp 93), type := 0, pos := "law.go:61", after := #[{ on := 7, ground := Go.Ground.data }, { on := 7, ground := Go.Ground.chain }, { on := 0, ground := Go.Ground.phase }, { on := 1, ground := Go.Ground.phase }, { on := 2, ground := Go.Ground.phase }, { on := 3, ground := Go.Ground.phase }, { on := 4, ground := Go.Ground.phase }, { on := 5, ground := Go.Ground.phase }, { on := 6, ground := Go.Ground.phase }, { on := 7, ground := Go.Ground.phase }], guard := none }) (by kernel_rfl) (fun K hK => ?_) AllReadyH.nil
        refine want (by rfl) ?_
        refine wp_store_row 82 (.tmp 7) (.tmp 93) rfl (w.heap.size + 1 + 1) R2 rfl rfl 82 R1 KW.out (by rw [HZR2.out]; exact sizeR) (by rw [HZR1.out, HZR2.out]) HOR2.out ?_
        have HX2 := Lib.hid (show SE w (x1.setRow (w.heap.size + 1 + 1) R2) from ext_setRow HE.out (by omega) _)
        refine hK.out _ _ HX2.out (fun _ => ?_)
        clear hK K
        (try simp only [Act.put, List.setIfInBounds_toArray, List.set_cons_zero, List.set_cons_succ])
        refine wpAnyH_done (by kernel_rfl) ?_ _
        obtain ⟨wb, hwn⟩ : ∃ W9 : World, W9 = x1.setRow (w.heap.size + 1 + 1) R2 := ⟨_, rfl⟩
        have NA := Lib.hid (show Blk wb w.heap.size 78 A2 from by rw [hwn]; exact setRow_far KA.out (by omega))
        have NH := Lib.hid (show Blk wb (w.heap.size + 1) 78 Ah from by rw [hwn]; exact setRow_far KH.out (by omega))
        have NW := Lib.hid (show Blk wb (w.heap.size + 1 + 1) 82 R2 from by rw [hwn]; exact setRow_blk KW.out)
        have NZ := Lib.hid (show Blk wb (w.heap.size + 1 + 1 + 1) 82 Rh from by rw [hwn]; exact setRow_far KZ.out (by omega))
        have NE := Lib.hid (show Ext w wb from by rw [hwn]; exact ext_setRow HE.out (by omega) _)
        rw [← hwn]
        clear hwn KA KH KW KZ HE
        have KA := NA; have KH := NH; have KW := NW; have KZ := NZ; have HE := NE
        clear NA NH NW NZ NE
        clear HX0 HX1 HX2
        by_cases hm : k = hn
        · have y8 : ((k : Int) == (hn : Int)) = true := beq_iff_eq.2 (by omega)
          go_upto_region 23 with (first | (refine wpList_load_row rfl 78 (.tmp 5) rfl w.heap.size rfl 78 A2 (0, 0) _ KA.out Try.underlying78 rfl (by rw [HZA2.out]; exact sizeA) ?_) | (refine wpList_store_row rfl 78 (.tmp 6) (.tmp 126) rfl (w.heap.size + 1) A2 rfl rfl 78 Ah KH.out (by rw [HZA2.out]; exact sizeA) (by rw [HZAh.out, HZA2.out]) HOA2.out ?_))
          try simp only [Act.put, List.setIfInBounds_toArray, List.set_cons_zero, List.set_cons_succ]
          obtain ⟨wm, hwn⟩ : ∃ W9 : World, W9 = wb.setRow (w.heap.size + 1) A2 := ⟨_, rfl⟩
          have NA := Lib.hid (show Blk wm w.heap.size 78 A2 from by rw [hwn]; exact setRow_far KA.out (by omega))
          have NH := Lib.hid (show Blk wm (w.heap.size + 1) 78 A2 from by rw [hwn]; exact setRow_blk KH.out)
          have NW := Lib.hid (show Blk wm (w.heap.size + 1 + 1) 82 R2 from by rw [hwn]; exact setRow_far KW.out (by omega))
          have NZ := Lib.hid (show Blk wm (w.heap.size + 1 + 1 + 1) 82 Rh from by rw [hwn]; exact setRow_far KZ.out (by omega))
          have NE := Lib.hid (show Ext w wm from by rw [hwn]; exact ext_setRow HE.out (by omega) _)
          rw [← hwn]
          clear hwn KA KH KW KZ HE
          have KA := NA; have KH := NH; have KW := NW; have KZ := NZ; have HE := NE
          clear NA NH NW NZ NE
          go_wp2_with (first | (refine wpList_load_row rfl 82 (.tmp 7) rfl (w.heap.size + 1 + 1) rfl 82 R2 (0, 0) _ KW.out Try.underlying82 rfl (by rw [HZR2.out]; exact sizeR) ?_) | (refine wpList_store_row rfl 82 (.tmp 8) (.tmp 127) rfl (w.heap.size + 1 + 1 + 1) R2 rfl rfl 82 Rh KZ.out (by rw [HZR2.out]; exact sizeR) (by rw [HZRh.out, HZR2.out]) HOR2.out ?_))
          have MZ := Lib.hid (setRow_blk (cs := R2) KZ.out)
          have MA := Lib.hid (setRow_far (h := (w.heap.size + 1 + 1 + 1)) (ds := R2) KA.out (by omega))
          have MH := Lib.hid (setRow_far (h := (w.heap.size + 1 + 1 + 1)) (ds := R2) KH.out (by omega))
          have MW := Lib.hid (setRow_far (h := (w.heap.size + 1 + 1 + 1)) (ds := R2) KW.out (by omega))
          have ME := Lib.hid (ext_setRow HE.out (show w.heap.size ≤ (w.heap.size + 1 + 1 + 1) by omega) R2)
          go_roundw
          case rel => exact ⟨k + 1, A2, R2, A2, R2, by omega, by go_num, HT2.out, HT2.out, MA.out, MH.out, MW.out, MZ.out, ME.out⟩
          case measure => simp [intOf]; omega
        · have y8 : ((k : Int) == (hn : Int)) = false := beq_eq_false_iff_ne.2 (by omega)
          go_wp2_with fail
          go_roundw
          case rel => exact ⟨k + 1, A2, R2, Ah, Rh, by omega, by go_num, HT2.out, HT.out, KA.out, KH.out, KW.out, KZ.out, HE.out⟩
          case measure => simp [intOf]; omega
      · have z0 : ((d : Int) == 0) = false := beq_eq_false_iff_ne.2 (by omega)
        by_cases hd1 : d = 1
        · subst hd1
          obtain ⟨A2, R2, hT2, hC1, hC2⟩ := HTT.out.set id v hid
          have HT2 := Lib.hid hT2; have HC1 := Lib.hid hC1; have HC2 := Lib.hid hC2
          clear hT2 hC1 hC2 z0 hd0
          obtain ⟨s1, s2, s3, s4⟩ := HT2.out.sizes
          have HZA2 := Lib.hid s1; have HZR2 := Lib.hid s2; have HOA2 := Lib.hid s3; have HOR2 := Lib.hid s4
          clear s1 s2 s3 s4
          go_wp2_with fail
          clear c0 c1 c2
          have KA := Lib.hid KA.out.drew; have KH := Lib.hid KH.out.drew; have KW := Lib.hid KW.out.drew; have KZ := Lib.hid KZ.out.drew; have HE := Lib.hid (ext_drew HE.out)
          have HX0 := Lib.hid (show SE w wi.drew from HE.out)
          refine wp_region_held_drew (S := SE w) hmx HX0.out (fun _ => ?_)
          (refine wpAnyH_take (i := 1) (oi := { dst := some 97, op := Go.Op.move (Go.Operand.tmp 0), type := 73, pos := "law.go:63", after := #[], guard := none }) (v := ?_) rfl (by kernel_rfl) (by kernel_rfl) (by kernel_rfl) (fun _ _ _ h => h) (Or.inl ⟨by rfl, ?_⟩) HX0.out ?_); rotate_left
          · (intro w' hSw; obtain ⟨c0, c1, c2⟩ := HCE.out w' hSw; have rI := HRI.out; go_simp; try with_reducible rfl)
          (try simp only [Act.put, List.setIfInBounds_toArray, List.set_cons_zero, List.set_cons_succ])
          (refine wpAnyH_take (i := 2) (oi := { dst := some 98, op := Go.Op.move (Go.Operand.tmp 9), type := 3, pos := "law.go:63", after := #[], guard := none }) (v := ?_) rfl (by kernel_rfl) (by kernel_rfl) (by kernel_rfl) (fun _ _ _ h => h) (Or.inl ⟨by rfl, ?_⟩) HX0.out ?_); rotate_left
          · (intro w' hSw; obtain ⟨c0, c1, c2⟩ := HCE.out w' hSw; have rI := HRI.out; go_simp; try with_reducible rfl)
          (try simp only [Act.put, List.setIfInBounds_toArray, List.set_cons_zero, List.set_cons_succ])
          (refine wpAnyH_take (i := 3) (oi := { dst := some 99, op := Go.Op.indexAddr 73 (Go.Operand.tmp 97) (Go.Operand.tmp 98), type := 0, pos := "law.go:63", after := #[{ on := 1, ground := Go.Ground.data }, { on := 2, ground := Go.Ground.data }], guard := none }) (v := ?_) rfl (by kernel_rfl) (by kernel_rfl) (by kernel_rfl) (fun _ _ _ h => h) (Or.inl ⟨by rfl, ?_⟩) HX0.out ?_); rotate_left
          · (intro w' hSw; obtain ⟨c0, c1, c2⟩ := HCE.out w' hSw; have rI := HRI.out; go_simp; try with_reducible rfl)
          (try simp only [Act.put, List.setIfInBounds_toArray, List.set_cons_zero, List.set_cons_succ])
          (refine wpAnyH_take (i := 4) (oi := { dst := some 100, op := Go.Op.fieldAddr 84 (Go.Operand.tmp 99) 1, type := 0, pos := "law.go:63", after := #[{ on := 3, ground := Go.Ground.data }], guard := none }) (v := ?_) rfl (by kernel_rfl) (by kernel_rfl) (by kernel_rfl) (fun _ _ _ h => h) (Or.inl ⟨by rfl, ?_⟩) HX0.out ?_); rotate_left
          · (intro w' hSw; obtain ⟨c0, c1, c2⟩ := HCE.out w' hSw; have rI := HRI.out; go_simp; try with_reducible rfl)
          (try simp only [Act.put, List.setIfInBounds_toArray, List.set_cons_zero, List.set_cons_succ])
          (refine wpAnyH_take (i := 5) (oi := { dst := some 101, op := Go.Op.load 43 (Go.Operand.tmp 100), type := 43, pos := "law.go:63", after := #[{ on := 4, ground := Go.Ground.data }], guard := none }) (v := ?_) rfl (by kernel_rfl) (by kernel_rfl) (by kernel_rfl) (fun _ _ _ h => h) (Or.inl ⟨by rfl, ?_⟩) HX0.out ?_); rotate_left
          · (intro w' hSw; obtain ⟨c0, c1, c2⟩ := HCE.out w' hSw; have rI := HRI.out; go_simp; try with_reducible rfl)
          (try simp only [Act.put, List.setIfInBounds_toArray, List.set_cons_zero, List.set_cons_succ])
          (refine wpAnyH_take (i := 6) (oi := { dst := some 102, op := Go.Op.move (Go.Operand.tmp 0), type := 73, pos := "law.go:63", after := #[], guard := none }) (v := ?_) rfl (by kernel_rfl) (by kernel_rfl) (by kernel_rfl) (fun _ _ _ h => h) (Or.inl ⟨by rfl, ?_⟩) HX0.out ?_); rotate_left
          · (intro w' hSw; obtain ⟨c0, c1, c2⟩ := HCE.out w' hSw; have rI := HRI.out; go_simp; try with_reducible rfl)
          (try simp only [Act.put, List.setIfInBounds_toArray, List.set_cons_zero, List.set_cons_succ])
          (refine wpAnyH_take (i := 7) (oi := { dst := some 103, op := Go.Op.move (Go.Operand.tmp 9), type := 3, pos := "law.go:63", after := #[], guard := none }) (v := ?_) rfl (by kernel_rfl) (by kernel_rfl) (by kernel_rfl) (fun _ _ _ h => h) (Or.inl ⟨by rfl, ?_⟩) HX0.out ?_); rotate_left
          · (intro w' hSw; obtain ⟨c0, c1, c2⟩ := HCE.out w' hSw; have rI := HRI.out; go_simp; try with_reducible rfl)
          (try simp only [Act.put, List.setIfInBounds_toArray, List.set_cons_zero, List.set_cons_succ])
          (refine wpAnyH_take (i := 8) (oi := { dst := some 104, op := Go.Op.indexAddr 73 (Go.Operand.tmp 102) (Go.Operand.tmp 103), type := 0, pos := "law.go:63", after := #[{ on := 6, ground := Go.Ground.data }, { on := 7, ground := Go.Ground.data }], guard := none }) (v := ?_) rfl (by kernel_rfl) (by kernel_rfl) (by kernel_rfl) (fun _ _ _ h => h) (Or.inl ⟨by rfl, ?_⟩) HX0.out ?_); rotate_left
          · (intro w' hSw; obtain ⟨c0, c1, c2⟩ := HCE.out w' hSw; have rI := HRI.out; go_simp; try with_reducible rfl)
          (try simp only [Act.put, List.setIfInBounds_toArray, List.set_cons_zero, List.set_cons_succ])
          (refine wpAnyH_take (i := 9) (oi := { dst := some 105, op := Go.Op.fieldAddr 84 (Go.Operand.tmp 104) 2, type := 0, pos := "law.go:63", after := #[{ on := 8, ground := Go.Ground.data }], guard := none }) (v := ?_) rfl (by kernel_rfl) (by kernel_rfl) (by kernel_rfl) (fun _ _ _ h => h) (Or.inl ⟨by rfl, ?_⟩) HX0.out ?_); rotate_left
          · (intro w' hSw; obtain ⟨c0, c1, c2⟩ := HCE.out w' hSw; have rI := HRI.out; go_simp; try with_reducible rfl)
          (try simp only [Act.put, List.setIfInBounds_toArray, List.set_cons_zero, List.set_cons_succ])
          (refine wpAnyH_take (i := 10) (oi := { dst := some 106, op := Go.Op.load 3 (Go.Operand.tmp 105), type := 3, pos := "law.go:63", after := #[{ on := 9, ground := Go.Ground.data }], guard := none }) (v := ?_) rfl (by kernel_rfl) (by kernel_rfl) (by kernel_rfl) (fun _ _ _ h => h) (Or.inl ⟨by rfl, ?_⟩) HX0.out ?_); rotate_left
          · (intro w' hSw; obtain ⟨c0, c1, c2⟩ := HCE.out w' hSw; have rI := HRI.out; go_simp; try with_reducible rfl)
          (try simp only [Act.put, List.setIfInBounds_toArray, List.set_cons_zero, List.set_cons_succ])
          refine wpAnyH_ready (rs := [0]) (by kernel_rfl) (by simp) ?_
          refine AllReadyH.cons (o := { dst := some 96, op := Go.Op.load 78 (Go.Operand.tmp 5), type := 78, pos := "law.go:63", after := #[], guard := none }) (by kernel_rfl) (fun K hK => ?_) AllReadyH.nil
          refine want (by rfl) ?_
          refine wp_load_row 78 (.tmp 5) rfl w.heap.size rfl 78 A1 (0, 0) _ KA.out Try.underlying78 rfl (by rw [HZA1.out]; exact sizeA) ?_
          refine hK.out _ _ HX0.out (fun _ => ?_)
          clear hK K
          (try simp only [Act.put, List.setIfInBounds_toArray, List.set_cons_zero, List.set_cons_succ])
          refine wpAnyH_ready (rs := [11]) (by kernel_rfl) (by simp) ?_
          refine AllReadyH.cons (o := { dst := some 107, op := Go.Op.call { callee := Go.Callee.value (Go.Operand.func 52), args := #[Go.Operand.tmp 96, Go.Operand.tmp 101, Go.Operand.tmp 106], argTypes := #[78, 43, 3] }, type := 78, pos := "law.go:63", after := #[{ on := 0, ground := Go.Ground.data }, { on := 5, ground := Go.Ground.data }, { on := 10, ground := Go.Ground.data }], guard := none }) (by kernel_rfl) (fun K hK => ?_) AllReadyH.nil
          go_simp
          refine (HC1.out _).mono ?_
          rintro e x1 ⟨rfl, b9⟩
          have KA := Lib.hid (KA.out.ext b9); have KH := Lib.hid (KH.out.ext b9); have KW := Lib.hid (KW.out.ext b9); have KZ := Lib.hid (KZ.out.ext b9); have HE := Lib.hid (ext_trans HE.out b9)
          have HX1 := Lib.hid (show SE w x1 from HE.out)
          clear b9
          (try go_wp2_with fail)
          refine hK.out _ _ HX1.out (fun _ => ?_)
          clear hK K
          (try simp only [Act.put, List.setIfInBounds_toArray, List.set_cons_zero, List.set_cons_succ])
          refine wpAnyH_ready (rs := [12]) (by kernel_rfl) (by simp) ?_
          refine AllReadyH.cons (o := { dst := none, op := Go.Op.store 78 (Go.Operand.tmp 5) (Go.Operand.tmp 107), type := 0, pos := "law.go:63", after := #[{ on := 11, ground := Go.Ground.data }, { on := 11, ground := Go.Ground.chain }, { on := 0, ground := Go.Ground.phase }, { on := 1, ground := Go.Ground.phase }, { on := 2, ground := Go.Ground.phase }, { on := 3, ground := Go.Ground.phase }, { on := 4, ground := Go.Ground.phase }, { on := 5, ground := Go.Ground.phase }, { on := 6, ground := Go.Ground.phase }, { on := 7, ground := Go.Ground.phase }, { on := 8, ground := Go.Ground.phase }, { on := 9, ground := Go.Ground.phase }, { on := 10, ground := Go.Ground.phase }, { on := 11, ground := Go.Ground.phase }], guard := none }) (by kernel_rfl) (fun K hK => ?_) AllReadyH.nil
          refine want (by rfl) ?_
          refine wp_store_row 78 (.tmp 5) (.tmp 107) rfl w.heap.size A2 rfl rfl 78 A1 KA.out (by rw [HZA2.out]; exact sizeA) (by rw [HZA1.out, HZA2.out]) HOA2.out ?_
          have HX2 := Lib.hid (show SE w (x1.setRow w.heap.size A2) from ext_setRow HE.out (by omega) _)
          refine hK.out _ _ HX2.out (fun _ => ?_)
          clear hK K
          (try simp only [Act.put, List.setIfInBounds_toArray, List.set_cons_zero, List.set_cons_succ])
          refine wpAnyH_done (by kernel_rfl) ?_ _
          obtain ⟨wa, hwn⟩ : ∃ W9 : World, W9 = x1.setRow w.heap.size A2 := ⟨_, rfl⟩
          have NA := Lib.hid (show Blk wa w.heap.size 78 A2 from by rw [hwn]; exact setRow_blk KA.out)
          have NH := Lib.hid (show Blk wa (w.heap.size + 1) 78 Ah from by rw [hwn]; exact setRow_far KH.out (by omega))
          have NW := Lib.hid (show Blk wa (w.heap.size + 1 + 1) 82 R1 from by rw [hwn]; exact setRow_far KW.out (by omega))
          have NZ := Lib.hid (show Blk wa (w.heap.size + 1 + 1 + 1) 82 Rh from by rw [hwn]; exact setRow_far KZ.out (by omega))
          have NE := Lib.hid (show Ext w wa from by rw [hwn]; exact ext_setRow HE.out (by omega) _)
          rw [← hwn]
          clear hwn KA KH KW KZ HE
          have KA := NA; have KH := NH; have KW := NW; have KZ := NZ; have HE := NE
          clear NA NH NW NZ NE
          clear HX0 HX1 HX2
          go_wp2_with fail
          have KA := Lib.hid KA.out.drew; have KH := Lib.hid KH.out.drew; have KW := Lib.hid KW.out.drew; have KZ := Lib.hid KZ.out.drew; have HE := Lib.hid (ext_drew HE.out)
          have HX0 := Lib.hid (show SE w wa.drew from HE.out)
          refine wp_region_held_drew (S := SE w) hmx HX0.out (fun _ => ?_)
          (refine wpAnyH_take (i := 1) (oi := { dst := some 109, op := Go.Op.move (Go.Operand.tmp 0), type := 73, pos := "law.go:64", after := #[], guard := none }) (v := ?_) rfl (by kernel_rfl) (by kernel_rfl) (by kernel_rfl) (fun _ _ _ h => h) (Or.inl ⟨by rfl, ?_⟩) HX0.out ?_); rotate_left
          · (intro w' hSw; obtain ⟨c0, c1, c2⟩ := HCE.out w' hSw; have rI := HRI.out; go_simp; try with_reducible rfl)
          (try simp only [Act.put, List.setIfInBounds_toArray, List.set_cons_zero, List.set_cons_succ])
          (refine wpAnyH_take (i := 2) (oi := { dst := some 110, op := Go.Op.move (Go.Operand.tmp 9), type := 3, pos := "law.go:64", after := #[], guard := none }) (v := ?_) rfl (by kernel_rfl) (by kernel_rfl) (by kernel_rfl) (fun _ _ _ h => h) (Or.inl ⟨by rfl, ?_⟩) HX0.out ?_); rotate_left
          · (intro w' hSw; obtain ⟨c0, c1, c2⟩ := HCE.out w' hSw; have rI := HRI.out; go_simp; try with_reducible rfl)
          (try simp only [Act.put, List.setIfInBounds_toArray, List.set_cons_zero, List.set_cons_succ])
          (refine wpAnyH_take (i := 3) (oi := { dst := some 111, op := Go.Op.indexAddr 73 (Go.Operand.tmp 109) (Go.Operand.tmp 110), type := 0, pos := "law.go:64", after := #[{ on := 1, ground := Go.Ground.data }, { on := 2, ground := Go.Ground.data }], guard := none }) (v := ?_) rfl (by kernel_rfl) (by kernel_rfl) (by kernel_rfl) (fun _ _ _ h => h) (Or.inl ⟨by rfl, ?_⟩) HX0.out ?_); rotate_left
          · (intro w' hSw; obtain ⟨c0, c1, c2⟩ := HCE.out w' hSw; have rI := HRI.out; go_simp; try with_reducible rfl)
          (try simp only [Act.put, List.setIfInBounds_toArray, List.set_cons_zero, List.set_cons_succ])
          (refine wpAnyH_take (i := 4) (oi := { dst := some 112, op := Go.Op.fieldAddr 84 (Go.Operand.tmp 111) 1, type := 0, pos := "law.go:64", after := #[{ on := 3, ground := Go.Ground.data }], guard := none }) (v := ?_) rfl (by kernel_rfl) (by kernel_rfl) (by kernel_rfl) (fun _ _ _ h => h) (Or.inl ⟨by rfl, ?_⟩) HX0.out ?_); rotate_left
          · (intro w' hSw; obtain ⟨c0, c1, c2⟩ := HCE.out w' hSw; have rI := HRI.out; go_simp; try with_reducible rfl)
          (try simp only [Act.put, List.setIfInBounds_toArray, List.set_cons_zero, List.set_cons_succ])
          (refine wpAnyH_take (i := 5) (oi := { dst := some 113, op := Go.Op.load 43 (Go.Operand.tmp 112), type := 43, pos := "law.go:64", after := #[{ on := 4, ground := Go.Ground.data }], guard := none }) (v := ?_) rfl (by kernel_rfl) (by kernel_rfl) (by kernel_rfl) (fun _ _ _ h => h) (Or.inl ⟨by rfl, ?_⟩) HX0.out ?_); rotate_left
          · (intro w' hSw; obtain ⟨c0, c1, c2⟩ := HCE.out w' hSw; have rI := HRI.out; go_simp; try with_reducible rfl)
          (try simp only [Act.put, List.setIfInBounds_toArray, List.set_cons_zero, List.set_cons_succ])
          (refine wpAnyH_take (i := 6) (oi := { dst := some 114, op := Go.Op.convert 43 3 (Go.Operand.tmp 113), type := 3, pos := "law.go:64", after := #[{ on := 5, ground := Go.Ground.data }], guard := none }) (v := ?_) rfl (by kernel_rfl) (by kernel_rfl) (by kernel_rfl) (fun _ _ _ h => h) (Or.inl ⟨by rfl, ?_⟩) HX0.out ?_); rotate_left
          · (intro w' hSw; obtain ⟨c0, c1, c2⟩ := HCE.out w' hSw; have rI := HRI.out; go_simp; try with_reducible rfl)
          (try simp only [Act.put, List.setIfInBounds_toArray, List.set_cons_zero, List.set_cons_succ])
          (refine wpAnyH_take (i := 7) (oi := { dst := some 115, op := Go.Op.move (Go.Operand.tmp 0), type := 73, pos := "law.go:64", after := #[], guard := none }) (v := ?_) rfl (by kernel_rfl) (by kernel_rfl) (by kernel_rfl) (fun _ _ _ h => h) (Or.inl ⟨by rfl, ?_⟩) HX0.out ?_); rotate_left
          · (intro w' hSw; obtain ⟨c0, c1, c2⟩ := HCE.out w' hSw; have rI := HRI.out; go_simp; try with_reducible rfl)
          (try simp only [Act.put, List.setIfInBounds_toArray, List.set_cons_zero, List.set_cons_succ])
          (refine wpAnyH_take (i := 8) (oi := { dst := some 116, op := Go.Op.move (Go.Operand.tmp 9), type := 3, pos := "law.go:64", after := #[], guard := none }) (v := ?_) rfl (by kernel_rfl) (by kernel_rfl) (by kernel_rfl) (fun _ _ _ h => h) (Or.inl ⟨by rfl, ?_⟩) HX0.out ?_); rotate_left
          · (intro w' hSw; obtain ⟨c0, c1, c2⟩ := HCE.out w' hSw; have rI := HRI.out; go_simp; try with_reducible rfl)
          (try simp only [Act.put, List.setIfInBounds_toArray, List.set_cons_zero, List.set_cons_succ])
          (refine wpAnyH_take (i := 9) (oi := { dst := some 117, op := Go.Op.indexAddr 73 (Go.Operand.tmp 115) (Go.Operand.tmp 116), type := 0, pos := "law.go:64", after := #[{ on := 7, ground := Go.Ground.data }, { on := 8, ground := Go.Ground.data }], guard := none }) (v := ?_) rfl (by kernel_rfl) (by kernel_rfl) (by kernel_rfl) (fun _ _ _ h => h) (Or.inl ⟨by rfl, ?_⟩) HX0.out ?_); rotate_left
          · (intro w' hSw; obtain ⟨c0, c1, c2⟩ := HCE.out w' hSw; have rI := HRI.out; go_simp; try with_reducible rfl)
          (try simp only [Act.put, List.setIfInBounds_toArray, List.set_cons_zero, List.set_cons_succ])
          (refine wpAnyH_take (i := 10) (oi := { dst := some 118, op := Go.Op.fieldAddr 84 (Go.Operand.tmp 117) 2, type := 0, pos := "law.go:64", after := #[{ on := 9, ground := Go.Ground.data }], guard := none }) (v := ?_) rfl (by kernel_rfl) (by kernel_rfl) (by kernel_rfl) (fun _ _ _ h => h) (Or.inl ⟨by rfl, ?_⟩) HX0.out ?_); rotate_left
          · (intro w' hSw; obtain ⟨c0, c1, c2⟩ := HCE.out w' hSw; have rI := HRI.out; go_simp; try with_reducible rfl)
          (try simp only [Act.put, List.setIfInBounds_toArray, List.set_cons_zero, List.set_cons_succ])
          (refine wpAnyH_take (i := 11) (oi := { dst := some 119, op := Go.Op.load 3 (Go.Operand.tmp 118), type := 3, pos := "law.go:64", after := #[{ on := 10, ground := Go.Ground.data }], guard := none }) (v := ?_) rfl (by kernel_rfl) (by kernel_rfl) (by kernel_rfl) (fun _ _ _ h => h) (Or.inl ⟨by rfl, ?_⟩) HX0.out ?_); rotate_left
          · (intro w' hSw; obtain ⟨c0, c1, c2⟩ := HCE.out w' hSw; have rI := HRI.out; go_simp; try with_reducible rfl)
          (try simp only [Act.put, List.setIfInBounds_toArray, List.set_cons_zero, List.set_cons_succ])
          refine wpAnyH_ready (rs := [0]) (by kernel_rfl) (by simp) ?_
          refine AllReadyH.cons (o := { dst := some 108, op := Go.Op.load 82 (Go.Operand.tmp 7), type := 82, pos := "law.go:64", after := #[], guard := none }) (by kernel_rfl) (fun K hK => ?_) AllReadyH.nil
          refine want (by rfl) ?_
          refine wp_load_row 82 (.tmp 7) rfl (w.heap.size + 1 + 1) rfl 82 R1 (0, 0) _ KW.out Try.underlying82 rfl (by rw [HZR1.out]; exact sizeR) ?_
          refine hK.out _ _ HX0.out (fun _ => ?_)
          clear hK K
          (try simp only [Act.put, List.setIfInBounds_toArray, List.set_cons_zero, List.set_cons_succ])
          refine wpAnyH_ready (rs := [12]) (by kernel_rfl) (by simp) ?_
          refine AllReadyH.cons (o := { dst := some 120, op := Go.Op.call { callee := Go.Callee.value (Go.Operand.func 53), args := #[Go.Operand.tmp 108, Go.Operand.tmp 114, Go.Operand.tmp 119], argTypes := #[82, 3, 3] }, type := 82, pos := "law.go:64", after := #[{ on := 0, ground := Go.Ground.data }, { on := 6, ground := Go.Ground.data }, { on := 11, ground := Go.Ground.data }], guard := none }) (by kernel_rfl) (fun K hK => ?_) AllReadyH.nil
          go_simp
          refine (HC2.out _).mono ?_
          rintro e x1 ⟨rfl, b9⟩
          have KA := Lib.hid (KA.out.ext b9); have KH := Lib.hid (KH.out.ext b9); have KW := Lib.hid (KW.out.ext b9); have KZ := Lib.hid (KZ.out.ext b9); have HE := Lib.hid (ext_trans HE.out b9)
          have HX1 := Lib.hid (show SE w x1 from HE.out)
          clear b9
          (try go_wp2_with fail)
          refine hK.out _ _ HX1.out (fun _ => ?_)
          clear hK K
          (try simp only [Act.put, List.setIfInBounds_toArray, List.set_cons_zero, List.set_cons_succ])
          refine wpAnyH_ready (rs := [13]) (by kernel_rfl) (by simp) ?_
          refine AllReadyH.cons (o := { dst := none, op := Go.Op.store 82 (Go.Operand.tmp 7) (Go.Operand.tmp 120), type := 0, pos := "law.go:64", after := #[{ on := 12, ground := Go.Ground.data }, { on := 12, ground := Go.Ground.chain }, { on := 0, ground := Go.Ground.phase }, { on := 1, ground := Go.Ground.phase }, { on := 2, ground := Go.Ground.phase }, { on := 3, ground := Go.Ground.phase }, { on := 4, ground := Go.Ground.phase }, { on := 5, ground := Go.Ground.phase }, { on := 6, ground := Go.Ground.phase }, { on := 7, ground := Go.Ground.phase }, { on := 8, ground := Go.Ground.phase }, { on := 9, ground := Go.Ground.phase }, { on := 10, ground := Go.Ground.phase }, { on := 11, ground := Go.Ground.phase }, { on := 12, ground := Go.Ground.phase }], guard := none }) (by kernel_rfl) (fun K hK => ?_) AllReadyH.nil
          refine want (by rfl) ?_
          refine wp_store_row 82 (.tmp 7) (.tmp 120) rfl (w.heap.size + 1 + 1) R2 rfl rfl 82 R1 KW.out (by rw [HZR2.out]; exact sizeR) (by rw [HZR1.out, HZR2.out]) HOR2.out ?_
          have HX2 := Lib.hid (show SE w (x1.setRow (w.heap.size + 1 + 1) R2) from ext_setRow HE.out (by omega) _)
          refine hK.out _ _ HX2.out (fun _ => ?_)
          clear hK K
          (try simp only [Act.put, List.setIfInBounds_toArray, List.set_cons_zero, List.set_cons_succ])
          refine wpAnyH_done (by kernel_rfl) ?_ _
          obtain ⟨wb, hwn⟩ : ∃ W9 : World, W9 = x1.setRow (w.heap.size + 1 + 1) R2 := ⟨_, rfl⟩
          have NA := Lib.hid (show Blk wb w.heap.size 78 A2 from by rw [hwn]; exact setRow_far KA.out (by omega))
          have NH := Lib.hid (show Blk wb (w.heap.size + 1) 78 Ah from by rw [hwn]; exact setRow_far KH.out (by omega))
          have NW := Lib.hid (show Blk wb (w.heap.size + 1 + 1) 82 R2 from by rw [hwn]; exact setRow_blk KW.out)
          have NZ := Lib.hid (show Blk wb (w.heap.size + 1 + 1 + 1) 82 Rh from by rw [hwn]; exact setRow_far KZ.out (by omega))
          have NE := Lib.hid (show Ext w wb from by rw [hwn]; exact ext_setRow HE.out (by omega) _)
          rw [← hwn]
          clear hwn KA KH KW KZ HE
          have KA := NA; have KH := NH; have KW := NW; have KZ := NZ; have HE := NE
          clear NA NH NW NZ NE
          clear HX0 HX1 HX2
          by_cases hm : k = hn
          · have y8 : ((k : Int) == (hn : Int)) = true := beq_iff_eq.2 (by omega)
            go_upto_region 23 with (first | (refine wpList_load_row rfl 78 (.tmp 5) rfl w.heap.size rfl 78 A2 (0, 0) _ KA.out Try.underlying78 rfl (by rw [HZA2.out]; exact sizeA) ?_) | (refine wpList_store_row rfl 78 (.tmp 6) (.tmp 126) rfl (w.heap.size + 1) A2 rfl rfl 78 Ah KH.out (by rw [HZA2.out]; exact sizeA) (by rw [HZAh.out, HZA2.out]) HOA2.out ?_))
            try simp only [Act.put, List.setIfInBounds_toArray, List.set_cons_zero, List.set_cons_succ]
            obtain ⟨wm, hwn⟩ : ∃ W9 : World, W9 = wb.setRow (w.heap.size + 1) A2 := ⟨_, rfl⟩
            have NA := Lib.hid (show Blk wm w.heap.size 78 A2 from by rw [hwn]; exact setRow_far KA.out (by omega))
            have NH := Lib.hid (show Blk wm (w.heap.size + 1) 78 A2 from by rw [hwn]; exact setRow_blk KH.out)
            have NW := Lib.hid (show Blk wm (w.heap.size + 1 + 1) 82 R2 from by rw [hwn]; exact setRow_far KW.out (by omega))
            have NZ := Lib.hid (show Blk wm (w.heap.size + 1 + 1 + 1) 82 Rh from by rw [hwn]; exact setRow_far KZ.out (by omega))
            have NE := Lib.hid (show Ext w wm from by rw [hwn]; exact ext_setRow HE.out (by omega) _)
            rw [← hwn]
            clear hwn KA KH KW KZ HE
            have KA := NA; have KH := NH; have KW := NW; have KZ := NZ; have HE := NE
            clear NA NH NW NZ NE
            go_wp2_with (first | (refine wpList_load_row rfl 82 (.tmp 7) rfl (w.heap.size + 1 + 1) rfl 82 R2 (0, 0) _ KW.out Try.underlying82 rfl (by rw [HZR2.out]; exact sizeR) ?_) | (refine wpList_store_row rfl 82 (.tmp 8) (.tmp 127) rfl (w.heap.size + 1 + 1 + 1) R2 rfl rfl 82 Rh KZ.out (by rw [HZR2.out]; exact sizeR) (by rw [HZRh.out, HZR2.out]) HOR2.out ?_))
            have MZ := Lib.hid (setRow_blk (cs := R2) KZ.out)
            have MA := Lib.hid (setRow_far (h := (w.heap.size + 1 + 1 + 1)) (ds := R2) KA.out (by omega))
            have MH := Lib.hid (setRow_far (h := (w.heap.size + 1 + 1 + 1)) (ds := R2) KH.out (by omega))
            have MW := Lib.hid (setRow_far (h := (w.heap.size + 1 + 1 + 1)) (ds := R2) KW.out (by omega))
            have ME := Lib.hid (ext_setRow HE.out (show w.heap.size ≤ (w.heap.size + 1 + 1 + 1) by omega) R2)
            go_roundw
            case rel => exact ⟨k + 1, A2, R2, A2, R2, by omega, by go_num, HT2.out, HT2.out, MA.out, MH.out, MW.out, MZ.out, ME.out⟩
            case measure => simp [intOf]; omega
          · have y8 : ((k : Int) == (hn : Int)) = false := beq_eq_false_iff_ne.2 (by omega)
            go_wp2_with fail
            go_roundw
            case rel => exact ⟨k + 1, A2, R2, Ah, Rh, by omega, by go_num, HT2.out, HT.out, KA.out, KH.out, KW.out, KZ.out, HE.out⟩
            case measure => simp [intOf]; omega
        · have z1 : ((d : Int) == 1) = false := beq_eq_false_iff_ne.2 (by omega)
          obtain ⟨A2, R2, hT2, hC⟩ := HTT.out.add v
          have HT2 := Lib.hid hT2
          clear hT2
          obtain ⟨s1, s2, s3, s4⟩ := HT2.out.sizes
          have HZA2 := Lib.hid s1; have HZR2 := Lib.hid s2; have HOA2 := Lib.hid s3; have HOR2 := Lib.hid s4
          clear s1 s2 s3 s4
          go_wp2_with fail
          clear c0 c1 c2
          rcases hC with ⟨m, hm16, hC1, hC2⟩ | ⟨hC1, hC2⟩
          ·
            have HC1 := Lib.hid hC1; have HC2 := Lib.hid hC2
            clear hC1 hC2
            go_cut [10, 11, 12] from 22 to 127 (fun s10 s11 s12 wx => ∃ bx, s10 = .pointer (some ⟨bx, 0, none⟩) ∧ s11 = .int .u16 (m : Int) ∧ s12 = .bool true ∧ w.heap.size + 1 + 1 + 1 < bx ∧ Blk wx bx 78 A2 ∧ Blk wx w.heap.size 78 A1 ∧ Blk wx (w.heap.size + 1) 78 Ah ∧ Blk wx (w.heap.size + 1 + 1) 82 R1 ∧ Blk wx (w.heap.size + 1 + 1 + 1) 82 Rh ∧ Ext w wx)
            case first =>
              have HCC : Hid (∀ w', SE wi w' → Ext w w') := Lib.hid (fun w' h => ext_trans HE.out h)
              have KX0 := Lib.hid KA.out
              have KA := Lib.hid KA.out.drew; have KH := Lib.hid KH.out.drew; have KW := Lib.hid KW.out.drew; have KZ := Lib.hid KZ.out.drew; have HE := Lib.hid (ext_drew HE.out)
              have hsz3 := KZ.out.lt
              have HX0 := Lib.hid (show SE wi wi.drew from ext_drew (Ext.rfl' wi))
              refine wp_region_held_drew (S := SE wi) hmx HX0.out (fun _ => ?_)
              refine wpAnyH_take (i := 0) (oi := { dst := some 34, op := Go.Op.load 78 (Go.Operand.tmp 5), type := 78, pos := "law.go:66", after := #[], guard := none }) rfl (by kernel_rfl) (by kernel_rfl) (by kernel_rfl) (fun _ _ _ h => h) (yields_row (by rfl) 78 (.tmp 5) rfl w.heap.size rfl 78 A1 _ (fun _ h => KX0.out.ext h) Try.underlying78 rfl (by rw [HZA1.out]; exact sizeA)) HX0.out ?_
              (try simp only [Act.put, List.setIfInBounds_toArray, List.set_cons_zero, List.set_cons_succ])
              (refine wpAnyH_take (i := 1) (oi := { dst := some 35, op := Go.Op.move (Go.Operand.tmp 0), type := 73, pos := "law.go:66", after := #[], guard := none }) (v := ?_) rfl (by kernel_rfl) (by kernel_rfl) (by kernel_rfl) (fun _ _ _ h => h) (Or.inl ⟨by rfl, ?_⟩) HX0.out ?_); rotate_left
              · (intro w' hSw; obtain ⟨c0, c1, c2⟩ := HCE.out w' (HCC.out w' hSw); go_simp; try with_reducible rfl)
              (try simp only [Act.put, List.setIfInBounds_toArray, List.set_cons_zero, List.set_cons_succ])
              (refine wpAnyH_take (i := 2) (oi := { dst := some 36, op := Go.Op.move (Go.Operand.tmp 9), type := 3, pos := "law.go:66", after := #[], guard := none }) (v := ?_) rfl (by kernel_rfl) (by kernel_rfl) (by kernel_rfl) (fun _ _ _ h => h) (Or.inl ⟨by rfl, ?_⟩) HX0.out ?_); rotate_left
              · (intro w' hSw; obtain ⟨c0, c1, c2⟩ := HCE.out w' (HCC.out w' hSw); go_simp; try with_reducible rfl)
              (try simp only [Act.put, List.setIfInBounds_toArray, List.set_cons_zero, List.set_cons_succ])
              (refine wpAnyH_take (i := 3) (oi := { dst := some 37, op := Go.Op.indexAddr 73 (Go.Operand.tmp 35) (Go.Operand.tmp 36), type := 0, pos := "law.go:66", after := #[{ on := 1, ground := Go.Ground.data }, { on := 2, ground := Go.Ground.data }], guard := none }) (v := ?_) rfl (by kernel_rfl) (by kernel_rfl) (by kernel_rfl) (fun _ _ _ h => h) (Or.inl ⟨by rfl, ?_⟩) HX0.out ?_); rotate_left
              · (intro w' hSw; obtain ⟨c0, c1, c2⟩ := HCE.out w' (HCC.out w' hSw); go_simp; try with_reducible rfl)
              (try simp only [Act.put, List.setIfInBounds_toArray, List.set_cons_zero, List.set_cons_succ])
              (refine wpAnyH_take (i := 4) (oi := { dst := some 38, op := Go.Op.fieldAddr 84 (Go.Operand.tmp 37) 2, type := 0, pos := "law.go:66", after := #[{ on := 3, ground := Go.Ground.data }], guard := none }) (v := ?_) rfl (by kernel_rfl) (by kernel_rfl) (by kernel_rfl) (fun _ _ _ h => h) (Or.inl ⟨by rfl, ?_⟩) HX0.out ?_); rotate_left
              · (intro w' hSw; obtain ⟨c0, c1, c2⟩ := HCE.out w' (HCC.out w' hSw); go_simp; try with_reducible rfl)
              (try simp only [Act.put, List.setIfInBounds_toArray, List.set_cons_zero, List.set_cons_succ])
              (refine wpAnyH_take (i := 5) (oi := { dst := some 39, op := Go.Op.load 3 (Go.Operand.tmp 38), type := 3, pos := "law.go:66", after := #[{ on := 4, ground := Go.Ground.data }], guard := none }) (v := ?_) rfl (by kernel_rfl) (by kernel_rfl) (by kernel_rfl) (fun _ _ _ h => h) (Or.inl ⟨by rfl, ?_⟩) HX0.out ?_); rotate_left
              · (intro w' hSw; obtain ⟨c0, c1, c2⟩ := HCE.out w' (HCC.out w' hSw); go_simp; try with_reducible rfl)
              (try simp only [Act.put, List.setIfInBounds_toArray, List.set_cons_zero, List.set_cons_succ])
              refine wpAnyH_ready (rs := [6, 11]) (by kernel_rfl) (by simp) ?_
              refine AllReadyH.cons (o := { dst := some 40, op := Go.Op.call { callee := Go.Callee.value (Go.Operand.func 54), args := #[Go.Operand.tmp 34, Go.Operand.tmp 39], argTypes := #[78, 3] }, type := 89, pos := "law.go:66", after := #[{ on := 0, ground := Go.Ground.data }, { on := 5, ground := Go.Ground.data }], guard := none }) (by kernel_rfl) (fun K hK => ?_) (AllReadyH.cons (o := { dst := some 10, op := Go.Op.alloc 78, type := 0, pos := "law.go:66", after := #[], guard := none }) (by kernel_rfl) (fun K hK => ?_) AllReadyH.nil)
              ·
                go_simp
                refine (HC1.out _).mono ?_
                rintro e x6 ⟨rfl, b9⟩
                have KA := Lib.hid (KA.out.ext b9); have KH := Lib.hid (KH.out.ext b9); have KW := Lib.hid (KW.out.ext b9); have KZ := Lib.hid (KZ.out.ext b9); have HE := Lib.hid (ext_trans HE.out b9)
                have HX24 := Lib.hid (show SE wi x6 from ext_trans HX0.out b9)
                have hszHX24 := b9.size
                clear b9
                (try go_wp2_with fail)
                refine hK.out _ _ HX24.out (fun _ => ?_)
                clear hK K
                (try simp only [Act.put, List.setIfInBounds_toArray, List.set_cons_zero, List.set_cons_succ])
                (refine wpAnyH_take (i := 7) (oi := { dst := some 33, op := Go.Op.move (Go.Operand.tmp 40), type := 89, pos := "law.go:66", after := #[{ on := 6, ground := Go.Ground.data }], guard := none }) (v := ?_) rfl (by kernel_rfl) (by kernel_rfl) (by kernel_rfl) (fun _ _ _ h => h) (Or.inl ⟨by rfl, ?_⟩) HX24.out ?_); rotate_left
                · (intro w' hSw; obtain ⟨c0, c1, c2⟩ := HCE.out w' (HCC.out w' hSw); go_simp; try with_reducible rfl)
                (try simp only [Act.put, List.setIfInBounds_toArray, List.set_cons_zero, List.set_cons_succ])
                (refine wpAnyH_take (i := 8) (oi := { dst := some 41, op := Go.Op.extract (Go.Operand.tmp 33) 0, type := 78, pos := "law.go:66", after := #[{ on := 7, ground := Go.Ground.data }], guard := none }) (v := ?_) rfl (by kernel_rfl) (by kernel_rfl) (by kernel_rfl) (fun _ _ _ h => h) (Or.inl ⟨by rfl, ?_⟩) HX24.out ?_); rotate_left
                · (intro w' hSw; obtain ⟨c0, c1, c2⟩ := HCE.out w' (HCC.out w' hSw); go_simp; try with_reducible rfl)
                (try simp only [Act.put, List.setIfInBounds_toArray, List.set_cons_zero, List.set_cons_succ])
                (refine wpAnyH_take (i := 9) (oi := { dst := some 42, op := Go.Op.extract (Go.Operand.tmp 33) 1, type := 43, pos := "law.go:66", after := #[{ on := 7, ground := Go.Ground.data }, { on := 12, ground := Go.Ground.gcOnly Go.Departure.lateStores }], guard := none }) (v := ?_) rfl (by kernel_rfl) (by kernel_rfl) (by kernel_rfl) (fun _ _ _ h => h) (Or.inl ⟨by rfl, ?_⟩) HX24.out ?_); rotate_left
                · (intro w' hSw; obtain ⟨c0, c1, c2⟩ := HCE.out w' (HCC.out w' hSw); go_simp; try with_reducible rfl)
                (try simp only [Act.put, List.setIfInBounds_toArray, List.set_cons_zero, List.set_cons_succ])
                (refine wpAnyH_take (i := 10) (oi := { dst := some 43, op := Go.Op.extract (Go.Operand.tmp 33) 2, type := 4, pos := "law.go:66", after := #[{ on := 7, ground := Go.Ground.data }, { on := 13, ground := Go.Ground.gcOnly Go.Departure.lateStores }], guard := none }) (v := ?_) rfl (by kernel_rfl) (by kernel_rfl) (by kernel_rfl) (fun _ _ _ h => h) (Or.inl ⟨by rfl, ?_⟩) HX24.out ?_); rotate_left
                · (intro w' hSw; obtain ⟨c0, c1, c2⟩ := HCE.out w' (HCC.out w' hSw); go_simp; try with_reducible rfl)
                (try simp only [Act.put, List.setIfInBounds_toArray, List.set_cons_zero, List.set_cons_succ])
                refine wpAnyH_ready (rs := [11]) (by kernel_rfl) (by simp) ?_
                refine AllReadyH.cons (o := { dst := some 10, op := Go.Op.alloc 78, type := 0, pos := "law.go:66", after := #[], guard := none }) (by kernel_rfl) (fun K hK => ?_) AllReadyH.nil
                refine want (by rfl) ?_
                refine wp_allocZ 78 rfl ZA HZA0.out ?_
                have KN := Lib.hid (Blk.new x6 78 ZA)
                have hnn : wi.heap.size ≤ (x6).heap.size := by have := HX24.out.size; exact this
                have KA := Lib.hid (KA.out.alloc (.cells ZA 78))
                have KH := Lib.hid (KH.out.alloc (.cells ZA 78))
                have KW := Lib.hid (KW.out.alloc (.cells ZA 78))
                have KZ := Lib.hid (KZ.out.alloc (.cells ZA 78))
                have HE := Lib.hid (ext_alloc HE.out (.cells ZA 78))
                have HX44 := Lib.hid (show SE wi _ from ext_alloc HX24.out (.cells ZA 78))
                refine hK.out _ _ HX44.out (fun _ => ?_)
                clear hK K
                (try simp only [Act.put, List.setIfInBounds_toArray, List.set_cons_zero, List.set_cons_succ])
                refine wpAnyH_ready (rs := [12]) (by kernel_rfl) (by simp) ?_
                refine AllReadyH.cons (o := { dst := none, op := Go.Op.store 78 (Go.Operand.tmp 10) (Go.Operand.tmp 41), type := 0, pos := "law.go:66", after := #[{ on := 11, ground := Go.Ground.data }, { on := 8, ground := Go.Ground.data }, { on := 6, ground := Go.Ground.chain }, { on := 0, ground := Go.Ground.phase }, { on := 1, ground := Go.Ground.phase }, { on := 2, ground := Go.Ground.phase }, { on := 3, ground := Go.Ground.phase }, { on := 4, ground := Go.Ground.phase }, { on := 5, ground := Go.Ground.phase }, { on := 6, ground := Go.Ground.phase }, { on := 7, ground := Go.Ground.phase }, { on := 8, ground := Go.Ground.phase }, { on := 9, ground := Go.Ground.textOnly Go.Departure.lateStores }, { on := 10, ground := Go.Ground.textOnly Go.Departure.lateStores }, { on := 11, ground := Go.Ground.phase }], guard := none }) (by kernel_rfl) (fun K hK => ?_) AllReadyH.nil
                refine want (by rfl) ?_
                refine wp_store_row 78 (.tmp 10) (.tmp 41) rfl ((x6).heap.size) A2 rfl rfl 78 ZA KN.out (by rw [HZA2.out]; exact sizeA) (by rw [HZZA.out, HZA2.out]) HOA2.out ?_
                have hnb : w.heap.size + 1 + 1 + 1 < (x6).heap.size := by have := hnn; first | omega | (have h9 : wi.drew.heap.size = wi.heap.size := rfl; omega)
                have KA := Lib.hid (setRow_far (h := (x6).heap.size) (ds := A2) KA.out (by omega))
                have KH := Lib.hid (setRow_far (h := (x6).heap.size) (ds := A2) KH.out (by omega))
                have KW := Lib.hid (setRow_far (h := (x6).heap.size) (ds := A2) KW.out (by omega))
                have KZ := Lib.hid (setRow_far (h := (x6).heap.size) (ds := A2) KZ.out (by omega))
                have KN := Lib.hid (setRow_blk (cs := A2) KN.out)
                have HE := Lib.hid (ext_setRow HE.out (show w.heap.size ≤ (x6).heap.size by omega) A2)
                have HX48 := Lib.hid (show SE wi _ from ext_setRow HX44.out hnn A2)
                refine hK.out _ _ HX48.out (fun _ => ?_)
                clear hK K
                (try simp only [Act.put, List.setIfInBounds_toArray, List.set_cons_zero, List.set_cons_succ])
                (refine wpAnyH_take (i := 13) (oi := { dst := some 11, op := Go.Op.assign (Go.Operand.tmp 42), type := 43, pos := "law.go:66", after := #[{ on := 9, ground := Go.Ground.data }, { on := 12, ground := Go.Ground.chain }, { on := 0, ground := Go.Ground.phase }, { on := 1, ground := Go.Ground.phase }, { on := 2, ground := Go.Ground.phase }, { on := 3, ground := Go.Ground.phase }, { on := 4, ground := Go.Ground.phase }, { on := 5, ground := Go.Ground.phase }, { on := 6, ground := Go.Ground.phase }, { on := 7, ground := Go.Ground.phase }, { on := 8, ground := Go.Ground.phase }, { on := 9, ground := Go.Ground.phase }, { on := 10, ground := Go.Ground.textOnly Go.Departure.lateStores }, { on := 11, ground := Go.Ground.phase }, { on := 12, ground := Go.Ground.phase }], guard := none }) (v := ?_) rfl (by kernel_rfl) (by kernel_rfl) (by kernel_rfl) (fun _ _ _ h => h) (Or.inl ⟨by rfl, ?_⟩) HX48.out ?_); rotate_left
                · (intro w' hSw; obtain ⟨c0, c1, c2⟩ := HCE.out w' (HCC.out w' hSw); go_simp; try with_reducible rfl)
                (try simp only [Act.put, List.setIfInBounds_toArray, List.set_cons_zero, List.set_cons_succ])
                (refine wpAnyH_take (i := 14) (oi := { dst := some 12, op := Go.Op.assign (Go.Operand.tmp 43), type := 4, pos := "law.go:66", after := #[{ on := 10, ground := Go.Ground.data }, { on := 13, ground := Go.Ground.chain }, { on := 0, ground := Go.Ground.phase }, { on := 1, ground := Go.Ground.phase }, { on := 2, ground := Go.Ground.phase }, { on := 3, ground := Go.Ground.phase }, { on := 4, ground := Go.Ground.phase }, { on := 5, ground := Go.Ground.phase }, { on := 6, ground := Go.Ground.phase }, { on := 7, ground := Go.Ground.phase }, { on := 8, ground := Go.Ground.phase }, { on := 9, ground := Go.Ground.phase }, { on := 10, ground := Go.Ground.phase }, { on := 11, ground := Go.Ground.phase }, { on := 12, ground := Go.Ground.phase }, { on := 13, ground := Go.Ground.phase }], guard := none }) (v := ?_) rfl (by kernel_rfl) (by kernel_rfl) (by kernel_rfl) (fun _ _ _ h => h) (Or.inl ⟨by rfl, ?_⟩) HX48.out ?_); rotate_left
                · (intro w' hSw; obtain ⟨c0, c1, c2⟩ := HCE.out w' (HCC.out w' hSw); go_simp; try with_reducible rfl)
                (try simp only [Act.put, List.setIfInBounds_toArray, List.set_cons_zero, List.set_cons_succ])
                refine wpAnyH_done (by kernel_rfl) ?_ _
                go_wp2_with fail
                go_meet
                have h9 : wi.drew.heap.size = wi.heap.size := rfl
                exact ⟨_, rfl, rfl, rfl, by omega, KN.out, KA.out, KH.out, KW.out, KZ.out, HE.out⟩
              ·
                refine want (by rfl) ?_
                refine wp_allocZ 78 rfl ZA HZA0.out ?_
                have KN := Lib.hid (Blk.new wi.drew 78 ZA)
                have hnn : wi.heap.size ≤ (wi.drew).heap.size := by have := HX0.out.size; exact this
                have KA := Lib.hid (KA.out.alloc (.cells ZA 78))
                have KH := Lib.hid (KH.out.alloc (.cells ZA 78))
                have KW := Lib.hid (KW.out.alloc (.cells ZA 78))
                have KZ := Lib.hid (KZ.out.alloc (.cells ZA 78))
                have HE := Lib.hid (ext_alloc HE.out (.cells ZA 78))
                have HX29 := Lib.hid (show SE wi _ from ext_alloc HX0.out (.cells ZA 78))
                refine hK.out _ _ HX29.out (fun _ => ?_)
                clear hK K
                (try simp only [Act.put, List.setIfInBounds_toArray, List.set_cons_zero, List.set_cons_succ])
                refine wpAnyH_ready (rs := [6]) (by kernel_rfl) (by simp) ?_
                refine AllReadyH.cons (o := { dst := some 40, op := Go.Op.call { callee := Go.Callee.value (Go.Operand.func 54), args := #[Go.Operand.tmp 34, Go.Operand.tmp 39], argTypes := #[78, 3] }, type := 89, pos := "law.go:66", after := #[{ on := 0, ground := Go.Ground.data }, { on := 5, ground := Go.Ground.data }], guard := none }) (by kernel_rfl) (fun K hK => ?_) AllReadyH.nil
                go_simp
                refine (HC1.out _).mono ?_
                rintro e x7 ⟨rfl, b9⟩
                have KA := Lib.hid (KA.out.ext b9); have KH := Lib.hid (KH.out.ext b9); have KW := Lib.hid (KW.out.ext b9); have KZ := Lib.hid (KZ.out.ext b9); have KN := Lib.hid (KN.out.ext b9); have HE := Lib.hid (ext_trans HE.out b9)
                have HX27 := Lib.hid (show SE wi x7 from ext_trans HX29.out b9)
                have hszHX27 := b9.size
                clear b9
                (try go_wp2_with fail)
                refine hK.out _ _ HX27.out (fun _ => ?_)
                clear hK K
                (try simp only [Act.put, List.setIfInBounds_toArray, List.set_cons_zero, List.set_cons_succ])
                (refine wpAnyH_take (i := 7) (oi := { dst := some 33, op := Go.Op.move (Go.Operand.tmp 40), type := 89, pos := "law.go:66", after := #[{ on := 6, ground := Go.Ground.data }], guard := none }) (v := ?_) rfl (by kernel_rfl) (by kernel_rfl) (by kernel_rfl) (fun _ _ _ h => h) (Or.inl ⟨by rfl, ?_⟩) HX27.out ?_); rotate_left
                · (intro w' hSw; obtain ⟨c0, c1, c2⟩ := HCE.out w' (HCC.out w' hSw); go_simp; try with_reducible rfl)
                (try simp only [Act.put, List.setIfInBounds_toArray, List.set_cons_zero, List.set_cons_succ])
                (refine wpAnyH_take (i := 8) (oi := { dst := some 41, op := Go.Op.extract (Go.Operand.tmp 33) 0, type := 78, pos := "law.go:66", after := #[{ on := 7, ground := Go.Ground.data }], guard := none }) (v := ?_) rfl (by kernel_rfl) (by kernel_rfl) (by kernel_rfl) (fun _ _ _ h => h) (Or.inl ⟨by rfl, ?_⟩) HX27.out ?_); rotate_left
                · (intro w' hSw; obtain ⟨c0, c1, c2⟩ := HCE.out w' (HCC.out w' hSw); go_simp; try with_reducible rfl)
                (try simp only [Act.put, List.setIfInBounds_toArray, List.set_cons_zero, List.set_cons_succ])
                (refine wpAnyH_take (i := 9) (oi := { dst := some 42, op := Go.Op.extract (Go.Operand.tmp 33) 1, type := 43, pos := "law.go:66", after := #[{ on := 7, ground := Go.Ground.data }, { on := 12, ground := Go.Ground.gcOnly Go.Departure.lateStores }], guard := none }) (v := ?_) rfl (by kernel_rfl) (by kernel_rfl) (by kernel_rfl) (fun _ _ _ h => h) (Or.inl ⟨by rfl, ?_⟩) HX27.out ?_); rotate_left
                · (intro w' hSw; obtain ⟨c0, c1, c2⟩ := HCE.out w' (HCC.out w' hSw); go_simp; try with_reducible rfl)
                (try simp only [Act.put, List.setIfInBounds_toArray, List.set_cons_zero, List.set_cons_succ])
                (refine wpAnyH_take (i := 10) (oi := { dst := some 43, op := Go.Op.extract (Go.Operand.tmp 33) 2, type := 4, pos := "law.go:66", after := #[{ on := 7, ground := Go.Ground.data }, { on := 13, ground := Go.Ground.gcOnly Go.Departure.lateStores }], guard := none }) (v := ?_) rfl (by kernel_rfl) (by kernel_rfl) (by kernel_rfl) (fun _ _ _ h => h) (Or.inl ⟨by rfl, ?_⟩) HX27.out ?_); rotate_left
                · (intro w' hSw; obtain ⟨c0, c1, c2⟩ := HCE.out w' (HCC.out w' hSw); go_simp; try with_reducible rfl)
                (try simp only [Act.put, List.setIfInBounds_toArray, List.set_cons_zero, List.set_cons_succ])
                refine wpAnyH_ready (rs := [12]) (by kernel_rfl) (by simp) ?_
                refine AllReadyH.cons (o := { dst := none, op := Go.Op.store 78 (Go.Operand.tmp 10) (Go.Operand.tmp 41), type := 0, pos := "law.go:66", after := #[{ on := 11, ground := Go.Ground.data }, { on := 8, ground := Go.Ground.data }, { on := 6, ground := Go.Ground.chain }, { on := 0, ground := Go.Ground.phase }, { on := 1, ground := Go.Ground.phase }, { on := 2, ground := Go.Ground.phase }, { on := 3, ground := Go.Ground.phase }, { on := 4, ground := Go.Ground.phase }, { on := 5, ground := Go.Ground.phase }, { on := 6, ground := Go.Ground.phase }, { on := 7, ground := Go.Ground.phase }, { on := 8, ground := Go.Ground.phase }, { on := 9, ground := Go.Ground.textOnly Go.Departure.lateStores }, { on := 10, ground := Go.Ground.textOnly Go.Departure.lateStores }, { on := 11, ground := Go.Ground.phase }], guard := none }) (by kernel_rfl) (fun K hK => ?_) AllReadyH.nil
                refine want (by rfl) ?_
                refine wp_store_row 78 (.tmp 10) (.tmp 41) rfl ((wi.drew).heap.size) A2 rfl rfl 78 ZA KN.out (by rw [HZA2.out]; exact sizeA) (by rw [HZZA.out, HZA2.out]) HOA2.out ?_
                have hnb : w.heap.size + 1 + 1 + 1 < (wi.drew).heap.size := by have := hnn; first | omega | (have h9 : wi.drew.heap.size = wi.heap.size := rfl; omega)
                have KA := Lib.hid (setRow_far (h := (wi.drew).heap.size) (ds := A2) KA.out (by omega))
                have KH := Lib.hid (setRow_far (h := (wi.drew).heap.size) (ds := A2) KH.out (by omega))
                have KW := Lib.hid (setRow_far (h := (wi.drew).heap.size) (ds := A2) KW.out (by omega))
                have KZ := Lib.hid (setRow_far (h := (wi.drew).heap.size) (ds := A2) KZ.out (by omega))
                have KN := Lib.hid (setRow_blk (cs := A2) KN.out)
                have HE := Lib.hid (ext_setRow HE.out (show w.heap.size ≤ (wi.drew).heap.size by omega) A2)
                have HX48 := Lib.hid (show SE wi _ from ext_setRow HX27.out hnn A2)
                refine hK.out _ _ HX48.out (fun _ => ?_)
                clear hK K
                (try simp only [Act.put, List.setIfInBounds_toArray, List.set_cons_zero, List.set_cons_succ])
                (refine wpAnyH_take (i := 13) (oi := { dst := some 11, op := Go.Op.assign (Go.Operand.tmp 42), type := 43, pos := "law.go:66", after := #[{ on := 9, ground := Go.Ground.data }, { on := 12, ground := Go.Ground.chain }, { on := 0, ground := Go.Ground.phase }, { on := 1, ground := Go.Ground.phase }, { on := 2, ground := Go.Ground.phase }, { on := 3, ground := Go.Ground.phase }, { on := 4, ground := Go.Ground.phase }, { on := 5, ground := Go.Ground.phase }, { on := 6, ground := Go.Ground.phase }, { on := 7, ground := Go.Ground.phase }, { on := 8, ground := Go.Ground.phase }, { on := 9, ground := Go.Ground.phase }, { on := 10, ground := Go.Ground.textOnly Go.Departure.lateStores }, { on := 11, ground := Go.Ground.phase }, { on := 12, ground := Go.Ground.phase }], guard := none }) (v := ?_) rfl (by kernel_rfl) (by kernel_rfl) (by kernel_rfl) (fun _ _ _ h => h) (Or.inl ⟨by rfl, ?_⟩) HX48.out ?_); rotate_left
                · (intro w' hSw; obtain ⟨c0, c1, c2⟩ := HCE.out w' (HCC.out w' hSw); go_simp; try with_reducible rfl)
                (try simp only [Act.put, List.setIfInBounds_toArray, List.set_cons_zero, List.set_cons_succ])
                (refine wpAnyH_take (i := 14) (oi := { dst := some 12, op := Go.Op.assign (Go.Operand.tmp 43), type := 4, pos := "law.go:66", after := #[{ on := 10, ground := Go.Ground.data }, { on := 13, ground := Go.Ground.chain }, { on := 0, ground := Go.Ground.phase }, { on := 1, ground := Go.Ground.phase }, { on := 2, ground := Go.Ground.phase }, { on := 3, ground := Go.Ground.phase }, { on := 4, ground := Go.Ground.phase }, { on := 5, ground := Go.Ground.phase }, { on := 6, ground := Go.Ground.phase }, { on := 7, ground := Go.Ground.phase }, { on := 8, ground := Go.Ground.phase }, { on := 9, ground := Go.Ground.phase }, { on := 10, ground := Go.Ground.phase }, { on := 11, ground := Go.Ground.phase }, { on := 12, ground := Go.Ground.phase }, { on := 13, ground := Go.Ground.phase }], guard := none }) (v := ?_) rfl (by kernel_rfl) (by kernel_rfl) (by kernel_rfl) (fun _ _ _ h => h) (Or.inl ⟨by rfl, ?_⟩) HX48.out ?_); rotate_left
                · (intro w' hSw; obtain ⟨c0, c1, c2⟩ := HCE.out w' (HCC.out w' hSw); go_simp; try with_reducible rfl)
                (try simp only [Act.put, List.setIfInBounds_toArray, List.set_cons_zero, List.set_cons_succ])
                refine wpAnyH_done (by kernel_rfl) ?_ _
                go_wp2_with fail
                go_meet
                have h9 : wi.drew.heap.size = wi.heap.size := rfl
                exact ⟨_, rfl, rfl, rfl, by omega, KN.out, KA.out, KH.out, KW.out, KZ.out, HE.out⟩
            case rest =>
            obtain ⟨bn, rfl, rfl, rfl, hb_bn, kn, ka, kh, kw, kz, he⟩ := hcut
            obtain ⟨wa, hwl⟩ : ∃ W9 : World, W9 = wc := ⟨_, rfl⟩
            rw [← hwl] at kn ka kh kw kz he ⊢
            clear hwl KA KH KW KZ HE
            have KBN := Lib.hid kn; have KA := Lib.hid ka; have KH := Lib.hid kh; have KW := Lib.hid kw; have KZ := Lib.hid kz; have HE := Lib.hid he
            clear kn ka kh kw kz he
            have KP := KBN
            clear KBN
            go_wp2_with fail
            go_cut [13, 14] from 22 to 127 (fun s13 s14 wx => ∃ bx, s13 = .pointer (some ⟨bx, 0, none⟩) ∧ s14 = .int .i64 (m : Int) ∧ w.heap.size + 1 + 1 + 1 < bx ∧ Blk wx bx 82 R2 ∧ Blk wx w.heap.size 78 A1 ∧ Blk wx (w.heap.size + 1) 78 Ah ∧ Blk wx (w.heap.size + 1 + 1) 82 R1 ∧ Blk wx (w.heap.size + 1 + 1 + 1) 82 Rh ∧ Blk wx bn 78 A2 ∧ bn ≠ bx ∧ Ext w wx)
            case first =>
              have HCC : Hid (∀ w', SE wa w' → Ext w w') := Lib.hid (fun w' h => ext_trans HE.out h)
              have KX0 := Lib.hid KW.out
              have KA := Lib.hid KA.out.drew; have KH := Lib.hid KH.out.drew; have KW := Lib.hid KW.out.drew; have KZ := Lib.hid KZ.out.drew; have KP := Lib.hid KP.out.drew; have HE := Lib.hid (ext_drew HE.out)
              have hsz3 := KZ.out.lt; have hsz_P := KP.out.lt
              have HX0 := Lib.hid (show SE wa wa.drew from ext_drew (Ext.rfl' wa))
              refine wp_region_held_drew (S := SE wa) hmx HX0.out (fun _ => ?_)
              refine wpAnyH_take (i := 0) (oi := { dst := some 45, op := Go.Op.load 82 (Go.Operand.tmp 7), type := 82, pos := "law.go:67", after := #[], guard := none }) rfl (by kernel_rfl) (by kernel_rfl) (by kernel_rfl) (fun _ _ _ h => h) (yields_row (by rfl) 82 (.tmp 7) rfl (w.heap.size + 1 + 1) rfl 82 R1 _ (fun _ h => KX0.out.ext h) Try.underlying82 rfl (by rw [HZR1.out]; exact sizeR)) HX0.out ?_
              (try simp only [Act.put, List.setIfInBounds_toArray, List.set_cons_zero, List.set_cons_succ])
              (refine wpAnyH_take (i := 1) (oi := { dst := some 46, op := Go.Op.move (Go.Operand.tmp 0), type := 73, pos := "law.go:67", after := #[], guard := none }) (v := ?_) rfl (by kernel_rfl) (by kernel_rfl) (by kernel_rfl) (fun _ _ _ h => h) (Or.inl ⟨by rfl, ?_⟩) HX0.out ?_); rotate_left
              · (intro w' hSw; obtain ⟨c0, c1, c2⟩ := HCE.out w' (HCC.out w' hSw); go_simp; try with_reducible rfl)
              (try simp only [Act.put, List.setIfInBounds_toArray, List.set_cons_zero, List.set_cons_succ])
              (refine wpAnyH_take (i := 2) (oi := { dst := some 47, op := Go.Op.move (Go.Operand.tmp 9), type := 3, pos := "law.go:67", after := #[], guard := none }) (v := ?_) rfl (by kernel_rfl) (by kernel_rfl) (by kernel_rfl) (fun _ _ _ h => h) (Or.inl ⟨by rfl, ?_⟩) HX0.out ?_); rotate_left
              · (intro w' hSw; obtain ⟨c0, c1, c2⟩ := HCE.out w' (HCC.out w' hSw); go_simp; try with_reducible rfl)
              (try simp only [Act.put, List.setIfInBounds_toArray, List.set_cons_zero, List.set_cons_succ])
              (refine wpAnyH_take (i := 3) (oi := { dst := some 48, op := Go.Op.indexAddr 73 (Go.Operand.tmp 46) (Go.Operand.tmp 47), type := 0, pos := "law.go:67", after := #[{ on := 1, ground := Go.Ground.data }, { on := 2, ground := Go.Ground.data }], guard := none }) (v := ?_) rfl (by kernel_rfl) (by kernel_rfl) (by kernel_rfl) (fun _ _ _ h => h) (Or.inl ⟨by rfl, ?_⟩) HX0.out ?_); rotate_left
              · (intro w' hSw; obtain ⟨c0, c1, c2⟩ := HCE.out w' (HCC.out w' hSw); go_simp; try with_reducible rfl)
              (try simp only [Act.put, List.setIfInBounds_toArray, List.set_cons_zero, List.set_cons_succ])
              (refine wpAnyH_take (i := 4) (oi := { dst := some 49, op := Go.Op.fieldAddr 84 (Go.Operand.tmp 48) 2, type := 0, pos := "law.go:67", after := #[{ on := 3, ground := Go.Ground.data }], guard := none }) (v := ?_) rfl (by kernel_rfl) (by kernel_rfl) (by kernel_rfl) (fun _ _ _ h => h) (Or.inl ⟨by rfl, ?_⟩) HX0.out ?_); rotate_left
              · (intro w' hSw; obtain ⟨c0, c1, c2⟩ := HCE.out w' (HCC.out w' hSw); go_simp; try with_reducible rfl)
              (try simp only [Act.put, List.setIfInBounds_toArray, List.set_cons_zero, List.set_cons_succ])
              (refine wpAnyH_take (i := 5) (oi := { dst := some 50, op := Go.Op.load 3 (Go.Operand.tmp 49), type := 3, pos := "law.go:67", after := #[{ on := 4, ground := Go.Ground.data }], guard := none }) (v := ?_) rfl (by kernel_rfl) (by kernel_rfl) (by kernel_rfl) (fun _ _ _ h => h) (Or.inl ⟨by rfl, ?_⟩) HX0.out ?_); rotate_left
              · (intro w' hSw; obtain ⟨c0, c1, c2⟩ := HCE.out w' (HCC.out w' hSw); go_simp; try with_reducible rfl)
              (try simp only [Act.put, List.setIfInBounds_toArray, List.set_cons_zero, List.set_cons_succ])
              refine wpAnyH_ready (rs := [6, 10]) (by kernel_rfl) (by simp) ?_
              refine AllReadyH.cons (o := { dst := some 51, op := Go.Op.call { callee := Go.Callee.value (Go.Operand.func 55), args := #[Go.Operand.tmp 45, Go.Operand.tmp 50], argTypes := #[82, 3] }, type := 91, pos := "law.go:67", after := #[{ on := 0, ground := Go.Ground.data }, { on := 5, ground := Go.Ground.data }], guard := none }) (by kernel_rfl) (fun K hK => ?_) (AllReadyH.cons (o := { dst := some 13, op := Go.Op.alloc 82, type := 0, pos := "law.go:67", after := #[], guard := none }) (by kernel_rfl) (fun K hK => ?_) AllReadyH.nil)
              ·
                go_simp
                refine (HC2.out _).mono ?_
                rintro e x6 ⟨rfl, b9⟩
                have KA := Lib.hid (KA.out.ext b9); have KH := Lib.hid (KH.out.ext b9); have KW := Lib.hid (KW.out.ext b9); have KZ := Lib.hid (KZ.out.ext b9); have KP := Lib.hid (KP.out.ext b9); have HE := Lib.hid (ext_trans HE.out b9)
                have HX24 := Lib.hid (show SE wa x6 from ext_trans HX0.out b9)
                have hszHX24 := b9.size
                clear b9
                (try go_wp2_with fail)
                refine hK.out _ _ HX24.out (fun _ => ?_)
                clear hK K
                (try simp only [Act.put, List.setIfInBounds_toArray, List.set_cons_zero, List.set_cons_succ])
                (refine wpAnyH_take (i := 7) (oi := { dst := some 44, op := Go.Op.move (Go.Operand.tmp 51), type := 91, pos := "law.go:67", after := #[{ on := 6, ground := Go.Ground.data }], guard := none }) (v := ?_) rfl (by kernel_rfl) (by kernel_rfl) (by kernel_rfl) (fun _ _ _ h => h) (Or.inl ⟨by rfl, ?_⟩) HX24.out ?_); rotate_left
                · (intro w' hSw; obtain ⟨c0, c1, c2⟩ := HCE.out w' (HCC.out w' hSw); go_simp; try with_reducible rfl)
                (try simp only [Act.put, List.setIfInBounds_toArray, List.set_cons_zero, List.set_cons_succ])
                (refine wpAnyH_take (i := 8) (oi := { dst := some 52, op := Go.Op.extract (Go.Operand.tmp 44) 0, type := 82, pos := "law.go:67", after := #[{ on := 7, ground := Go.Ground.data }], guard := none }) (v := ?_) rfl (by kernel_rfl) (by kernel_rfl) (by kernel_rfl) (fun _ _ _ h => h) (Or.inl ⟨by rfl, ?_⟩) HX24.out ?_); rotate_left
                · (intro w' hSw; obtain ⟨c0, c1, c2⟩ := HCE.out w' (HCC.out w' hSw); go_simp; try with_reducible rfl)
                (try simp only [Act.put, List.setIfInBounds_toArray, List.set_cons_zero, List.set_cons_succ])
                (refine wpAnyH_take (i := 9) (oi := { dst := some 53, op := Go.Op.extract (Go.Operand.tmp 44) 1, type := 3, pos := "law.go:67", after := #[{ on := 7, ground := Go.Ground.data }, { on := 11, ground := Go.Ground.gcOnly Go.Departure.lateStores }], guard := none }) (v := ?_) rfl (by kernel_rfl) (by kernel_rfl) (by kernel_rfl) (fun _ _ _ h => h) (Or.inl ⟨by rfl, ?_⟩) HX24.out ?_); rotate_left
                · (intro w' hSw; obtain ⟨c0, c1, c2⟩ := HCE.out w' (HCC.out w' hSw); go_simp; try with_reducible rfl)
                (try simp only [Act.put, List.setIfInBounds_toArray, List.set_cons_zero, List.set_cons_succ])
                refine wpAnyH_ready (rs := [10]) (by kernel_rfl) (by simp) ?_
                refine AllReadyH.cons (o := { dst := some 13, op := Go.Op.alloc 82, type := 0, pos := "law.go:67", after := #[], guard := none }) (by kernel_rfl) (fun K hK => ?_) AllReadyH.nil
                refine want (by rfl) ?_
                refine wp_allocZ 82 rfl ZR HZR0.out ?_
                have KN := Lib.hid (Blk.new x6 82 ZR)
                have hnn : wa.heap.size ≤ (x6).heap.size := by have := HX24.out.size; exact this
                have KA := Lib.hid (KA.out.alloc (.cells ZR 82))
                have KH := Lib.hid (KH.out.alloc (.cells ZR 82))
                have KW := Lib.hid (KW.out.alloc (.cells ZR 82))
                have KZ := Lib.hid (KZ.out.alloc (.cells ZR 82))
                have KP := Lib.hid (KP.out.alloc (.cells ZR 82))
                have HE := Lib.hid (ext_alloc HE.out (.cells ZR 82))
                have HX40 := Lib.hid (show SE wa _ from ext_alloc HX24.out (.cells ZR 82))
                refine hK.out _ _ HX40.out (fun _ => ?_)
                clear hK K
                (try simp only [Act.put, List.setIfInBounds_toArray, List.set_cons_zero, List.set_cons_succ])
                refine wpAnyH_ready (rs := [11]) (by kernel_rfl) (by simp) ?_
                refine AllReadyH.cons (o := { dst := none, op := Go.Op.store 82 (Go.Operand.tmp 13) (Go.Operand.tmp 52), type := 0, pos := "law.go:67", after := #[{ on := 10, ground := Go.Ground.data }, { on := 8, ground := Go.Ground.data }, { on := 6, ground := Go.Ground.chain }, { on := 0, ground := Go.Ground.phase }, { on := 1, ground := Go.Ground.phase }, { on := 2, ground := Go.Ground.phase }, { on := 3, ground := Go.Ground.phase }, { on := 4, ground := Go.Ground.phase }, { on := 5, ground := Go.Ground.phase }, { on := 6, ground := Go.Ground.phase }, { on := 7, ground := Go.Ground.phase }, { on := 8, ground := Go.Ground.phase }, { on := 9, ground := Go.Ground.textOnly Go.Departure.lateStores }, { on := 10, ground := Go.Ground.phase }], guard := none }) (by kernel_rfl) (fun K hK => ?_) AllReadyH.nil
                refine want (by rfl) ?_
                refine wp_store_row 82 (.tmp 13) (.tmp 52) rfl ((x6).heap.size) R2 rfl rfl 82 ZR KN.out (by rw [HZR2.out]; exact sizeR) (by rw [HZZR.out, HZR2.out]) HOR2.out ?_
                have hnb : w.heap.size + 1 + 1 + 1 < (x6).heap.size := by have := hnn; first | omega | (have h9 : wa.drew.heap.size = wa.heap.size := rfl; omega)
                have hnb_P : bn < (x6).heap.size := by have := hnn; first | omega | (have h9 : wa.drew.heap.size = wa.heap.size := rfl; omega)
                have KA := Lib.hid (setRow_far (h := (x6).heap.size) (ds := R2) KA.out (by omega))
                have KH := Lib.hid (setRow_far (h := (x6).heap.size) (ds := R2) KH.out (by omega))
                have KW := Lib.hid (setRow_far (h := (x6).heap.size) (ds := R2) KW.out (by omega))
                have KZ := Lib.hid (setRow_far (h := (x6).heap.size) (ds := R2) KZ.out (by omega))
                have KP := Lib.hid (setRow_far (h := (x6).heap.size) (ds := R2) KP.out (by omega))
                have KN := Lib.hid (setRow_blk (cs := R2) KN.out)
                have HE := Lib.hid (ext_setRow HE.out (show w.heap.size ≤ (x6).heap.size by omega) R2)
                have HX44 := Lib.hid (show SE wa _ from ext_setRow HX40.out hnn R2)
                refine hK.out _ _ HX44.out (fun _ => ?_)
                clear hK K
                (try simp only [Act.put, List.setIfInBounds_toArray, List.set_cons_zero, List.set_cons_succ])
                (refine wpAnyH_take (i := 12) (oi := { dst := some 14, op := Go.Op.assign (Go.Operand.tmp 53), type := 3, pos := "law.go:67", after := #[{ on := 9, ground := Go.Ground.data }, { on := 11, ground := Go.Ground.chain }, { on := 0, ground := Go.Ground.phase }, { on := 1, ground := Go.Ground.phase }, { on := 2, ground := Go.Ground.phase }, { on := 3, ground := Go.Ground.phase }, { on := 4, ground := Go.Ground.phase }, { on := 5, ground := Go.Ground.phase }, { on := 6, ground := Go.Ground.phase }, { on := 7, ground := Go.Ground.phase }, { on := 8, ground := Go.Ground.phase }, { on := 9, ground := Go.Ground.phase }, { on := 10, ground := Go.Ground.phase }, { on := 11, ground := Go.Ground.phase }], guard := none }) (v := ?_) rfl (by kernel_rfl) (by kernel_rfl) (by kernel_rfl) (fun _ _ _ h => h) (Or.inl ⟨by rfl, ?_⟩) HX44.out ?_); rotate_left
                · (intro w' hSw; obtain ⟨c0, c1, c2⟩ := HCE.out w' (HCC.out w' hSw); go_simp; try with_reducible rfl)
                (try simp only [Act.put, List.setIfInBounds_toArray, List.set_cons_zero, List.set_cons_succ])
                refine wpAnyH_done (by kernel_rfl) ?_ _
                go_wp2_with fail
                go_meet
                have h9 : wa.drew.heap.size = wa.heap.size := rfl
                exact ⟨_, rfl, rfl, by omega, KN.out, KA.out, KH.out, KW.out, KZ.out, KP.out, by omega, HE.out⟩
              ·
                refine want (by rfl) ?_
                refine wp_allocZ 82 rfl ZR HZR0.out ?_
                have KN := Lib.hid (Blk.new wa.drew 82 ZR)
                have hnn : wa.heap.size ≤ (wa.drew).heap.size := by have := HX0.out.size; exact this
                have KA := Lib.hid (KA.out.alloc (.cells ZR 82))
                have KH := Lib.hid (KH.out.alloc (.cells ZR 82))
                have KW := Lib.hid (KW.out.alloc (.cells ZR 82))
                have KZ := Lib.hid (KZ.out.alloc (.cells ZR 82))
                have KP := Lib.hid (KP.out.alloc (.cells ZR 82))
                have HE := Lib.hid (ext_alloc HE.out (.cells ZR 82))
                have HX28 := Lib.hid (show SE wa _ from ext_alloc HX0.out (.cells ZR 82))
                refine hK.out _ _ HX28.out (fun _ => ?_)
                clear hK K
                (try simp only [Act.put, List.setIfInBounds_toArray, List.set_cons_zero, List.set_cons_succ])
                refine wpAnyH_ready (rs := [6]) (by kernel_rfl) (by simp) ?_
                refine AllReadyH.cons (o := { dst := some 51, op := Go.Op.call { callee := Go.Callee.value (Go.Operand.func 55), args := #[Go.Operand.tmp 45, Go.Operand.tmp 50], argTypes := #[82, 3] }, type := 91, pos := "law.go:67", after := #[{ on := 0, ground := Go.Ground.data }, { on := 5, ground := Go.Ground.data }], guard := none }) (by kernel_rfl) (fun K hK => ?_) AllReadyH.nil
                go_simp
                refine (HC2.out _).mono ?_
                rintro e x7 ⟨rfl, b9⟩
                have KA := Lib.hid (KA.out.ext b9); have KH := Lib.hid (KH.out.ext b9); have KW := Lib.hid (KW.out.ext b9); have KZ := Lib.hid (KZ.out.ext b9); have KP := Lib.hid (KP.out.ext b9); have KN := Lib.hid (KN.out.ext b9); have HE := Lib.hid (ext_trans HE.out b9)
                have HX27 := Lib.hid (show SE wa x7 from ext_trans HX28.out b9)
                have hszHX27 := b9.size
                clear b9
                (try go_wp2_with fail)
                refine hK.out _ _ HX27.out (fun _ => ?_)
                clear hK K
                (try simp only [Act.put, List.setIfInBounds_toArray, List.set_cons_zero, List.set_cons_succ])
                (refine wpAnyH_take (i := 7) (oi := { dst := some 44, op := Go.Op.move (Go.Operand.tmp 51), type := 91, pos := "law.go:67", after := #[{ on := 6, ground := Go.Ground.data }], guard := none }) (v := ?_) rfl (by kernel_rfl) (by kernel_rfl) (by kernel_rfl) (fun _ _ _ h => h) (Or.inl ⟨by rfl, ?_⟩) HX27.out ?_); rotate_left
                · (intro w' hSw; obtain ⟨c0, c1, c2⟩ := HCE.out w' (HCC.out w' hSw); go_simp; try with_reducible rfl)
                (try simp only [Act.put, List.setIfInBounds_toArray, List.set_cons_zero, List.set_cons_succ])
                (refine wpAnyH_take (i := 8) (oi := { dst := some 52, op := Go.Op.extract (Go.Operand.tmp 44) 0, type := 82, pos := "law.go:67", after := #[{ on := 7, ground := Go.Ground.data }], guard := none }) (v := ?_) rfl (by kernel_rfl) (by kernel_rfl) (by kernel_rfl) (fun _ _ _ h => h) (Or.inl ⟨by rfl, ?_⟩) HX27.out ?_); rotate_left
                · (intro w' hSw; obtain ⟨c0, c1, c2⟩ := HCE.out w' (HCC.out w' hSw); go_simp; try with_reducible rfl)
                (try simp only [Act.put, List.setIfInBounds_toArray, List.set_cons_zero, List.set_cons_succ])
                (refine wpAnyH_take (i := 9) (oi := { dst := some 53, op := Go.Op.extract (Go.Operand.tmp 44) 1, type := 3, pos := "law.go:67", after := #[{ on := 7, ground := Go.Ground.data }, { on := 11, ground := Go.Ground.gcOnly Go.Departure.lateStores }], guard := none }) (v := ?_) rfl (by kernel_rfl) (by kernel_rfl) (by kernel_rfl) (fun _ _ _ h => h) (Or.inl ⟨by rfl, ?_⟩) HX27.out ?_); rotate_left
                · (intro w' hSw; obtain ⟨c0, c1, c2⟩ := HCE.out w' (HCC.out w' hSw); go_simp; try with_reducible rfl)
                (try simp only [Act.put, List.setIfInBounds_toArray, List.set_cons_zero, List.set_cons_succ])
                refine wpAnyH_ready (rs := [11]) (by kernel_rfl) (by simp) ?_
                refine AllReadyH.cons (o := { dst := none, op := Go.Op.store 82 (Go.Operand.tmp 13) (Go.Operand.tmp 52), type := 0, pos := "law.go:67", after := #[{ on := 10, ground := Go.Ground.data }, { on := 8, ground := Go.Ground.data }, { on := 6, ground := Go.Ground.chain }, { on := 0, ground := Go.Ground.phase }, { on := 1, ground := Go.Ground.phase }, { on := 2, ground := Go.Ground.phase }, { on := 3, ground := Go.Ground.phase }, { on := 4, ground := Go.Ground.phase }, { on := 5, ground := Go.Ground.phase }, { on := 6, ground := Go.Ground.phase }, { on := 7, ground := Go.Ground.phase }, { on := 8, ground := Go.Ground.phase }, { on := 9, ground := Go.Ground.textOnly Go.Departure.lateStores }, { on := 10, ground := Go.Ground.phase }], guard := none }) (by kernel_rfl) (fun K hK => ?_) AllReadyH.nil
                refine want (by rfl) ?_
                refine wp_store_row 82 (.tmp 13) (.tmp 52) rfl ((wa.drew).heap.size) R2 rfl rfl 82 ZR KN.out (by rw [HZR2.out]; exact sizeR) (by rw [HZZR.out, HZR2.out]) HOR2.out ?_
                have hnb : w.heap.size + 1 + 1 + 1 < (wa.drew).heap.size := by have := hnn; first | omega | (have h9 : wa.drew.heap.size = wa.heap.size := rfl; omega)
                have hnb_P : bn < (wa.drew).heap.size := by have := hnn; first | omega | (have h9 : wa.drew.heap.size = wa.heap.size := rfl; omega)
                have KA := Lib.hid (setRow_far (h := (wa.drew).heap.size) (ds := R2) KA.out (by omega))
                have KH := Lib.hid (setRow_far (h := (wa.drew).heap.size) (ds := R2) KH.out (by omega))
                have KW := Lib.hid (setRow_far (h := (wa.drew).heap.size) (ds := R2) KW.out (by omega))
                have KZ := Lib.hid (setRow_far (h := (wa.drew).heap.size) (ds := R2) KZ.out (by omega))
                have KP := Lib.hid (setRow_far (h := (wa.drew).heap.size) (ds := R2) KP.out (by omega))
                have KN := Lib.hid (setRow_blk (cs := R2) KN.out)
                have HE := Lib.hid (ext_setRow HE.out (show w.heap.size ≤ (wa.drew).heap.size by omega) R2)
                have HX44 := Lib.hid (show SE wa _ from ext_setRow HX27.out hnn R2)
                refine hK.out _ _ HX44.out (fun _ => ?_)
                clear hK K
                (try simp only [Act.put, List.setIfInBounds_toArray, List.set_cons_zero, List.set_cons_succ])
                (refine wpAnyH_take (i := 12) (oi := { dst := some 14, op := Go.Op.assign (Go.Operand.tmp 53), type := 3, pos := "law.go:67", after := #[{ on := 9, ground := Go.Ground.data }, { on := 11, ground := Go.Ground.chain }, { on := 0, ground := Go.Ground.phase }, { on := 1, ground := Go.Ground.phase }, { on := 2, ground := Go.Ground.phase }, { on := 3, ground := Go.Ground.phase }, { on := 4, ground := Go.Ground.phase }, { on := 5, ground := Go.Ground.phase }, { on := 6, ground := Go.Ground.phase }, { on := 7, ground := Go.Ground.phase }, { on := 8, ground := Go.Ground.phase }, { on := 9, ground := Go.Ground.phase }, { on := 10, ground := Go.Ground.phase }, { on := 11, ground := Go.Ground.phase }], guard := none }) (v := ?_) rfl (by kernel_rfl) (by kernel_rfl) (by kernel_rfl) (fun _ _ _ h => h) (Or.inl ⟨by rfl, ?_⟩) HX44.out ?_); rotate_left
                · (intro w' hSw; obtain ⟨c0, c1, c2⟩ := HCE.out w' (HCC.out w' hSw); go_simp; try with_reducible rfl)
                (try simp only [Act.put, List.setIfInBounds_toArray, List.set_cons_zero, List.set_cons_succ])
                refine wpAnyH_done (by kernel_rfl) ?_ _
                go_wp2_with fail
                go_meet
                have h9 : wa.drew.heap.size = wa.heap.size := rfl
                exact ⟨_, rfl, rfl, by omega, KN.out, KA.out, KH.out, KW.out, KZ.out, KP.out, by omega, HE.out⟩
            case rest =>
            obtain ⟨bq, rfl, rfl, hb_bq, kn, ka, kh, kw, kz, kp, hne_P, he⟩ := hcut
            obtain ⟨wb, hwl⟩ : ∃ W9 : World, W9 = wc := ⟨_, rfl⟩
            rw [← hwl] at kn ka kh kw kz kp he ⊢
            clear hwl KA KH KW KZ HE KP
            have KBQ := Lib.hid kn; have KA := Lib.hid ka; have KH := Lib.hid kh; have KW := Lib.hid kw; have KZ := Lib.hid kz; have HE := Lib.hid he; have KP := Lib.hid kp
            clear kn ka kh kw kz he kp
            go_upto_region 12 with (first | (refine wpList_load_row rfl 78 (.tmp 10) rfl bn rfl 78 A2 (0, 0) _ KP.out Try.underlying78 rfl (by rw [HZA2.out]; exact sizeA) ?_) | (refine wpList_store_row rfl 78 (.tmp 5) (.tmp 54) rfl w.heap.size A2 rfl rfl 78 A1 KA.out (by rw [HZA2.out]; exact sizeA) (by rw [HZA1.out, HZA2.out]) HOA2.out ?_))
            try simp only [Act.put, List.setIfInBounds_toArray, List.set_cons_zero, List.set_cons_succ]
            obtain ⟨wd, hwn⟩ : ∃ W9 : World, W9 = wb.setRow w.heap.size A2 := ⟨_, rfl⟩
            have NA := Lib.hid (show Blk wd w.heap.size 78 A2 from by rw [hwn]; exact setRow_blk KA.out)
            have NH := Lib.hid (show Blk wd (w.heap.size + 1) 78 Ah from by rw [hwn]; exact setRow_far KH.out (by omega))
            have NW := Lib.hid (show Blk wd (w.heap.size + 1 + 1) 82 R1 from by rw [hwn]; exact setRow_far KW.out (by omega))
            have NZ := Lib.hid (show Blk wd (w.heap.size + 1 + 1 + 1) 82 Rh from by rw [hwn]; exact setRow_far KZ.out (by omega))
            have NE := Lib.hid (show Ext w wd from by rw [hwn]; exact ext_setRow HE.out (by omega) _)
            have NBQ := Lib.hid (show Blk wd bq 82 R2 from by rw [hwn]; exact setRow_far KBQ.out (by omega))
            rw [← hwn]
            clear hwn KA KH KW KZ HE KBQ
            have KA := NA; have KH := NH; have KW := NW; have KZ := NZ; have HE := NE; have KBQ := NBQ
            clear NA NH NW NZ NE NBQ
            go_upto_region 13 with (first | (refine wpList_load_row rfl 82 (.tmp 13) rfl bq rfl 82 R2 (0, 0) _ KBQ.out Try.underlying82 rfl (by rw [HZR2.out]; exact sizeR) ?_) | (refine wpList_store_row rfl 82 (.tmp 7) (.tmp 55) rfl (w.heap.size + 1 + 1) R2 rfl rfl 82 R1 KW.out (by rw [HZR2.out]; exact sizeR) (by rw [HZR1.out, HZR2.out]) HOR2.out ?_))
            try simp only [Act.put, List.setIfInBounds_toArray, List.set_cons_zero, List.set_cons_succ]
            obtain ⟨we, hwn⟩ : ∃ W9 : World, W9 = wd.setRow (w.heap.size + 1 + 1) R2 := ⟨_, rfl⟩
            have NA := Lib.hid (show Blk we w.heap.size 78 A2 from by rw [hwn]; exact setRow_far KA.out (by omega))
            have NH := Lib.hid (show Blk we (w.heap.size + 1) 78 Ah from by rw [hwn]; exact setRow_far KH.out (by omega))
            have NW := Lib.hid (show Blk we (w.heap.size + 1 + 1) 82 R2 from by rw [hwn]; exact setRow_blk KW.out)
            have NZ := Lib.hid (show Blk we (w.heap.size + 1 + 1 + 1) 82 Rh from by rw [hwn]; exact setRow_far KZ.out (by omega))
            have NE := Lib.hid (show Ext w we from by rw [hwn]; exact ext_setRow HE.out (by omega) _)
            rw [← hwn]
            clear hwn KA KH KW KZ HE
            have KA := NA; have KH := NH; have KW := NW; have KZ := NZ; have HE := NE
            clear NA NH NW NZ NE
            have y9 : (0 : Int) ≤ (m : Int) := by omega
            by_cases hm : k = hn
            · have y8 : ((k : Int) == (hn : Int)) = true := beq_iff_eq.2 (by omega)
              go_upto_region 23 with (first | (refine wpList_load_row rfl 78 (.tmp 5) rfl w.heap.size rfl 78 A2 (0, 0) _ KA.out Try.underlying78 rfl (by rw [HZA2.out]; exact sizeA) ?_) | (refine wpList_store_row rfl 78 (.tmp 6) (.tmp 126) rfl (w.heap.size + 1) A2 rfl rfl 78 Ah KH.out (by rw [HZA2.out]; exact sizeA) (by rw [HZAh.out, HZA2.out]) HOA2.out ?_))
              try simp only [Act.put, List.setIfInBounds_toArray, List.set_cons_zero, List.set_cons_succ]
              obtain ⟨wm, hwn⟩ : ∃ W9 : World, W9 = we.setRow (w.heap.size + 1) A2 := ⟨_, rfl⟩
              have NA := Lib.hid (show Blk wm w.heap.size 78 A2 from by rw [hwn]; exact setRow_far KA.out (by omega))
              have NH := Lib.hid (show Blk wm (w.heap.size + 1) 78 A2 from by rw [hwn]; exact setRow_blk KH.out)
              have NW := Lib.hid (show Blk wm (w.heap.size + 1 + 1) 82 R2 from by rw [hwn]; exact setRow_far KW.out (by omega))
              have NZ := Lib.hid (show Blk wm (w.heap.size + 1 + 1 + 1) 82 Rh from by rw [hwn]; exact setRow_far KZ.out (by omega))
              have NE := Lib.hid (show Ext w wm from by rw [hwn]; exact ext_setRow HE.out (by omega) _)
              rw [← hwn]
              clear hwn KA KH KW KZ HE
              have KA := NA; have KH := NH; have KW := NW; have KZ := NZ; have HE := NE
              clear NA NH NW NZ NE
              go_wp2_with (first | (refine wpList_load_row rfl 82 (.tmp 7) rfl (w.heap.size + 1 + 1) rfl 82 R2 (0, 0) _ KW.out Try.underlying82 rfl (by rw [HZR2.out]; exact sizeR) ?_) | (refine wpList_store_row rfl 82 (.tmp 8) (.tmp 127) rfl (w.heap.size + 1 + 1 + 1) R2 rfl rfl 82 Rh KZ.out (by rw [HZR2.out]; exact sizeR) (by rw [HZRh.out, HZR2.out]) HOR2.out ?_))
              have MZ := Lib.hid (setRow_blk (cs := R2) KZ.out)
              have MA := Lib.hid (setRow_far (h := (w.heap.size + 1 + 1 + 1)) (ds := R2) KA.out (by omega))
              have MH := Lib.hid (setRow_far (h := (w.heap.size + 1 + 1 + 1)) (ds := R2) KH.out (by omega))
              have MW := Lib.hid (setRow_far (h := (w.heap.size + 1 + 1 + 1)) (ds := R2) KW.out (by omega))
              have ME := Lib.hid (ext_setRow HE.out (show w.heap.size ≤ (w.heap.size + 1 + 1 + 1) by omega) R2)
              go_roundw
              case rel => exact ⟨k + 1, A2, R2, A2, R2, by omega, by go_num, HT2.out, HT2.out, MA.out, MH.out, MW.out, MZ.out, ME.out⟩
              case measure => simp [intOf]; omega
            · have y8 : ((k : Int) == (hn : Int)) = false := beq_eq_false_iff_ne.2 (by omega)
              go_wp2_with fail
              go_roundw
              case rel => exact ⟨k + 1, A2, R2, Ah, Rh, by omega, by go_num, HT2.out, HT.out, KA.out, KH.out, KW.out, KZ.out, HE.out⟩
              case measure => simp [intOf]; omega
          ·
            have HC1 := Lib.hid hC1; have HC2 := Lib.hid hC2
            clear hC1 hC2
            go_cut [10, 11, 12] from 22 to 127 (fun s10 s11 s12 wx => ∃ bx, s10 = .pointer (some ⟨bx, 0, none⟩) ∧ s11 = .int .u16 0 ∧ s12 = .bool false ∧ w.heap.size + 1 + 1 + 1 < bx ∧ Blk wx bx 78 A2 ∧ Blk wx w.heap.size 78 A1 ∧ Blk wx (w.heap.size + 1) 78 Ah ∧ Blk wx (w.heap.size + 1 + 1) 82 R1 ∧ Blk wx (w.heap.size + 1 + 1 + 1) 82 Rh ∧ Ext w wx)
            case first =>
              have HCC : Hid (∀ w', SE wi w' → Ext w w') := Lib.hid (fun w' h => ext_trans HE.out h)
              have KX0 := Lib.hid KA.out
              have KA := Lib.hid KA.out.drew; have KH := Lib.hid KH.out.drew; have KW := Lib.hid KW.out.drew; have KZ := Lib.hid KZ.out.drew; have HE := Lib.hid (ext_drew HE.out)
              have hsz3 := KZ.out.lt
              have HX0 := Lib.hid (show SE wi wi.drew from ext_drew (Ext.rfl' wi))
              refine wp_region_held_drew (S := SE wi) hmx HX0.out (fun _ => ?_)
              refine wpAnyH_take (i := 0) (oi := { dst := some 34, op := Go.Op.load 78 (Go.Operand.tmp 5), type := 78, pos := "law.go:66", after := #[], guard := none }) rfl (by kernel_rfl) (by kernel_rfl) (by kernel_rfl) (fun _ _ _ h => h) (yields_row (by rfl) 78 (.tmp 5) rfl w.heap.size rfl 78 A1 _ (fun _ h => KX0.out.ext h) Try.underlying78 rfl (by rw [HZA1.out]; exact sizeA)) HX0.out ?_
              (try simp only [Act.put, List.setIfInBounds_toArray, List.set_cons_zero, List.set_cons_succ])
              (refine wpAnyH_take (i := 1) (oi := { dst := some 35, op := Go.Op.move (Go.Operand.tmp 0), type := 73, pos := "law.go:66", after := #[], guard := none }) (v := ?_) rfl (by kernel_rfl) (by kernel_rfl) (by kernel_rfl) (fun _ _ _ h => h) (Or.inl ⟨by rfl, ?_⟩) HX0.out ?_); rotate_left
              · (intro w' hSw; obtain ⟨c0, c1, c2⟩ := HCE.out w' (HCC.out w' hSw); go_simp; try with_reducible rfl)
              (try simp only [Act.put, List.setIfInBounds_toArray, List.set_cons_zero, List.set_cons_succ])
              (refine wpAnyH_take (i := 2) (oi := { dst := some 36, op := Go.Op.move (Go.Operand.tmp 9), type := 3, pos := "law.go:66", after := #[], guard := none }) (v := ?_) rfl (by kernel_rfl) (by kernel_rfl) (by kernel_rfl) (fun _ _ _ h => h) (Or.inl ⟨by rfl, ?_⟩) HX0.out ?_); rotate_left
              · (intro w' hSw; obtain ⟨c0, c1, c2⟩ := HCE.out w' (HCC.out w' hSw); go_simp; try with_reducible rfl)
              (try simp only [Act.put, List.setIfInBounds_toArray, List.set_cons_zero, List.set_cons_succ])
              (refine wpAnyH_take (i := 3) (oi := { dst := some 37, op := Go.Op.indexAddr 73 (Go.Operand.tmp 35) (Go.Operand.tmp 36), type := 0, pos := "law.go:66", after := #[{ on := 1, ground := Go.Ground.data }, { on := 2, ground := Go.Ground.data }], guard := none }) (v := ?_) rfl (by kernel_rfl) (by kernel_rfl) (by kernel_rfl) (fun _ _ _ h => h) (Or.inl ⟨by rfl, ?_⟩) HX0.out ?_); rotate_left
              · (intro w' hSw; obtain ⟨c0, c1, c2⟩ := HCE.out w' (HCC.out w' hSw); go_simp; try with_reducible rfl)
              (try simp only [Act.put, List.setIfInBounds_toArray, List.set_cons_zero, List.set_cons_succ])
              (refine wpAnyH_take (i := 4) (oi := { dst := some 38, op := Go.Op.fieldAddr 84 (Go.Operand.tmp 37) 2, type := 0, pos := "law.go:66", after := #[{ on := 3, ground := Go.Ground.data }], guard := none }) (v := ?_) rfl (by kernel_rfl) (by kernel_rfl) (by kernel_rfl) (fun _ _ _ h => h) (Or.inl ⟨by rfl, ?_⟩) HX0.out ?_); rotate_left
              · (intro w' hSw; obtain ⟨c0, c1, c2⟩ := HCE.out w' (HCC.out w' hSw); go_simp; try with_reducible rfl)
              (try simp only [Act.put, List.setIfInBounds_toArray, List.set_cons_zero, List.set_cons_succ])
              (refine wpAnyH_take (i := 5) (oi := { dst := some 39, op := Go.Op.load 3 (Go.Operand.tmp 38), type := 3, pos := "law.go:66", after := #[{ on := 4, ground := Go.Ground.data }], guard := none }) (v := ?_) rfl (by kernel_rfl) (by kernel_rfl) (by kernel_rfl) (fun _ _ _ h => h) (Or.inl ⟨by rfl, ?_⟩) HX0.out ?_); rotate_left
              · (intro w' hSw; obtain ⟨c0, c1, c2⟩ := HCE.out w' (HCC.out w' hSw); go_simp; try with_reducible rfl)
              (try simp only [Act.put, List.setIfInBounds_toArray, List.set_cons_zero, List.set_cons_succ])
              refine wpAnyH_ready (rs := [6, 11]) (by kernel_rfl) (by simp) ?_
              refine AllReadyH.cons (o := { dst := some 40, op := Go.Op.call { callee := Go.Callee.value (Go.Operand.func 54), args := #[Go.Operand.tmp 34, Go.Operand.tmp 39], argTypes := #[78, 3] }, type := 89, pos := "law.go:66", after := #[{ on := 0, ground := Go.Ground.data }, { on := 5, ground := Go.Ground.data }], guard := none }) (by kernel_rfl) (fun K hK => ?_) (AllReadyH.cons (o := { dst := some 10, op := Go.Op.alloc 78, type := 0, pos := "law.go:66", after := #[], guard := none }) (by kernel_rfl) (fun K hK => ?_) AllReadyH.nil)
              ·
                go_simp
                refine (HC1.out _).mono ?_
                rintro e x6 ⟨rfl, b9⟩
                have KA := Lib.hid (KA.out.ext b9); have KH := Lib.hid (KH.out.ext b9); have KW := Lib.hid (KW.out.ext b9); have KZ := Lib.hid (KZ.out.ext b9); have HE := Lib.hid (ext_trans HE.out b9)
                have HX24 := Lib.hid (show SE wi x6 from ext_trans HX0.out b9)
                have hszHX24 := b9.size
                clear b9
                (try go_wp2_with fail)
                refine hK.out _ _ HX24.out (fun _ => ?_)
                clear hK K
                (try simp only [Act.put, List.setIfInBounds_toArray, List.set_cons_zero, List.set_cons_succ])
                (refine wpAnyH_take (i := 7) (oi := { dst := some 33, op := Go.Op.move (Go.Operand.tmp 40), type := 89, pos := "law.go:66", after := #[{ on := 6, ground := Go.Ground.data }], guard := none }) (v := ?_) rfl (by kernel_rfl) (by kernel_rfl) (by kernel_rfl) (fun _ _ _ h => h) (Or.inl ⟨by rfl, ?_⟩) HX24.out ?_); rotate_left
                · (intro w' hSw; obtain ⟨c0, c1, c2⟩ := HCE.out w' (HCC.out w' hSw); go_simp; try with_reducible rfl)
                (try simp only [Act.put, List.setIfInBounds_toArray, List.set_cons_zero, List.set_cons_succ])
                (refine wpAnyH_take (i := 8) (oi := { dst := some 41, op := Go.Op.extract (Go.Operand.tmp 33) 0, type := 78, pos := "law.go:66", after := #[{ on := 7, ground := Go.Ground.data }], guard := none }) (v := ?_) rfl (by kernel_rfl) (by kernel_rfl) (by kernel_rfl) (fun _ _ _ h => h) (Or.inl ⟨by rfl, ?_⟩) HX24.out ?_); rotate_left
                · (intro w' hSw; obtain ⟨c0, c1, c2⟩ := HCE.out w' (HCC.out w' hSw); go_simp; try with_reducible rfl)
                (try simp only [Act.put, List.setIfInBounds_toArray, List.set_cons_zero, List.set_cons_succ])
                (refine wpAnyH_take (i := 9) (oi := { dst := some 42, op := Go.Op.extract (Go.Operand.tmp 33) 1, type := 43, pos := "law.go:66", after := #[{ on := 7, ground := Go.Ground.data }, { on := 12, ground := Go.Ground.gcOnly Go.Departure.lateStores }], guard := none }) (v := ?_) rfl (by kernel_rfl) (by kernel_rfl) (by kernel_rfl) (fun _ _ _ h => h) (Or.inl ⟨by rfl, ?_⟩) HX24.out ?_); rotate_left
                · (intro w' hSw; obtain ⟨c0, c1, c2⟩ := HCE.out w' (HCC.out w' hSw); go_simp; try with_reducible rfl)
                (try simp only [Act.put, List.setIfInBounds_toArray, List.set_cons_zero, List.set_cons_succ])
                (refine wpAnyH_take (i := 10) (oi := { dst := some 43, op := Go.Op.extract (Go.Operand.tmp 33) 2, type := 4, pos := "law.go:66", after := #[{ on := 7, ground := Go.Ground.data }, { on := 13, ground := Go.Ground.gcOnly Go.Departure.lateStores }], guard := none }) (v := ?_) rfl (by kernel_rfl) (by kernel_rfl) (by kernel_rfl) (fun _ _ _ h => h) (Or.inl ⟨by rfl, ?_⟩) HX24.out ?_); rotate_left
                · (intro w' hSw; obtain ⟨c0, c1, c2⟩ := HCE.out w' (HCC.out w' hSw); go_simp; try with_reducible rfl)
                (try simp only [Act.put, List.setIfInBounds_toArray, List.set_cons_zero, List.set_cons_succ])
                refine wpAnyH_ready (rs := [11]) (by kernel_rfl) (by simp) ?_
                refine AllReadyH.cons (o := { dst := some 10, op := Go.Op.alloc 78, type := 0, pos := "law.go:66", after := #[], guard := none }) (by kernel_rfl) (fun K hK => ?_) AllReadyH.nil
                refine want (by rfl) ?_
                refine wp_allocZ 78 rfl ZA HZA0.out ?_
                have KN := Lib.hid (Blk.new x6 78 ZA)
                have hnn : wi.heap.size ≤ (x6).heap.size := by have := HX24.out.size; exact this
                have KA := Lib.hid (KA.out.alloc (.cells ZA 78))
                have KH := Lib.hid (KH.out.alloc (.cells ZA 78))
                have KW := Lib.hid (KW.out.alloc (.cells ZA 78))
                have KZ := Lib.hid (KZ.out.alloc (.cells ZA 78))
                have HE := Lib.hid (ext_alloc HE.out (.cells ZA 78))
                have HX44 := Lib.hid (show SE wi _ from ext_alloc HX24.out (.cells ZA 78))
                refine hK.out _ _ HX44.out (fun _ => ?_)
                clear hK K
                (try simp only [Act.put, List.setIfInBounds_toArray, List.set_cons_zero, List.set_cons_succ])
                refine wpAnyH_ready (rs := [12]) (by kernel_rfl) (by simp) ?_
                refine AllReadyH.cons (o := { dst := none, op := Go.Op.store 78 (Go.Operand.tmp 10) (Go.Operand.tmp 41), type := 0, pos := "law.go:66", after := #[{ on := 11, ground := Go.Ground.data }, { on := 8, ground := Go.Ground.data }, { on := 6, ground := Go.Ground.chain }, { on := 0, ground := Go.Ground.phase }, { on := 1, ground := Go.Ground.phase }, { on := 2, ground := Go.Ground.phase }, { on := 3, ground := Go.Ground.phase }, { on := 4, ground := Go.Ground.phase }, { on := 5, ground := Go.Ground.phase }, { on := 6, ground := Go.Ground.phase }, { on := 7, ground := Go.Ground.phase }, { on := 8, ground := Go.Ground.phase }, { on := 9, ground := Go.Ground.textOnly Go.Departure.lateStores }, { on := 10, ground := Go.Ground.textOnly Go.Departure.lateStores }, { on := 11, ground := Go.Ground.phase }], guard := none }) (by kernel_rfl) (fun K hK => ?_) AllReadyH.nil
                refine want (by rfl) ?_
                refine wp_store_row 78 (.tmp 10) (.tmp 41) rfl ((x6).heap.size) A2 rfl rfl 78 ZA KN.out (by rw [HZA2.out]; exact sizeA) (by rw [HZZA.out, HZA2.out]) HOA2.out ?_
                have hnb : w.heap.size + 1 + 1 + 1 < (x6).heap.size := by have := hnn; first | omega | (have h9 : wi.drew.heap.size = wi.heap.size := rfl; omega)
                have KA := Lib.hid (setRow_far (h := (x6).heap.size) (ds := A2) KA.out (by omega))
                have KH := Lib.hid (setRow_far (h := (x6).heap.size) (ds := A2) KH.out (by omega))
                have KW := Lib.hid (setRow_far (h := (x6).heap.size) (ds := A2) KW.out (by omega))
                have KZ := Lib.hid (setRow_far (h := (x6).heap.size) (ds := A2) KZ.out (by omega))
                have KN := Lib.hid (setRow_blk (cs := A2) KN.out)
                have HE := Lib.hid (ext_setRow HE.out (show w.heap.size ≤ (x6).heap.size by omega) A2)
                have HX48 := Lib.hid (show SE wi _ from ext_setRow HX44.out hnn A2)
                refine hK.out _ _ HX48.out (fun _ => ?_)
                clear hK K
                (try simp only [Act.put, List.setIfInBounds_toArray, List.set_cons_zero, List.set_cons_succ])
                (refine wpAnyH_take (i := 13) (oi := { dst := some 11, op := Go.Op.assign (Go.Operand.tmp 42), type := 43, pos := "law.go:66", after := #[{ on := 9, ground := Go.Ground.data }, { on := 12, ground := Go.Ground.chain }, { on := 0, ground := Go.Ground.phase }, { on := 1, ground := Go.Ground.phase }, { on := 2, ground := Go.Ground.phase }, { on := 3, ground := Go.Ground.phase }, { on := 4, ground := Go.Ground.phase }, { on := 5, ground := Go.Ground.phase }, { on := 6, ground := Go.Ground.phase }, { on := 7, ground := Go.Ground.phase }, { on := 8, ground := Go.Ground.phase }, { on := 9, ground := Go.Ground.phase }, { on := 10, ground := Go.Ground.textOnly Go.Departure.lateStores }, { on := 11, ground := Go.Ground.phase }, { on := 12, ground := Go.Ground.phase }], guard := none }) (v := ?_) rfl (by kernel_rfl) (by kernel_rfl) (by kernel_rfl) (fun _ _ _ h => h) (Or.inl ⟨by rfl, ?_⟩) HX48.out ?_); rotate_left
                · (intro w' hSw; obtain ⟨c0, c1, c2⟩ := HCE.out w' (HCC.out w' hSw); go_simp; try with_reducible rfl)
                (try simp only [Act.put, List.setIfInBounds_toArray, List.set_cons_zero, List.set_cons_succ])
                (refine wpAnyH_take (i := 14) (oi := { dst := some 12, op := Go.Op.assign (Go.Operand.tmp 43), type := 4, pos := "law.go:66", after := #[{ on := 10, ground := Go.Ground.data }, { on := 13, ground := Go.Ground.chain }, { on := 0, ground := Go.Ground.phase }, { on := 1, ground := Go.Ground.phase }, { on := 2, ground := Go.Ground.phase }, { on := 3, ground := Go.Ground.phase }, { on := 4, ground := Go.Ground.phase }, { on := 5, ground := Go.Ground.phase }, { on := 6, ground := Go.Ground.phase }, { on := 7, ground := Go.Ground.phase }, { on := 8, ground := Go.Ground.phase }, { on := 9, ground := Go.Ground.phase }, { on := 10, ground := Go.Ground.phase }, { on := 11, ground := Go.Ground.phase }, { on := 12, ground := Go.Ground.phase }, { on := 13, ground := Go.Ground.phase }], guard := none }) (v := ?_) rfl (by kernel_rfl) (by kernel_rfl) (by kernel_rfl) (fun _ _ _ h => h) (Or.inl ⟨by rfl, ?_⟩) HX48.out ?_); rotate_left
                · (intro w' hSw; obtain ⟨c0, c1, c2⟩ := HCE.out w' (HCC.out w' hSw); go_simp; try with_reducible rfl)
                (try simp only [Act.put, List.setIfInBounds_toArray, List.set_cons_zero, List.set_cons_succ])
                refine wpAnyH_done (by kernel_rfl) ?_ _
                go_wp2_with fail
                go_meet
                have h9 : wi.drew.heap.size = wi.heap.size := rfl
                exact ⟨_, rfl, rfl, rfl, by omega, KN.out, KA.out, KH.out, KW.out, KZ.out, HE.out⟩
              ·
                refine want (by rfl) ?_
                refine wp_allocZ 78 rfl ZA HZA0.out ?_
                have KN := Lib.hid (Blk.new wi.drew 78 ZA)
                have hnn : wi.heap.size ≤ (wi.drew).heap.size := by have := HX0.out.size; exact this
                have KA := Lib.hid (KA.out.alloc (.cells ZA 78))
                have KH := Lib.hid (KH.out.alloc (.cells ZA 78))
                have KW := Lib.hid (KW.out.alloc (.cells ZA 78))
                have KZ := Lib.hid (KZ.out.alloc (.cells ZA 78))
                have HE := Lib.hid (ext_alloc HE.out (.cells ZA 78))
                have HX29 := Lib.hid (show SE wi _ from ext_alloc HX0.out (.cells ZA 78))
                refine hK.out _ _ HX29.out (fun _ => ?_)
                clear hK K
                (try simp only [Act.put, List.setIfInBounds_toArray, List.set_cons_zero, List.set_cons_succ])
                refine wpAnyH_ready (rs := [6]) (by kernel_rfl) (by simp) ?_
                refine AllReadyH.cons (o := { dst := some 40, op := Go.Op.call { callee := Go.Callee.value (Go.Operand.func 54), args := #[Go.Operand.tmp 34, Go.Operand.tmp 39], argTypes := #[78, 3] }, type := 89, pos := "law.go:66", after := #[{ on := 0, ground := Go.Ground.data }, { on := 5, ground := Go.Ground.data }], guard := none }) (by kernel_rfl) (fun K hK => ?_) AllReadyH.nil
                go_simp
                refine (HC1.out _).mono ?_
                rintro e x7 ⟨rfl, b9⟩
                have KA := Lib.hid (KA.out.ext b9); have KH := Lib.hid (KH.out.ext b9); have KW := Lib.hid (KW.out.ext b9); have KZ := Lib.hid (KZ.out.ext b9); have KN := Lib.hid (KN.out.ext b9); have HE := Lib.hid (ext_trans HE.out b9)
                have HX27 := Lib.hid (show SE wi x7 from ext_trans HX29.out b9)
                have hszHX27 := b9.size
                clear b9
                (try go_wp2_with fail)
                refine hK.out _ _ HX27.out (fun _ => ?_)
                clear hK K
                (try simp only [Act.put, List.setIfInBounds_toArray, List.set_cons_zero, List.set_cons_succ])
                (refine wpAnyH_take (i := 7) (oi := { dst := some 33, op := Go.Op.move (Go.Operand.tmp 40), type := 89, pos := "law.go:66", after := #[{ on := 6, ground := Go.Ground.data }], guard := none }) (v := ?_) rfl (by kernel_rfl) (by kernel_rfl) (by kernel_rfl) (fun _ _ _ h => h) (Or.inl ⟨by rfl, ?_⟩) HX27.out ?_); rotate_left
                · (intro w' hSw; obtain ⟨c0, c1, c2⟩ := HCE.out w' (HCC.out w' hSw); go_simp; try with_reducible rfl)
                (try simp only [Act.put, List.setIfInBounds_toArray, List.set_cons_zero, List.set_cons_succ])
                (refine wpAnyH_take (i := 8) (oi := { dst := some 41, op := Go.Op.extract (Go.Operand.tmp 33) 0, type := 78, pos := "law.go:66", after := #[{ on := 7, ground := Go.Ground.data }], guard := none }) (v := ?_) rfl (by kernel_rfl) (by kernel_rfl) (by kernel_rfl) (fun _ _ _ h => h) (Or.inl ⟨by rfl, ?_⟩) HX27.out ?_); rotate_left
                · (intro w' hSw; obtain ⟨c0, c1, c2⟩ := HCE.out w' (HCC.out w' hSw); go_simp; try with_reducible rfl)
                (try simp only [Act.put, List.setIfInBounds_toArray, List.set_cons_zero, List.set_cons_succ])
                (refine wpAnyH_take (i := 9) (oi := { dst := some 42, op := Go.Op.extract (Go.Operand.tmp 33) 1, type := 43, pos := "law.go:66", after := #[{ on := 7, ground := Go.Ground.data }, { on := 12, ground := Go.Ground.gcOnly Go.Departure.lateStores }], guard := none }) (v := ?_) rfl (by kernel_rfl) (by kernel_rfl) (by kernel_rfl) (fun _ _ _ h => h) (Or.inl ⟨by rfl, ?_⟩) HX27.out ?_); rotate_left
                · (intro w' hSw; obtain ⟨c0, c1, c2⟩ := HCE.out w' (HCC.out w' hSw); go_simp; try with_reducible rfl)
                (try simp only [Act.put, List.setIfInBounds_toArray, List.set_cons_zero, List.set_cons_succ])
                (refine wpAnyH_take (i := 10) (oi := { dst := some 43, op := Go.Op.extract (Go.Operand.tmp 33) 2, type := 4, pos := "law.go:66", after := #[{ on := 7, ground := Go.Ground.data }, { on := 13, ground := Go.Ground.gcOnly Go.Departure.lateStores }], guard := none }) (v := ?_) rfl (by kernel_rfl) (by kernel_rfl) (by kernel_rfl) (fun _ _ _ h => h) (Or.inl ⟨by rfl, ?_⟩) HX27.out ?_); rotate_left
                · (intro w' hSw; obtain ⟨c0, c1, c2⟩ := HCE.out w' (HCC.out w' hSw); go_simp; try with_reducible rfl)
                (try simp only [Act.put, List.setIfInBounds_toArray, List.set_cons_zero, List.set_cons_succ])
                refine wpAnyH_ready (rs := [12]) (by kernel_rfl) (by simp) ?_
                refine AllReadyH.cons (o := { dst := none, op := Go.Op.store 78 (Go.Operand.tmp 10) (Go.Operand.tmp 41), type := 0, pos := "law.go:66", after := #[{ on := 11, ground := Go.Ground.data }, { on := 8, ground := Go.Ground.data }, { on := 6, ground := Go.Ground.chain }, { on := 0, ground := Go.Ground.phase }, { on := 1, ground := Go.Ground.phase }, { on := 2, ground := Go.Ground.phase }, { on := 3, ground := Go.Ground.phase }, { on := 4, ground := Go.Ground.phase }, { on := 5, ground := Go.Ground.phase }, { on := 6, ground := Go.Ground.phase }, { on := 7, ground := Go.Ground.phase }, { on := 8, ground := Go.Ground.phase }, { on := 9, ground := Go.Ground.textOnly Go.Departure.lateStores }, { on := 10, ground := Go.Ground.textOnly Go.Departure.lateStores }, { on := 11, ground := Go.Ground.phase }], guard := none }) (by kernel_rfl) (fun K hK => ?_) AllReadyH.nil
                refine want (by rfl) ?_
                refine wp_store_row 78 (.tmp 10) (.tmp 41) rfl ((wi.drew).heap.size) A2 rfl rfl 78 ZA KN.out (by rw [HZA2.out]; exact sizeA) (by rw [HZZA.out, HZA2.out]) HOA2.out ?_
                have hnb : w.heap.size + 1 + 1 + 1 < (wi.drew).heap.size := by have := hnn; first | omega | (have h9 : wi.drew.heap.size = wi.heap.size := rfl; omega)
                have KA := Lib.hid (setRow_far (h := (wi.drew).heap.size) (ds := A2) KA.out (by omega))
                have KH := Lib.hid (setRow_far (h := (wi.drew).heap.size) (ds := A2) KH.out (by omega))
                have KW := Lib.hid (setRow_far (h := (wi.drew).heap.size) (ds := A2) KW.out (by omega))
                have KZ := Lib.hid (setRow_far (h := (wi.drew).heap.size) (ds := A2) KZ.out (by omega))
                have KN := Lib.hid (setRow_blk (cs := A2) KN.out)
                have HE := Lib.hid (ext_setRow HE.out (show w.heap.size ≤ (wi.drew).heap.size by omega) A2)
                have HX48 := Lib.hid (show SE wi _ from ext_setRow HX27.out hnn A2)
                refine hK.out _ _ HX48.out (fun _ => ?_)
                clear hK K
                (try simp only [Act.put, List.setIfInBounds_toArray, List.set_cons_zero, List.set_cons_succ])
                (refine wpAnyH_take (i := 13) (oi := { dst := some 11, op := Go.Op.assign (Go.Operand.tmp 42), type := 43, pos := "law.go:66", after := #[{ on := 9, ground := Go.Ground.data }, { on := 12, ground := Go.Ground.chain }, { on := 0, ground := Go.Ground.phase }, { on := 1, ground := Go.Ground.phase }, { on := 2, ground := Go.Ground.phase }, { on := 3, ground := Go.Ground.phase }, { on := 4, ground := Go.Ground.phase }, { on := 5, ground := Go.Ground.phase }, { on := 6, ground := Go.Ground.phase }, { on := 7, ground := Go.Ground.phase }, { on := 8, ground := Go.Ground.phase }, { on := 9, ground := Go.Ground.phase }, { on := 10, ground := Go.Ground.textOnly Go.Departure.lateStores }, { on := 11, ground := Go.Ground.phase }, { on := 12, ground := Go.Ground.phase }], guard := none }) (v := ?_) rfl (by kernel_rfl) (by kernel_rfl) (by kernel_rfl) (fun _ _ _ h => h) (Or.inl ⟨by rfl, ?_⟩) HX48.out ?_); rotate_left
                · (intro w' hSw; obtain ⟨c0, c1, c2⟩ := HCE.out w' (HCC.out w' hSw); go_simp; try with_reducible rfl)
                (try simp only [Act.put, List.setIfInBounds_toArray, List.set_cons_zero, List.set_cons_succ])
                (refine wpAnyH_take (i := 14) (oi := { dst := some 12, op := Go.Op.assign (Go.Operand.tmp 43), type := 4, pos := "law.go:66", after := #[{ on := 10, ground := Go.Ground.data }, { on := 13, ground := Go.Ground.chain }, { on := 0, ground := Go.Ground.phase }, { on := 1, ground := Go.Ground.phase }, { on := 2, ground := Go.Ground.phase }, { on := 3, ground := Go.Ground.phase }, { on := 4, ground := Go.Ground.phase }, { on := 5, ground := Go.Ground.phase }, { on := 6, ground := Go.Ground.phase }, { on := 7, ground := Go.Ground.phase }, { on := 8, ground := Go.Ground.phase }, { on := 9, ground := Go.Ground.phase }, { on := 10, ground := Go.Ground.phase }, { on := 11, ground := Go.Ground.phase }, { on := 12, ground := Go.Ground.phase }, { on := 13, ground := Go.Ground.phase }], guard := none }) (v := ?_) rfl (by kernel_rfl) (by kernel_rfl) (by kernel_rfl) (fun _ _ _ h => h) (Or.inl ⟨by rfl, ?_⟩) HX48.out ?_); rotate_left
                · (intro w' hSw; obtain ⟨c0, c1, c2⟩ := HCE.out w' (HCC.out w' hSw); go_simp; try with_reducible rfl)
                (try simp only [Act.put, List.setIfInBounds_toArray, List.set_cons_zero, List.set_cons_succ])
                refine wpAnyH_done (by kernel_rfl) ?_ _
                go_wp2_with fail
                go_meet
                have h9 : wi.drew.heap.size = wi.heap.size := rfl
                exact ⟨_, rfl, rfl, rfl, by omega, KN.out, KA.out, KH.out, KW.out, KZ.out, HE.out⟩
            case rest =>
            obtain ⟨bn, rfl, rfl, rfl, hb_bn, kn, ka, kh, kw, kz, he⟩ := hcut
            obtain ⟨wa, hwl⟩ : ∃ W9 : World, W9 = wc := ⟨_, rfl⟩
            rw [← hwl] at kn ka kh kw kz he ⊢
            clear hwl KA KH KW KZ HE
            have KBN := Lib.hid kn; have KA := Lib.hid ka; have KH := Lib.hid kh; have KW := Lib.hid kw; have KZ := Lib.hid kz; have HE := Lib.hid he
            clear kn ka kh kw kz he
            have KP := KBN
            clear KBN
            go_wp2_with fail
            go_cut [13, 14] from 22 to 127 (fun s13 s14 wx => ∃ bx, s13 = .pointer (some ⟨bx, 0, none⟩) ∧ s14 = .int .i64 (-1) ∧ w.heap.size + 1 + 1 + 1 < bx ∧ Blk wx bx 82 R2 ∧ Blk wx w.heap.size 78 A1 ∧ Blk wx (w.heap.size + 1) 78 Ah ∧ Blk wx (w.heap.size + 1 + 1) 82 R1 ∧ Blk wx (w.heap.size + 1 + 1 + 1) 82 Rh ∧ Blk wx bn 78 A2 ∧ bn ≠ bx ∧ Ext w wx)
            case first =>
              have HCC : Hid (∀ w', SE wa w' → Ext w w') := Lib.hid (fun w' h => ext_trans HE.out h)
              have KX0 := Lib.hid KW.out
              have KA := Lib.hid KA.out.drew; have KH := Lib.hid KH.out.drew; have KW := Lib.hid KW.out.drew; have KZ := Lib.hid KZ.out.drew; have KP := Lib.hid KP.out.drew; have HE := Lib.hid (ext_drew HE.out)
              have hsz3 := KZ.out.lt; have hsz_P := KP.out.lt
              have HX0 := Lib.hid (show SE wa wa.drew from ext_drew (Ext.rfl' wa))
              refine wp_region_held_drew (S := SE wa) hmx HX0.out (fun _ => ?_)
              refine wpAnyH_take (i := 0) (oi := { dst := some 45, op := Go.Op.load 82 (Go.Operand.tmp 7), type := 82, pos := "law.go:67", after := #[], guard := none }) rfl (by kernel_rfl) (by kernel_rfl) (by kernel_rfl) (fun _ _ _ h => h) (yields_row (by rfl) 82 (.tmp 7) rfl (w.heap.size + 1 + 1) rfl 82 R1 _ (fun _ h => KX0.out.ext h) Try.underlying82 rfl (by rw [HZR1.out]; exact sizeR)) HX0.out ?_
              (try simp only [Act.put, List.setIfInBounds_toArray, List.set_cons_zero, List.set_cons_succ])
              (refine wpAnyH_take (i := 1) (oi := { dst := some 46, op := Go.Op.move (Go.Operand.tmp 0), type := 73, pos := "law.go:67", after := #[], guard := none }) (v := ?_) rfl (by kernel_rfl) (by kernel_rfl) (by kernel_rfl) (fun _ _ _ h => h) (Or.inl ⟨by rfl, ?_⟩) HX0.out ?_); rotate_left
              · (intro w' hSw; obtain ⟨c0, c1, c2⟩ := HCE.out w' (HCC.out w' hSw); go_simp; try with_reducible rfl)
              (try simp only [Act.put, List.setIfInBounds_toArray, List.set_cons_zero, List.set_cons_succ])
              (refine wpAnyH_take (i := 2) (oi := { dst := some 47, op := Go.Op.move (Go.Operand.tmp 9), type := 3, pos := "law.go:67", after := #[], guard := none }) (v := ?_) rfl (by kernel_rfl) (by kernel_rfl) (by kernel_rfl) (fun _ _ _ h => h) (Or.inl ⟨by rfl, ?_⟩) HX0.out ?_); rotate_left
              · (intro w' hSw; obtain ⟨c0, c1, c2⟩ := HCE.out w' (HCC.out w' hSw); go_simp; try with_reducible rfl)
              (try simp only [Act.put, List.setIfInBounds_toArray, List.set_cons_zero, List.set_cons_succ])
              (refine wpAnyH_take (i := 3) (oi := { dst := some 48, op := Go.Op.indexAddr 73 (Go.Operand.tmp 46) (Go.Operand.tmp 47), type := 0, pos := "law.go:67", after := #[{ on := 1, ground := Go.Ground.data }, { on := 2, ground := Go.Ground.data }], guard := none }) (v := ?_) rfl (by kernel_rfl) (by kernel_rfl) (by kernel_rfl) (fun _ _ _ h => h) (Or.inl ⟨by rfl, ?_⟩) HX0.out ?_); rotate_left
              · (intro w' hSw; obtain ⟨c0, c1, c2⟩ := HCE.out w' (HCC.out w' hSw); go_simp; try with_reducible rfl)
              (try simp only [Act.put, List.setIfInBounds_toArray, List.set_cons_zero, List.set_cons_succ])
              (refine wpAnyH_take (i := 4) (oi := { dst := some 49, op := Go.Op.fieldAddr 84 (Go.Operand.tmp 48) 2, type := 0, pos := "law.go:67", after := #[{ on := 3, ground := Go.Ground.data }], guard := none }) (v := ?_) rfl (by kernel_rfl) (by kernel_rfl) (by kernel_rfl) (fun _ _ _ h => h) (Or.inl ⟨by rfl, ?_⟩) HX0.out ?_); rotate_left
              · (intro w' hSw; obtain ⟨c0, c1, c2⟩ := HCE.out w' (HCC.out w' hSw); go_simp; try with_reducible rfl)
              (try simp only [Act.put, List.setIfInBounds_toArray, List.set_cons_zero, List.set_cons_succ])
              (refine wpAnyH_take (i := 5) (oi := { dst := some 50, op := Go.Op.load 3 (Go.Operand.tmp 49), type := 3, pos := "law.go:67", after := #[{ on := 4, ground := Go.Ground.data }], guard := none }) (v := ?_) rfl (by kernel_rfl) (by kernel_rfl) (by kernel_rfl) (fun _ _ _ h => h) (Or.inl ⟨by rfl, ?_⟩) HX0.out ?_); rotate_left
              · (intro w' hSw; obtain ⟨c0, c1, c2⟩ := HCE.out w' (HCC.out w' hSw); go_simp; try with_reducible rfl)
              (try simp only [Act.put, List.setIfInBounds_toArray, List.set_cons_zero, List.set_cons_succ])
              refine wpAnyH_ready (rs := [6, 10]) (by kernel_rfl) (by simp) ?_
              refine AllReadyH.cons (o := { dst := some 51, op := Go.Op.call { callee := Go.Callee.value (Go.Operand.func 55), args := #[Go.Operand.tmp 45, Go.Operand.tmp 50], argTypes := #[82, 3] }, type := 91, pos := "law.go:67", after := #[{ on := 0, ground := Go.Ground.data }, { on := 5, ground := Go.Ground.data }], guard := none }) (by kernel_rfl) (fun K hK => ?_) (AllReadyH.cons (o := { dst := some 13, op := Go.Op.alloc 82, type := 0, pos := "law.go:67", after := #[], guard := none }) (by kernel_rfl) (fun K hK => ?_) AllReadyH.nil)
              ·
                go_simp
                refine (HC2.out _).mono ?_
                rintro e x6 ⟨rfl, b9⟩
                have KA := Lib.hid (KA.out.ext b9); have KH := Lib.hid (KH.out.ext b9); have KW := Lib.hid (KW.out.ext b9); have KZ := Lib.hid (KZ.out.ext b9); have KP := Lib.hid (KP.out.ext b9); have HE := Lib.hid (ext_trans HE.out b9)
                have HX24 := Lib.hid (show SE wa x6 from ext_trans HX0.out b9)
                have hszHX24 := b9.size
                clear b9
                (try go_wp2_with fail)
                refine hK.out _ _ HX24.out (fun _ => ?_)
                clear hK K
                (try simp only [Act.put, List.setIfInBounds_toArray, List.set_cons_zero, List.set_cons_succ])
                (refine wpAnyH_take (i := 7) (oi := { dst := some 44, op := Go.Op.move (Go.Operand.tmp 51), type := 91, pos := "law.go:67", after := #[{ on := 6, ground := Go.Ground.data }], guard := none }) (v := ?_) rfl (by kernel_rfl) (by kernel_rfl) (by kernel_rfl) (fun _ _ _ h => h) (Or.inl ⟨by rfl, ?_⟩) HX24.out ?_); rotate_left
                · (intro w' hSw; obtain ⟨c0, c1, c2⟩ := HCE.out w' (HCC.out w' hSw); go_simp; try with_reducible rfl)
                (try simp only [Act.put, List.setIfInBounds_toArray, List.set_cons_zero, List.set_cons_succ])
                (refine wpAnyH_take (i := 8) (oi := { dst := some 52, op := Go.Op.extract (Go.Operand.tmp 44) 0, type := 82, pos := "law.go:67", after := #[{ on := 7, ground := Go.Ground.data }], guard := none }) (v := ?_) rfl (by kernel_rfl) (by kernel_rfl) (by kernel_rfl) (fun _ _ _ h => h) (Or.inl ⟨by rfl, ?_⟩) HX24.out ?_); rotate_left
                · (intro w' hSw; obtain ⟨c0, c1, c2⟩ := HCE.out w' (HCC.out w' hSw); go_simp; try with_reducible rfl)
                (try simp only [Act.put, List.setIfInBounds_toArray, List.set_cons_zero, List.set_cons_succ])
                (refine wpAnyH_take (i := 9) (oi := { dst := some 53, op := Go.Op.extract (Go.Operand.tmp 44) 1, type := 3, pos := "law.go:67", after := #[{ on := 7, ground := Go.Ground.data }, { on := 11, ground := Go.Ground.gcOnly Go.Departure.lateStores }], guard := none }) (v := ?_) rfl (by kernel_rfl) (by kernel_rfl) (by kernel_rfl) (fun _ _ _ h => h) (Or.inl ⟨by rfl, ?_⟩) HX24.out ?_); rotate_left
                · (intro w' hSw; obtain ⟨c0, c1, c2⟩ := HCE.out w' (HCC.out w' hSw); go_simp; try with_reducible rfl)
                (try simp only [Act.put, List.setIfInBounds_toArray, List.set_cons_zero, List.set_cons_succ])
                refine wpAnyH_ready (rs := [10]) (by kernel_rfl) (by simp) ?_
                refine AllReadyH.cons (o := { dst := some 13, op := Go.Op.alloc 82, type := 0, pos := "law.go:67", after := #[], guard := none }) (by kernel_rfl) (fun K hK => ?_) AllReadyH.nil
                refine want (by rfl) ?_
                refine wp_allocZ 82 rfl ZR HZR0.out ?_
                have KN := Lib.hid (Blk.new x6 82 ZR)
                have hnn : wa.heap.size ≤ (x6).heap.size := by have := HX24.out.size; exact this
                have KA := Lib.hid (KA.out.alloc (.cells ZR 82))
                have KH := Lib.hid (KH.out.alloc (.cells ZR 82))
                have KW := Lib.hid (KW.out.alloc (.cells ZR 82))
                have KZ := Lib.hid (KZ.out.alloc (.cells ZR 82))
                have KP := Lib.hid (KP.out.alloc (.cells ZR 82))
                have HE := Lib.hid (ext_alloc HE.out (.cells ZR 82))
                have HX40 := Lib.hid (show SE wa _ from ext_alloc HX24.out (.cells ZR 82))
                refine hK.out _ _ HX40.out (fun _ => ?_)
                clear hK K
                (try simp only [Act.put, List.setIfInBounds_toArray, List.set_cons_zero, List.set_cons_succ])
                refine wpAnyH_ready (rs := [11]) (by kernel_rfl) (by simp) ?_
                refine AllReadyH.cons (o := { dst := none, op := Go.Op.store 82 (Go.Operand.tmp 13) (Go.Operand.tmp 52), type := 0, pos := "law.go:67", after := #[{ on := 10, ground := Go.Ground.data }, { on := 8, ground := Go.Ground.data }, { on := 6, ground := Go.Ground.chain }, { on := 0, ground := Go.Ground.phase }, { on := 1, ground := Go.Ground.phase }, { on := 2, ground := Go.Ground.phase }, { on := 3, ground := Go.Ground.phase }, { on := 4, ground := Go.Ground.phase }, { on := 5, ground := Go.Ground.phase }, { on := 6, ground := Go.Ground.phase }, { on := 7, ground := Go.Ground.phase }, { on := 8, ground := Go.Ground.phase }, { on := 9, ground := Go.Ground.textOnly Go.Departure.lateStores }, { on := 10, ground := Go.Ground.phase }], guard := none }) (by kernel_rfl) (fun K hK => ?_) AllReadyH.nil
                refine want (by rfl) ?_
                refine wp_store_row 82 (.tmp 13) (.tmp 52) rfl ((x6).heap.size) R2 rfl rfl 82 ZR KN.out (by rw [HZR2.out]; exact sizeR) (by rw [HZZR.out, HZR2.out]) HOR2.out ?_
                have hnb : w.heap.size + 1 + 1 + 1 < (x6).heap.size := by have := hnn; first | omega | (have h9 : wa.drew.heap.size = wa.heap.size := rfl; omega)
                have hnb_P : bn < (x6).heap.size := by have := hnn; first | omega | (have h9 : wa.drew.heap.size = wa.heap.size := rfl; omega)
                have KA := Lib.hid (setRow_far (h := (x6).heap.size) (ds := R2) KA.out (by omega))
                have KH := Lib.hid (setRow_far (h := (x6).heap.size) (ds := R2) KH.out (by omega))
                have KW := Lib.hid (setRow_far (h := (x6).heap.size) (ds := R2) KW.out (by omega))
                have KZ := Lib.hid (setRow_far (h := (x6).heap.size) (ds := R2) KZ.out (by omega))
                have KP := Lib.hid (setRow_far (h := (x6).heap.size) (ds := R2) KP.out (by omega))
                have KN := Lib.hid (setRow_blk (cs := R2) KN.out)
                have HE := Lib.hid (ext_setRow HE.out (show w.heap.size ≤ (x6).heap.size by omega) R2)
                have HX44 := Lib.hid (show SE wa _ from ext_setRow HX40.out hnn R2)
                refine hK.out _ _ HX44.out (fun _ => ?_)
                clear hK K
                (try simp only [Act.put, List.setIfInBounds_toArray, List.set_cons_zero, List.set_cons_succ])
                (refine wpAnyH_take (i := 12) (oi := { dst := some 14, op := Go.Op.assign (Go.Operand.tmp 53), type := 3, pos := "law.go:67", after := #[{ on := 9, ground := Go.Ground.data }, { on := 11, ground := Go.Ground.chain }, { on := 0, ground := Go.Ground.phase }, { on := 1, ground := Go.Ground.phase }, { on := 2, ground := Go.Ground.phase }, { on := 3, ground := Go.Ground.phase }, { on := 4, ground := Go.Ground.phase }, { on := 5, ground := Go.Ground.phase }, { on := 6, ground := Go.Ground.phase }, { on := 7, ground := Go.Ground.phase }, { on := 8, ground := Go.Ground.phase }, { on := 9, ground := Go.Ground.phase }, { on := 10, ground := Go.Ground.phase }, { on := 11, ground := Go.Ground.phase }], guard := none }) (v := ?_) rfl (by kernel_rfl) (by kernel_rfl) (by kernel_rfl) (fun _ _ _ h => h) (Or.inl ⟨by rfl, ?_⟩) HX44.out ?_); rotate_left
                · (intro w' hSw; obtain ⟨c0, c1, c2⟩ := HCE.out w' (HCC.out w' hSw); go_simp; try with_reducible rfl)
                (try simp only [Act.put, List.setIfInBounds_toArray, List.set_cons_zero, List.set_cons_succ])
                refine wpAnyH_done (by kernel_rfl) ?_ _
                go_wp2_with fail
                go_meet
                have h9 : wa.drew.heap.size = wa.heap.size := rfl
                exact ⟨_, rfl, rfl, by omega, KN.out, KA.out, KH.out, KW.out, KZ.out, KP.out, by omega, HE.out⟩
              ·
                refine want (by rfl) ?_
                refine wp_allocZ 82 rfl ZR HZR0.out ?_
                have KN := Lib.hid (Blk.new wa.drew 82 ZR)
                have hnn : wa.heap.size ≤ (wa.drew).heap.size := by have := HX0.out.size; exact this
                have KA := Lib.hid (KA.out.alloc (.cells ZR 82))
                have KH := Lib.hid (KH.out.alloc (.cells ZR 82))
                have KW := Lib.hid (KW.out.alloc (.cells ZR 82))
                have KZ := Lib.hid (KZ.out.alloc (.cells ZR 82))
                have KP := Lib.hid (KP.out.alloc (.cells ZR 82))
                have HE := Lib.hid (ext_alloc HE.out (.cells ZR 82))
                have HX28 := Lib.hid (show SE wa _ from ext_alloc HX0.out (.cells ZR 82))
                refine hK.out _ _ HX28.out (fun _ => ?_)
                clear hK K
                (try simp only [Act.put, List.setIfInBounds_toArray, List.set_cons_zero, List.set_cons_succ])
                refine wpAnyH_ready (rs := [6]) (by kernel_rfl) (by simp) ?_
                refine AllReadyH.cons (o := { dst := some 51, op := Go.Op.call { callee := Go.Callee.value (Go.Operand.func 55), args := #[Go.Operand.tmp 45, Go.Operand.tmp 50], argTypes := #[82, 3] }, type := 91, pos := "law.go:67", after := #[{ on := 0, ground := Go.Ground.data }, { on := 5, ground := Go.Ground.data }], guard := none }) (by kernel_rfl) (fun K hK => ?_) AllReadyH.nil
                go_simp
                refine (HC2.out _).mono ?_
                rintro e x7 ⟨rfl, b9⟩
                have KA := Lib.hid (KA.out.ext b9); have KH := Lib.hid (KH.out.ext b9); have KW := Lib.hid (KW.out.ext b9); have KZ := Lib.hid (KZ.out.ext b9); have KP := Lib.hid (KP.out.ext b9); have KN := Lib.hid (KN.out.ext b9); have HE := Lib.hid (ext_trans HE.out b9)
                have HX27 := Lib.hid (show SE wa x7 from ext_trans HX28.out b9)
                have hszHX27 := b9.size
                clear b9
                (try go_wp2_with fail)
                refine hK.out _ _ HX27.out (fun _ => ?_)
                clear hK K
                (try simp only [Act.put, List.setIfInBounds_toArray, List.set_cons_zero, List.set_cons_succ])
                (refine wpAnyH_take (i := 7) (oi := { dst := some 44, op := Go.Op.move (Go.Operand.tmp 51), type := 91, pos := "law.go:67", after := #[{ on := 6, ground := Go.Ground.data }], guard := none }) (v := ?_) rfl (by kernel_rfl) (by kernel_rfl) (by kernel_rfl) (fun _ _ _ h => h) (Or.inl ⟨by rfl, ?_⟩) HX27.out ?_); rotate_left
                · (intro w' hSw; obtain ⟨c0, c1, c2⟩ := HCE.out w' (HCC.out w' hSw); go_simp; try with_reducible rfl)
                (try simp only [Act.put, List.setIfInBounds_toArray, List.set_cons_zero, List.set_cons_succ])
                (refine wpAnyH_take (i := 8) (oi := { dst := some 52, op := Go.Op.extract (Go.Operand.tmp 44) 0, type := 82, pos := "law.go:67", after := #[{ on := 7, ground := Go.Ground.data }], guard := none }) (v := ?_) rfl (by kernel_rfl) (by kernel_rfl) (by kernel_rfl) (fun _ _ _ h => h) (Or.inl ⟨by rfl, ?_⟩) HX27.out ?_); rotate_left
                · (intro w' hSw; obtain ⟨c0, c1, c2⟩ := HCE.out w' (HCC.out w' hSw); go_simp; try with_reducible rfl)
                (try simp only [Act.put, List.setIfInBounds_toArray, List.set_cons_zero, List.set_cons_succ])
                (refine wpAnyH_take (i := 9) (oi := { dst := some 53, op := Go.Op.extract (Go.Operand.tmp 44) 1, type := 3, pos := "law.go:67", after := #[{ on := 7, ground := Go.Ground.data }, { on := 11, ground := Go.Ground.gcOnly Go.Departure.lateStores }], guard := none }) (v := ?_) rfl (by kernel_rfl) (by kernel_rfl) (by kernel_rfl) (fun _ _ _ h => h) (Or.inl ⟨by rfl, ?_⟩) HX27.out ?_); rotate_left
                · (intro w' hSw; obtain ⟨c0, c1, c2⟩ := HCE.out w' (HCC.out w' hSw); go_simp; try with_reducible rfl)
                (try simp only [Act.put, List.setIfInBounds_toArray, List.set_cons_zero, List.set_cons_succ])
                refine wpAnyH_ready (rs := [11]) (by kernel_rfl) (by simp) ?_
                refine AllReadyH.cons (o := { dst := none, op := Go.Op.store 82 (Go.Operand.tmp 13) (Go.Operand.tmp 52), type := 0, pos := "law.go:67", after := #[{ on := 10, ground := Go.Ground.data }, { on := 8, ground := Go.Ground.data }, { on := 6, ground := Go.Ground.chain }, { on := 0, ground := Go.Ground.phase }, { on := 1, ground := Go.Ground.phase }, { on := 2, ground := Go.Ground.phase }, { on := 3, ground := Go.Ground.phase }, { on := 4, ground := Go.Ground.phase }, { on := 5, ground := Go.Ground.phase }, { on := 6, ground := Go.Ground.phase }, { on := 7, ground := Go.Ground.phase }, { on := 8, ground := Go.Ground.phase }, { on := 9, ground := Go.Ground.textOnly Go.Departure.lateStores }, { on := 10, ground := Go.Ground.phase }], guard := none }) (by kernel_rfl) (fun K hK => ?_) AllReadyH.nil
                refine want (by rfl) ?_
                refine wp_store_row 82 (.tmp 13) (.tmp 52) rfl ((wa.drew).heap.size) R2 rfl rfl 82 ZR KN.out (by rw [HZR2.out]; exact sizeR) (by rw [HZZR.out, HZR2.out]) HOR2.out ?_
                have hnb : w.heap.size + 1 + 1 + 1 < (wa.drew).heap.size := by have := hnn; first | omega | (have h9 : wa.drew.heap.size = wa.heap.size := rfl; omega)
                have hnb_P : bn < (wa.drew).heap.size := by have := hnn; first | omega | (have h9 : wa.drew.heap.size = wa.heap.size := rfl; omega)
                have KA := Lib.hid (setRow_far (h := (wa.drew).heap.size) (ds := R2) KA.out (by omega))
                have KH := Lib.hid (setRow_far (h := (wa.drew).heap.size) (ds := R2) KH.out (by omega))
                have KW := Lib.hid (setRow_far (h := (wa.drew).heap.size) (ds := R2) KW.out (by omega))
                have KZ := Lib.hid (setRow_far (h := (wa.drew).heap.size) (ds := R2) KZ.out (by omega))
                have KP := Lib.hid (setRow_far (h := (wa.drew).heap.size) (ds := R2) KP.out (by omega))
                have KN := Lib.hid (setRow_blk (cs := R2) KN.out)
                have HE := Lib.hid (ext_setRow HE.out (show w.heap.size ≤ (wa.drew).heap.size by omega) R2)
                have HX44 := Lib.hid (show SE wa _ from ext_setRow HX27.out hnn R2)
                refine hK.out _ _ HX44.out (fun _ => ?_)
                clear hK K
                (try simp only [Act.put, List.setIfInBounds_toArray, List.set_cons_zero, List.set_cons_succ])
                (refine wpAnyH_take (i := 12) (oi := { dst := some 14, op := Go.Op.assign (Go.Operand.tmp 53), type := 3, pos := "law.go:67", after := #[{ on := 9, ground := Go.Ground.data }, { on := 11, ground := Go.Ground.chain }, { on := 0, ground := Go.Ground.phase }, { on := 1, ground := Go.Ground.phase }, { on := 2, ground := Go.Ground.phase }, { on := 3, ground := Go.Ground.phase }, { on := 4, ground := Go.Ground.phase }, { on := 5, ground := Go.Ground.phase }, { on := 6, ground := Go.Ground.phase }, { on := 7, ground := Go.Ground.phase }, { on := 8, ground := Go.Ground.phase }, { on := 9, ground := Go.Ground.phase }, { on := 10, ground := Go.Ground.phase }, { on := 11, ground := Go.Ground.phase }], guard := none }) (v := ?_) rfl (by kernel_rfl) (by kernel_rfl) (by kernel_rfl) (fun _ _ _ h => h) (Or.inl ⟨by rfl, ?_⟩) HX44.out ?_); rotate_left
                · (intro w' hSw; obtain ⟨c0, c1, c2⟩ := HCE.out w' (HCC.out w' hSw); go_simp; try with_reducible rfl)
                (try simp only [Act.put, List.setIfInBounds_toArray, List.set_cons_zero, List.set_cons_succ])
                refine wpAnyH_done (by kernel_rfl) ?_ _
                go_wp2_with fail
                go_meet
                have h9 : wa.drew.heap.size = wa.heap.size := rfl
                exact ⟨_, rfl, rfl, by omega, KN.out, KA.out, KH.out, KW.out, KZ.out, KP.out, by omega, HE.out⟩
            case rest =>
            obtain ⟨bq, rfl, rfl, hb_bq, kn, ka, kh, kw, kz, kp, hne_P, he⟩ := hcut
            obtain ⟨wb, hwl⟩ : ∃ W9 : World, W9 = wc := ⟨_, rfl⟩
            rw [← hwl] at kn ka kh kw kz kp he ⊢
            clear hwl KA KH KW KZ HE KP
            have KBQ := Lib.hid kn; have KA := Lib.hid ka; have KH := Lib.hid kh; have KW := Lib.hid kw; have KZ := Lib.hid kz; have HE := Lib.hid he; have KP := Lib.hid kp
            clear kn ka kh kw kz he kp
            go_upto_region 12 with (first | (refine wpList_load_row rfl 78 (.tmp 10) rfl bn rfl 78 A2 (0, 0) _ KP.out Try.underlying78 rfl (by rw [HZA2.out]; exact sizeA) ?_) | (refine wpList_store_row rfl 78 (.tmp 5) (.tmp 54) rfl w.heap.size A2 rfl rfl 78 A1 KA.out (by rw [HZA2.out]; exact sizeA) (by rw [HZA1.out, HZA2.out]) HOA2.out ?_))
            try simp only [Act.put, List.setIfInBounds_toArray, List.set_cons_zero, List.set_cons_succ]
            obtain ⟨wd, hwn⟩ : ∃ W9 : World, W9 = wb.setRow w.heap.size A2 := ⟨_, rfl⟩
            have NA := Lib.hid (show Blk wd w.heap.size 78 A2 from by rw [hwn]; exact setRow_blk KA.out)
            have NH := Lib.hid (show Blk wd (w.heap.size + 1) 78 Ah from by rw [hwn]; exact setRow_far KH.out (by omega))
            have NW := Lib.hid (show Blk wd (w.heap.size + 1 + 1) 82 R1 from by rw [hwn]; exact setRow_far KW.out (by omega))
            have NZ := Lib.hid (show Blk wd (w.heap.size + 1 + 1 + 1) 82 Rh from by rw [hwn]; exact setRow_far KZ.out (by omega))
            have NE := Lib.hid (show Ext w wd from by rw [hwn]; exact ext_setRow HE.out (by omega) _)
            have NBQ := Lib.hid (show Blk wd bq 82 R2 from by rw [hwn]; exact setRow_far KBQ.out (by omega))
            rw [← hwn]
            clear hwn KA KH KW KZ HE KBQ
            have KA := NA; have KH := NH; have KW := NW; have KZ := NZ; have HE := NE; have KBQ := NBQ
            clear NA NH NW NZ NE NBQ
            go_upto_region 13 with (first | (refine wpList_load_row rfl 82 (.tmp 13) rfl bq rfl 82 R2 (0, 0) _ KBQ.out Try.underlying82 rfl (by rw [HZR2.out]; exact sizeR) ?_) | (refine wpList_store_row rfl 82 (.tmp 7) (.tmp 55) rfl (w.heap.size + 1 + 1) R2 rfl rfl 82 R1 KW.out (by rw [HZR2.out]; exact sizeR) (by rw [HZR1.out, HZR2.out]) HOR2.out ?_))
            try simp only [Act.put, List.setIfInBounds_toArray, List.set_cons_zero, List.set_cons_succ]
            obtain ⟨we, hwn⟩ : ∃ W9 : World, W9 = wd.setRow (w.heap.size + 1 + 1) R2 := ⟨_, rfl⟩
            have NA := Lib.hid (show Blk we w.heap.size 78 A2 from by rw [hwn]; exact setRow_far KA.out (by omega))
            have NH := Lib.hid (show Blk we (w.heap.size + 1) 78 Ah from by rw [hwn]; exact setRow_far KH.out (by omega))
            have NW := Lib.hid (show Blk we (w.heap.size + 1 + 1) 82 R2 from by rw [hwn]; exact setRow_blk KW.out)
            have NZ := Lib.hid (show Blk we (w.heap.size + 1 + 1 + 1) 82 Rh from by rw [hwn]; exact setRow_far KZ.out (by omega))
            have NE := Lib.hid (show Ext w we from by rw [hwn]; exact ext_setRow HE.out (by omega) _)
            rw [← hwn]
            clear hwn KA KH KW KZ HE
            have KA := NA; have KH := NH; have KW := NW; have KZ := NZ; have HE := NE
            clear NA NH NW NZ NE
            by_cases hm : k = hn
            · have y8 : ((k : Int) == (hn : Int)) = true := beq_iff_eq.2 (by omega)
              go_upto_region 23 with (first | (refine wpList_load_row rfl 78 (.tmp 5) rfl w.heap.size rfl 78 A2 (0, 0) _ KA.out Try.underlying78 rfl (by rw [HZA2.out]; exact sizeA) ?_) | (refine wpList_store_row rfl 78 (.tmp 6) (.tmp 126) rfl (w.heap.size + 1) A2 rfl rfl 78 Ah KH.out (by rw [HZA2.out]; exact sizeA) (by rw [HZAh.out, HZA2.out]) HOA2.out ?_))
              try simp only [Act.put, List.setIfInBounds_toArray, List.set_cons_zero, List.set_cons_succ]
              obtain ⟨wm, hwn⟩ : ∃ W9 : World, W9 = we.setRow (w.heap.size + 1) A2 := ⟨_, rfl⟩
              have NA := Lib.hid (show Blk wm w.heap.size 78 A2 from by rw [hwn]; exact setRow_far KA.out (by omega))
              have NH := Lib.hid (show Blk wm (w.heap.size + 1) 78 A2 from by rw [hwn]; exact setRow_blk KH.out)
              have NW := Lib.hid (show Blk wm (w.heap.size + 1 + 1) 82 R2 from by rw [hwn]; exact setRow_far KW.out (by omega))
              have NZ := Lib.hid (show Blk wm (w.heap.size + 1 + 1 + 1) 82 Rh from by rw [hwn]; exact setRow_far KZ.out (by omega))
              have NE := Lib.hid (show Ext w wm from by rw [hwn]; exact ext_setRow HE.out (by omega) _)
              rw [← hwn]
              clear hwn KA KH KW KZ HE
              have KA := NA; have KH := NH; have KW := NW; have KZ := NZ; have HE := NE
              clear NA NH NW NZ NE
              go_wp2_with (first | (refine wpList_load_row rfl 82 (.tmp 7) rfl (w.heap.size + 1 + 1) rfl 82 R2 (0, 0) _ KW.out Try.underlying82 rfl (by rw [HZR2.out]; exact sizeR) ?_) | (refine wpList_store_row rfl 82 (.tmp 8) (.tmp 127) rfl (w.heap.size + 1 + 1 + 1) R2 rfl rfl 82 Rh KZ.out (by rw [HZR2.out]; exact sizeR) (by rw [HZRh.out, HZR2.out]) HOR2.out ?_))
              have MZ := Lib.hid (setRow_blk (cs := R2) KZ.out)
              have MA := Lib.hid (setRow_far (h := (w.heap.size + 1 + 1 + 1)) (ds := R2) KA.out (by omega))
              have MH := Lib.hid (setRow_far (h := (w.heap.size + 1 + 1 + 1)) (ds := R2) KH.out (by omega))
              have MW := Lib.hid (setRow_far (h := (w.heap.size + 1 + 1 + 1)) (ds := R2) KW.out (by omega))
              have ME := Lib.hid (ext_setRow HE.out (show w.heap.size ≤ (w.heap.size + 1 + 1 + 1) by omega) R2)
              go_roundw
              case rel => exact ⟨k + 1, A2, R2, A2, R2, by omega, by go_num, HT2.out, HT2.out, MA.out, MH.out, MW.out, MZ.out, ME.out⟩
              case measure => simp [intOf]; omega
            · have y8 : ((k : Int) == (hn : Int)) = false := beq_eq_false_iff_ne.2 (by omega)
              go_wp2_with fail
              go_roundw
              case rel => exact ⟨k + 1, A2, R2, Ah, Rh, by omega, by go_num, HT2.out, HT.out, KA.out, KH.out, KW.out, KZ.out, HE.out⟩
              case measure => simp [intOf]; omega
    · obtain rfl : k = n := by omega
      have y1 : ¬ (k : Int) < (k : Int) := by omega
      obtain ⟨b, v, hb0, hb1, hG1, hG2⟩ := HTT.out.get ask ha
      have HB0 := Lib.hid hb0; have HB1 := Lib.hid hb1; have HG1 := Lib.hid hG1; have HG2 := Lib.hid hG2
      clear hb0 hb1 hG1 hG2 hE
      go_wp2_with (refine wpList_load_row rfl 78 (.tmp 5) rfl w.heap.size rfl 78 A1 (0, 0) _ KA.out Try.underlying78 rfl (by rw [HZA1.out]; exact sizeA) ?_)
      refine (HG1.out _).mono ?_
      rintro e w5 ⟨rfl, b5⟩
      have KA := Lib.hid (KA.out.ext b5); have KH := Lib.hid (KH.out.ext b5); have KW := Lib.hid (KW.out.ext b5); have KZ := Lib.hid (KZ.out.ext b5); have HE := Lib.hid (ext_trans HE.out b5)
      clear b5
      go_wp2_with (refine wpList_load_row rfl 82 (.tmp 7) rfl (w.heap.size + 1 + 1) rfl 82 R1 (0, 0) _ KW.out Try.underlying82 rfl (by rw [HZR1.out]; exact sizeR) ?_)
      refine (HG2.out _).mono ?_
      rintro e w6 ⟨rfl, b6⟩
      have KA := Lib.hid (KA.out.ext b6); have KH := Lib.hid (KH.out.ext b6); have KW := Lib.hid (KW.out.ext b6); have KZ := Lib.hid (KZ.out.ext b6); have HE := Lib.hid (ext_trans HE.out b6)
      clear b6
      go_wp2_with (first | (refine wpList_load_row rfl 78 (.tmp 5) rfl w.heap.size rfl 78 A1 (0, 0) _ KA.out Try.underlying78 rfl (by rw [HZA1.out]; exact sizeA) ?_) | (refine wpList_load_row rfl 82 (.tmp 7) rfl (w.heap.size + 1 + 1) rfl 82 R1 (0, 0) _ KW.out Try.underlying82 rfl (by rw [HZR1.out]; exact sizeR) ?_))
      refine (HTT.out.same _).mono ?_
      rintro e w7 ⟨rfl, b7⟩
      have KA := Lib.hid (KA.out.ext b7); have KH := Lib.hid (KH.out.ext b7); have KW := Lib.hid (KW.out.ext b7); have KZ := Lib.hid (KZ.out.ext b7); have HE := Lib.hid (ext_trans HE.out b7)
      clear b7
      obtain ⟨L, hL⟩ : ∃ L, L = ask % 128 := ⟨_, rfl⟩
      have p1 : (ask : Int).tmod 128 = (L : Int) := by rw [Int.tmod_eq_emod_of_nonneg (by omega)]; omega
      have p2 : (ask : Int) % 128 = (L : Int) := by omega
      have p3 : (L : Int) < 128 := by omega
      have p4 : (0 : Int) ≤ (L : Int) := by omega
      rw [← hL] at HB1
      clear hL
      have HBL := Lib.hid (And.intro p1 p2)
      clear p1 p2
      by_cases hk0 : k = 0
      · subst hk0
        cases b with
        | false =>
          obtain rfl := HB0.out rfl
          go_wp2_with fail
          refine (wakes _).mono ?_
          rintro e w9 ⟨rfl, b9⟩
          have HE := Lib.hid (ext_trans HE.out b9)
          clear b9
          go_wp2_with fail
          go_ret
          exact ⟨rfl, HE.out⟩
        | true =>
          have c5 := (KW.out.cell (128 + L)).trans (HB1.out rfl)
          obtain ⟨p1, p2⟩ := HBL.out
          go_wp2_with fail
          refine (wakes _).mono ?_
          rintro e w9 ⟨rfl, b9⟩
          have HE := Lib.hid (ext_trans HE.out b9)
          clear b9
          go_wp2_with fail
          go_ret
          exact ⟨rfl, HE.out⟩
      · have y7 : ((k : Int) == 0) = false := beq_eq_false_iff_ne.2 (by omega)
        go_wp2_with (first | (refine wpList_load_rowW (by rfl) 78 (.tmp 6) rfl (w.heap.size + 1) rfl 78 Ah (0, 0) _ KH.out Try.underlying78 rfl (by rw [HZAh.out]; exact sizeA) ?_) | (refine wpList_load_rowW (by rfl) 82 (.tmp 8) rfl (w.heap.size + 1 + 1 + 1) rfl 82 Rh (0, 0) _ KZ.out Try.underlying82 rfl (by rw [HZRh.out]; exact sizeR) ?_))
        refine (HT.out.same _).mono ?_
        rintro e w8 ⟨rfl, b8⟩
        have KA := Lib.hid (KA.out.ext b8); have KH := Lib.hid (KH.out.ext b8); have KW := Lib.hid (KW.out.ext b8); have KZ := Lib.hid (KZ.out.ext b8); have HE := Lib.hid (ext_trans HE.out b8)
        clear b8
        cases b with
        | false =>
          obtain rfl := HB0.out rfl
          go_wp2_with fail
          refine (wakes _).mono ?_
          rintro e w9 ⟨rfl, b9⟩
          have HE := Lib.hid (ext_trans HE.out b9)
          clear b9
          go_wp2_with fail
          go_ret
          exact ⟨rfl, HE.out⟩
        | true =>
          have c5 := (KW.out.cell (128 + L)).trans (HB1.out rfl)
          obtain ⟨p1, p2⟩ := HBL.out
          go_wp2_with fail
          refine (wakes _).mono ?_
          rintro e w9 ⟨rfl, b9⟩
          have HE := Lib.hid (ext_trans HE.out b9)
          clear b9
          go_wp2_with fail
          go_ret
          exact ⟨rfl, HE.out⟩
end Go.Proofs.Ytdbjknljdplinaa.Arena
