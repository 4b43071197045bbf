/- ArenaOnce, walked. -/
import Derived.Test.YtdbjknljdplinaaAreK
namespace Go.Proofs.Ytdbjknljdplinaa.Arena
open Go.ChangeShapes Go.WideShapes Go.ChangeAt Go.RowKit
open Go.Proofs.Ytdbjknljdplinaa.Map16 (MapR)
set_option linter.unusedVariables false

theorem zInt (w : World) : (zeroValue 3).run Try.prog w = .ok (.int .i64 0) w := by kernel_rfl
theorem zBool (w : World) : (zeroValue 4).run Try.prog w = .ok (.bool false) w := by kernel_rfl
def ORel (w : World) (n gh : Nat) (iv : Value) (wr : World) : Prop := ∃ (k : Nat) (A : Array Value) (G M : Nat → Option Value), k ≤ n ∧ k + gh = n ∧ iv = .int .i64 ((k : Nat) : Int) ∧ On k A G M ∧
  Blk wr w.heap.size 78 A ∧ MapR wr (w.heap.size + 1) G ∧ MapR wr (w.heap.size + 1 + 1) M ∧ Ext w wr
theorem three (w : World) (X : Array Value) (t : TypeId) : Blk (((w.alloc (.cells X t)).alloc (.map #[] 0)).alloc (.map #[] 0)) w.heap.size t X ∧ MapR (((w.alloc (.cells X t)).alloc (.map #[] 0)).alloc (.map #[] 0)) (w.heap.size + 1) (fun _ => none) ∧
    MapR (((w.alloc (.cells X t)).alloc (.map #[] 0)).alloc (.map #[] 0)) (w.heap.size + 1 + 1) (fun _ => none) ∧ Ext w (((w.alloc (.cells X t)).alloc (.map #[] 0)).alloc (.map #[] 0)) := by
  refine ⟨((Blk.new _ _ _).alloc _).alloc _, ?_, ?_, ext_alloc (ext_alloc (ext_alloc (Ext.rfl' _) _) _) _⟩
  · have := (MapR.new (w.alloc (.cells X t))).ext (ext_alloc (Ext.rfl' _) (.map #[] 0))
    rwa [World.size_alloc] at this
  · have := MapR.new ((w.alloc (.cells X t)).alloc (.map #[] 0))
    rwa [World.size_alloc, World.size_alloc] at this
set_option maxHeartbeats 16000000 in
set_option maxRecDepth 100000 in
theorem once (A : Option Addr) (n c : Nat) (ls : List (Nat × Nat × Int)) (w : World) (hB : Acts w A n ls) (hn1 : n ≤ 300) :
    Calls Try.prog 11 #[.slice A n c] w fun e w' => e = .returned (.bool true) ∧ Ext w w' := by
  have t3 : ¬ (300 : Int) < (n : Int) := by omega
  have HB := Lib.hid hB
  obtain ⟨ZA, hZA⟩ : ∃ Z, Z = zA := ⟨_, rfl⟩
  have HT0 : Hid (On 0 ZA (fun _ => none) (fun _ => none)) := Lib.hid (by rw [hZA]; exact On.zero)
  have HZA0 : Hid ((Try.prog.info? 78).bind (·.zero) = some (.agg ZA)) := Lib.hid (by rw [hZA]; exact zeroA)
  clear hB hZA
  obtain ⟨s1, s2⟩ := HT0.out.sizes
  have HZZA := Lib.hid s1
  clear s1 s2
  have hmm := @run_makeMap Try.prog
  go_enter Try.func11, Try.ntmps11
  go_upto_region 6 with (refine wpList_allocZ rfl 78 rfl ZA HZA0.out ?_)
  clear hmm
  try simp only [Act.put, List.setIfInBounds_toArray, List.set_cons_zero, List.set_cons_succ, World.size_alloc]
  have h4 := three w ZA 78
  obtain ⟨w0, hw0⟩ : ∃ W9 : World, W9 = ((w.alloc (.cells ZA 78)).alloc (.map #[] 0)).alloc (.map #[] 0) := ⟨_, rfl⟩
  rw [← hw0] at h4 ⊢
  clear hw0
  have HR0 : Hid (ORel w n n (.int .i64 ((0 : Nat) : Int)) w0) := Lib.hid ⟨0, ZA, _, _, by omega, by omega, rfl, HT0.out, h4⟩
  clear h4
  go_wp2_with fail
  go_loopg [6] n (fun gh iv wr => ORel w n gh iv wr)
  case atStart => exact HR0.out
  case round =>
    obtain ⟨k, A1, G1, M1, hk, hkg, rfl, hO, hA, hG, hM, hE⟩ := hrel
    obtain ⟨wi, rfl⟩ : ∃ wi : World, wi = wr := ⟨_, rfl⟩
    obtain ⟨gh, rfl⟩ : ∃ gh : Nat, gh = gk := ⟨_, rfl⟩
    have HO1 := Lib.hid hO; have KA := Lib.hid hA; have KG := Lib.hid hG; have KM := Lib.hid hM; have HE := Lib.hid hE
    clear hO hA hG hM HR0
    obtain ⟨s1, s2⟩ := HO1.out.sizes
    have HZA1 := Lib.hid s1; have HOA1 := Lib.hid s2
    clear s1 s2
    by_cases hlt : k < n
    · obtain ⟨gl, o, rfl, hgl, hc⟩ := HB.out.2.2 (by omega)
      have hlen := HB.out.1
      have hlk : k < ls.length := by omega
      have hbd := HB.out.2.1 ls[k] (List.getElem_mem hlk)
      obtain ⟨k0, k1, k2⟩ := hc k hlk
      generalize ls[k].1 = d at hbd k0
      generalize ls[k].2.1 = id at hbd k1
      generalize ls[k].2.2 = v at k2
      obtain ⟨hd, hid⟩ := hbd
      have HCE : Hid (∀ w', Ext w w' → w'.cell? ⟨gl, o + k * 3, none⟩ = some (.int .u8 (d : Int)) ∧ w'.cell? ⟨gl, o + k * 3 + 1, none⟩ = some (.int .u16 (id : Int)) ∧ w'.cell? ⟨gl, o + k * 3 + 2, none⟩ = some (.int .i64 v)) :=
        Lib.hid (fun w' e => ⟨(e.cell (p := ⟨gl, _, none⟩) hgl).trans k0, (e.cell (p := ⟨gl, _, none⟩) hgl).trans k1, (e.cell (p := ⟨gl, _, none⟩) hgl).trans k2⟩)
      clear hc hlen hlk k0 k1 k2 hgl
      obtain ⟨c0, c1, c2⟩ := HCE.out wi HE.out
      have y1 : (0 : Int) ≤ (k : Int) := by omega
      have y2 : (k : Int) < (n : Int) := by omega
      clear hE
      by_cases hd0 : d = 0
      · subst hd0
        obtain ⟨A2, hO2, hC1⟩ := HO1.out.drop (by omega) id hid
        have HO2 := Lib.hid hO2; have HC1 := Lib.hid hC1
        clear hO2 hC1
        obtain ⟨s1, s2⟩ := HO2.out.sizes
        have HZA2 := Lib.hid s1; have HOA2 := Lib.hid s2
        clear s1 s2
        go_wp2_with fail
        clear c0 c1 c2
        have hdw : Ext wi wi.drew := ext_drew (Ext.rfl' wi)
        have KA := Lib.hid (KA.out.ext hdw); have KG := Lib.hid (KG.out.ext hdw); have KM := Lib.hid (KM.out.ext hdw); have HE := Lib.hid (ext_trans HE.out hdw)
        clear hdw
        have HX0 := Lib.hid (show SE w wi.drew from HE.out)
        refine wp_region_held_drew (S := SE w) hmx HX0.out (fun _ => ?_)
        (refine wpAnyH_take (i := 1) (oi := { dst := some 35, op := Go.Op.move (Go.Operand.tmp 0), type := 73, pos := "law.go:140", after := #[], guard := none }) (v := ?_) rfl (by kernel_rfl) (by kernel_rfl) (by kernel_rfl) (fun _ _ _ h => h) (Or.inl ⟨by rfl, ?_⟩) HX0.out ?_); rotate_left
        · (intro w' hSw; obtain ⟨c0, c1, c2⟩ := HCE.out w' hSw; go_simp; try with_reducible rfl)
        (try simp only [Act.put, List.setIfInBounds_toArray, List.set_cons_zero, List.set_cons_succ])
        (refine wpAnyH_take (i := 2) (oi := { dst := some 36, op := Go.Op.move (Go.Operand.tmp 6), type := 3, pos := "law.go:140", after := #[], guard := none }) (v := ?_) rfl (by kernel_rfl) (by kernel_rfl) (by kernel_rfl) (fun _ _ _ h => h) (Or.inl ⟨by rfl, ?_⟩) HX0.out ?_); rotate_left
        · (intro w' hSw; obtain ⟨c0, c1, c2⟩ := HCE.out w' hSw; go_simp; try with_reducible rfl)
        (try simp only [Act.put, List.setIfInBounds_toArray, List.set_cons_zero, List.set_cons_succ])
        (refine wpAnyH_take (i := 3) (oi := { dst := some 37, op := Go.Op.indexAddr 73 (Go.Operand.tmp 35) (Go.Operand.tmp 36), type := 0, pos := "law.go:140", after := #[{ on := 1, ground := Go.Ground.data }, { on := 2, ground := Go.Ground.data }], guard := none }) (v := ?_) rfl (by kernel_rfl) (by kernel_rfl) (by kernel_rfl) (fun _ _ _ h => h) (Or.inl ⟨by rfl, ?_⟩) HX0.out ?_); rotate_left
        · (intro w' hSw; obtain ⟨c0, c1, c2⟩ := HCE.out w' hSw; go_simp; try with_reducible rfl)
        (try simp only [Act.put, List.setIfInBounds_toArray, List.set_cons_zero, List.set_cons_succ])
        (refine wpAnyH_take (i := 4) (oi := { dst := some 38, op := Go.Op.fieldAddr 84 (Go.Operand.tmp 37) 1, type := 0, pos := "law.go:140", after := #[{ on := 3, ground := Go.Ground.data }], guard := none }) (v := ?_) rfl (by kernel_rfl) (by kernel_rfl) (by kernel_rfl) (fun _ _ _ h => h) (Or.inl ⟨by rfl, ?_⟩) HX0.out ?_); rotate_left
        · (intro w' hSw; obtain ⟨c0, c1, c2⟩ := HCE.out w' hSw; go_simp; try with_reducible rfl)
        (try simp only [Act.put, List.setIfInBounds_toArray, List.set_cons_zero, List.set_cons_succ])
        (refine wpAnyH_take (i := 5) (oi := { dst := some 39, op := Go.Op.load 43 (Go.Operand.tmp 38), type := 43, pos := "law.go:140", after := #[{ on := 4, ground := Go.Ground.data }], guard := none }) (v := ?_) rfl (by kernel_rfl) (by kernel_rfl) (by kernel_rfl) (fun _ _ _ h => h) (Or.inl ⟨by rfl, ?_⟩) HX0.out ?_); rotate_left
        · (intro w' hSw; obtain ⟨c0, c1, c2⟩ := HCE.out w' hSw; go_simp; try with_reducible rfl)
        (try simp only [Act.put, List.setIfInBounds_toArray, List.set_cons_zero, List.set_cons_succ])
        refine wpAnyH_ready (rs := [0]) (by kernel_rfl) (by simp) ?_
        refine AllReadyH.cons (o := { dst := some 34, op := Go.Op.load 78 (Go.Operand.tmp 3), type := 78, pos := "law.go:140", after := #[], guard := none }) (by kernel_rfl) (fun K hK => ?_) AllReadyH.nil
        refine want (by rfl) ?_
        refine wp_load_row 78 (.tmp 3) rfl w.heap.size rfl 78 A1 (0, 0) _ KA.out Try.underlying78 rfl (by rw [HZA1.out]; exact sizeA) ?_
        refine hK.out _ _ HX0.out (fun _ => ?_)
        clear hK K
        (try simp only [Act.put, List.setIfInBounds_toArray, List.set_cons_zero, List.set_cons_succ])
        refine wpAnyH_ready (rs := [6]) (by kernel_rfl) (by simp) ?_
        refine AllReadyH.cons (o := { dst := some 40, op := Go.Op.call { callee := Go.Callee.value (Go.Operand.func 50), args := #[Go.Operand.tmp 34, Go.Operand.tmp 39], argTypes := #[78, 43] }, type := 78, pos := "law.go:140", after := #[{ on := 0, ground := Go.Ground.data }, { on := 5, ground := Go.Ground.data }], guard := none }) (by kernel_rfl) (fun K hK => ?_) AllReadyH.nil
        go_simp
        refine (HC1.out _).mono ?_
        rintro e x1 ⟨rfl, b9⟩
        have KA := Lib.hid (KA.out.ext b9); have KG := Lib.hid (KG.out.ext b9); have KM := Lib.hid (KM.out.ext b9); have HE := Lib.hid (ext_trans HE.out b9)
        have HX1 := Lib.hid (show SE w x1 from HE.out)
        clear b9
        (try go_wp2_with fail)
        refine hK.out _ _ HX1.out (fun _ => ?_)
        clear hK K
        (try simp only [Act.put, List.setIfInBounds_toArray, List.set_cons_zero, List.set_cons_succ])
        refine wpAnyH_ready (rs := [7]) (by kernel_rfl) (by simp) ?_
        refine AllReadyH.cons (o := { dst := none, op := Go.Op.store 78 (Go.Operand.tmp 3) (Go.Operand.tmp 40), type := 0, pos := "law.go:140", after := #[{ on := 6, ground := Go.Ground.data }, { on := 6, ground := Go.Ground.chain }, { on := 0, ground := Go.Ground.phase }, { on := 1, ground := Go.Ground.phase }, { on := 2, ground := Go.Ground.phase }, { on := 3, ground := Go.Ground.phase }, { on := 4, ground := Go.Ground.phase }, { on := 5, ground := Go.Ground.phase }, { on := 6, ground := Go.Ground.phase }], guard := none }) (by kernel_rfl) (fun K hK => ?_) AllReadyH.nil
        refine want (by rfl) ?_
        refine wp_store_row 78 (.tmp 3) (.tmp 40) rfl w.heap.size A2 rfl rfl 78 A1 KA.out (by rw [HZA2.out]; exact sizeA) (by rw [HZA1.out, HZA2.out]) HOA2.out ?_
        have HX2 := Lib.hid (show SE w (x1.setRow w.heap.size A2) from ext_setRow HE.out (by omega) _)
        refine hK.out _ _ HX2.out (fun _ => ?_)
        clear hK K
        (try simp only [Act.put, List.setIfInBounds_toArray, List.set_cons_zero, List.set_cons_succ])
        refine wpAnyH_done (by kernel_rfl) ?_ _
        obtain ⟨wa, hwn⟩ : ∃ W9 : World, W9 = x1.setRow w.heap.size A2 := ⟨_, rfl⟩
        have NA := Lib.hid (show Blk wa w.heap.size 78 A2 from by rw [hwn]; exact setRow_blk KA.out)
        have NG := Lib.hid (KG.out.blk (show wa.heap[(w.heap.size + 1)]? = x1.heap[(w.heap.size + 1)]? from by rw [hwn]; exact setRow_other _ _ _ _ (by omega)))
        have NM := Lib.hid (KM.out.blk (show wa.heap[(w.heap.size + 1 + 1)]? = x1.heap[(w.heap.size + 1 + 1)]? from by rw [hwn]; exact setRow_other _ _ _ _ (by omega)))
        have NE := Lib.hid (show Ext w wa from by rw [hwn]; exact ext_setRow HE.out (by omega) _)
        rw [← hwn]
        clear hwn KA KG KM HE
        have KA := NA; have KG := NG; have KM := NM; have HE := NE
        clear NA NG NM NE
        clear HX0 HX1 HX2
        obtain ⟨c0, c1, c2⟩ := HCE.out wa HE.out
        go_upto_region 19 with (refine Map16.wpList_del rfl (.tmp 41) (.tmp 46) 43 rfl Try.underlying98 Try.underlying43 rfl KM.out id rfl ?_; intro wb hM9 hg9; have HM9 := Lib.hid hM9; have HG9 := Lib.hid hg9; clear hM9 hg9)
        try simp only [Act.put, List.setIfInBounds_toArray, List.set_cons_zero, List.set_cons_succ]
        clear c0 c1 c2
        have KA := Lib.hid (blk_grown KA.out HG9.out (fun e => by have := Option.some.inj e; omega)); have KG := Lib.hid (KG.out.kept HG9.out (fun e => by have := Option.some.inj e; omega)); have HE := Lib.hid (ext_grown HE.out HG9.out (fun n e => by have := Option.some.inj e; omega)); have KM := HM9
        obtain ⟨I, hI, hIM, hI1, hIds, hGet⟩ := HO2.out.ids (by omega)
        have HI := Lib.hid hI; have HIM := Lib.hid hIM; have HIDS := Lib.hid hIds; have HGET := Lib.hid hGet
        clear hI hIM hIds hGet
        go_wp2_with (refine wpList_load_row rfl 78 (.tmp 3) rfl w.heap.size rfl 78 A2 (0, 0) _ KA.out Try.underlying78 rfl (by rw [HZA2.out]; exact sizeA) ?_)
        refine (HIDS.out _).mono ?_
        rintro e wq ⟨v5, rfl, hR5, b5⟩
        obtain ⟨A5, c5, rfl, _⟩ := own_shape hR5
        have HN5 := Lib.hid (Row16.ns hR5).2
        have KA := Lib.hid (KA.out.ext b5); have KG := Lib.hid (KG.out.ext b5); have KM := Lib.hid (KM.out.ext b5); have HE := Lib.hid (ext_trans HE.out b5)
        clear hR5 b5
        go_wp2_with (refine Map16.wpList_len (by rfl) (.tmp 88) rfl Try.underlying98 rfl KM.out I HI.out HIM.out I.length rfl ?_)
        go_loopg [11] I.length (fun g jv wr => ∃ j : Nat, j + g = I.length ∧ jv = .int .i64 ((j : Nat) : Int) ∧ SE wq wr)
        case atStart => exact ⟨0, by omega, rfl, Ext.rfl' _⟩
        case round =>
          obtain ⟨j, hj, rfl, hEj⟩ := hrel
          obtain ⟨wi2, rfl⟩ : ∃ wi2 : World, wi2 = wr := ⟨_, rfl⟩
          have HEJ := Lib.hid hEj
          clear hEj
          have LA := Lib.hid (KA.out.ext HEJ.out); have LM := Lib.hid (KM.out.ext HEJ.out); have LN := Lib.hid (HN5.out.ext HEJ.out)
          by_cases hjl : j < I.length
          · obtain ⟨hy, v6, hMv, hGv⟩ := HGET.out j hjl
            obtain ⟨g6, o6, rfl, _, hc6⟩ := LN.out.2 (by omega)
            have c6 := hc6 j hjl
            have hg6 := World.block_lt_of_cell? _ _ c6
            generalize I.getD j 0 = y at hy hMv hGv c6
            have HMV := Lib.hid hMv; have HGV := Lib.hid hGv; have HC6 := Lib.hid c6
            clear hMv hGv c6 hc6
            have y5 : (j : Int) < (I.length : Int) := by omega
            have y6 : (0 : Int) ≤ (j : Int) := by omega
            go_wp2_with fail
            have HX0 := Lib.hid (show SE wi2 wi2.drew from ext_drew (Ext.rfl' wi2))
            refine wp_region_held_drew (S := SE wi2) hmx HX0.out (fun _ => ?_)
            refine wpAnyH_take (i := 0) (oi := { dst := some 98, op := Go.Op.load 78 (Go.Operand.tmp 3), type := 78, pos := "law.go:158", after := #[], guard := none }) rfl (by kernel_rfl) (by kernel_rfl) (by kernel_rfl) (fun _ _ _ h => h) (yields_row (by rfl) 78 (.tmp 3) rfl w.heap.size rfl 78 A2 _ (fun _ h => LA.out.ext h) Try.underlying78 rfl (by rw [HZA2.out]; exact sizeA)) HX0.out ?_
            (try simp only [Act.put, List.setIfInBounds_toArray, List.set_cons_zero, List.set_cons_succ])
            (refine wpAnyH_take (i := 1) (oi := { dst := some 99, op := Go.Op.move (Go.Operand.tmp 10), type := 99, pos := "law.go:158", after := #[], guard := none }) (v := ?_) rfl (by kernel_rfl) (by kernel_rfl) (by kernel_rfl) (fun _ _ _ h => h) (Or.inl ⟨by rfl, ?_⟩) HX0.out ?_); rotate_left
            · (intro w' hSw; have c6 := kc hSw HC6.out; go_simp; try with_reducible rfl)
            (try simp only [Act.put, List.setIfInBounds_toArray, List.set_cons_zero, List.set_cons_succ])
            (refine wpAnyH_take (i := 2) (oi := { dst := some 100, op := Go.Op.move (Go.Operand.tmp 11), type := 3, pos := "law.go:158", after := #[], guard := none }) (v := ?_) rfl (by kernel_rfl) (by kernel_rfl) (by kernel_rfl) (fun _ _ _ h => h) (Or.inl ⟨by rfl, ?_⟩) HX0.out ?_); rotate_left
            · (intro w' hSw; have c6 := kc hSw HC6.out; go_simp; try with_reducible rfl)
            (try simp only [Act.put, List.setIfInBounds_toArray, List.set_cons_zero, List.set_cons_succ])
            (refine wpAnyH_take (i := 3) (oi := { dst := some 101, op := Go.Op.indexAddr 99 (Go.Operand.tmp 99) (Go.Operand.tmp 100), type := 0, pos := "law.go:158", after := #[{ on := 1, ground := Go.Ground.data }, { on := 2, ground := Go.Ground.data }], guard := none }) (v := ?_) rfl (by kernel_rfl) (by kernel_rfl) (by kernel_rfl) (fun _ _ _ h => h) (Or.inl ⟨by rfl, ?_⟩) HX0.out ?_); rotate_left
            · (intro w' hSw; have c6 := kc hSw HC6.out; go_simp; try with_reducible rfl)
            (try simp only [Act.put, List.setIfInBounds_toArray, List.set_cons_zero, List.set_cons_succ])
            (refine wpAnyH_take (i := 4) (oi := { dst := some 102, op := Go.Op.load 43 (Go.Operand.tmp 101), type := 43, pos := "law.go:158", after := #[{ on := 3, ground := Go.Ground.data }], guard := none }) (v := ?_) rfl (by kernel_rfl) (by kernel_rfl) (by kernel_rfl) (fun _ _ _ h => h) (Or.inl ⟨by rfl, ?_⟩) HX0.out ?_); rotate_left
            · (intro w' hSw; have c6 := kc hSw HC6.out; go_simp; try with_reducible rfl)
            (try simp only [Act.put, List.setIfInBounds_toArray, List.set_cons_zero, List.set_cons_succ])
            refine wpAnyH_ready (rs := [5]) (by kernel_rfl) (by simp) ?_
            refine AllReadyH.cons (o := { dst := some 103, op := Go.Op.call { callee := Go.Callee.value (Go.Operand.func 56), args := #[Go.Operand.tmp 98, Go.Operand.tmp 102], argTypes := #[78, 43] }, type := 93, pos := "law.go:158", after := #[{ on := 0, ground := Go.Ground.data }, { on := 4, ground := Go.Ground.data }], guard := none }) (by kernel_rfl) (fun K hK => ?_) AllReadyH.nil
            go_simp
            refine (HGV.out _).mono ?_
            rintro e x1 ⟨rfl, b9⟩
            have HX1 := Lib.hid (show SE wi2 x1 from ext_trans HX0.out b9)
            clear b9
            (try go_wp2_with fail)
            refine hK.out _ _ HX1.out (fun _ => ?_)
            clear hK K
            (try simp only [Act.put, List.setIfInBounds_toArray, List.set_cons_zero, List.set_cons_succ])
            (refine wpAnyH_take (i := 6) (oi := { dst := some 97, op := Go.Op.move (Go.Operand.tmp 103), type := 93, pos := "law.go:158", after := #[{ on := 5, ground := Go.Ground.data }], guard := none }) (v := ?_) rfl (by kernel_rfl) (by kernel_rfl) (by kernel_rfl) (fun _ _ _ h => h) (Or.inl ⟨by rfl, ?_⟩) HX1.out ?_); rotate_left
            · (intro w' hSw; have c6 := kc hSw HC6.out; go_simp; try with_reducible rfl)
            (try simp only [Act.put, List.setIfInBounds_toArray, List.set_cons_zero, List.set_cons_succ])
            (refine wpAnyH_take (i := 7) (oi := { dst := some 104, op := Go.Op.extract (Go.Operand.tmp 97) 0, type := 3, pos := "law.go:158", after := #[{ on := 6, ground := Go.Ground.data }], guard := none }) (v := ?_) rfl (by kernel_rfl) (by kernel_rfl) (by kernel_rfl) (fun _ _ _ h => h) (Or.inl ⟨by rfl, ?_⟩) HX1.out ?_); rotate_left
            · (intro w' hSw; have c6 := kc hSw HC6.out; go_simp; try with_reducible rfl)
            (try simp only [Act.put, List.setIfInBounds_toArray, List.set_cons_zero, List.set_cons_succ])
            (refine wpAnyH_take (i := 8) (oi := { dst := some 105, op := Go.Op.extract (Go.Operand.tmp 97) 1, type := 4, pos := "law.go:158", after := #[{ on := 6, ground := Go.Ground.data }, { on := 9, ground := Go.Ground.gcOnly Go.Departure.lateStores }], guard := none }) (v := ?_) rfl (by kernel_rfl) (by kernel_rfl) (by kernel_rfl) (fun _ _ _ h => h) (Or.inl ⟨by rfl, ?_⟩) HX1.out ?_); rotate_left
            · (intro w' hSw; have c6 := kc hSw HC6.out; go_simp; try with_reducible rfl)
            (try simp only [Act.put, List.setIfInBounds_toArray, List.set_cons_zero, List.set_cons_succ])
            (refine wpAnyH_take (i := 9) (oi := { dst := some 12, op := Go.Op.assign (Go.Operand.tmp 104), type := 3, pos := "law.go:158", after := #[{ on := 7, ground := Go.Ground.data }, { on := 5, ground := Go.Ground.chain }, { on := 0, ground := Go.Ground.phase }, { on := 1, ground := Go.Ground.phase }, { on := 2, ground := Go.Ground.phase }, { on := 3, ground := Go.Ground.phase }, { on := 4, ground := Go.Ground.phase }, { on := 5, ground := Go.Ground.phase }, { on := 6, ground := Go.Ground.phase }, { on := 7, ground := Go.Ground.phase }, { on := 8, ground := Go.Ground.textOnly Go.Departure.lateStores }], guard := none }) (v := ?_) rfl (by kernel_rfl) (by kernel_rfl) (by kernel_rfl) (fun _ _ _ h => h) (Or.inl ⟨by rfl, ?_⟩) HX1.out ?_); rotate_left
            · (intro w' hSw; have c6 := kc hSw HC6.out; go_simp; try with_reducible rfl)
            (try simp only [Act.put, List.setIfInBounds_toArray, List.set_cons_zero, List.set_cons_succ])
            (refine wpAnyH_take (i := 10) (oi := { dst := some 13, op := Go.Op.assign (Go.Operand.tmp 105), type := 4, pos := "law.go:158", after := #[{ on := 8, ground := Go.Ground.data }, { on := 9, ground := Go.Ground.chain }, { on := 0, ground := Go.Ground.phase }, { on := 1, ground := Go.Ground.phase }, { on := 2, ground := Go.Ground.phase }, { on := 3, ground := Go.Ground.phase }, { on := 4, ground := Go.Ground.phase }, { on := 5, ground := Go.Ground.phase }, { on := 6, ground := Go.Ground.phase }, { on := 7, ground := Go.Ground.phase }, { on := 8, ground := Go.Ground.phase }, { on := 9, ground := Go.Ground.phase }], guard := none }) (v := ?_) rfl (by kernel_rfl) (by kernel_rfl) (by kernel_rfl) (fun _ _ _ h => h) (Or.inl ⟨by rfl, ?_⟩) HX1.out ?_); rotate_left
            · (intro w' hSw; have c6 := kc hSw HC6.out; go_simp; try with_reducible rfl)
            (try simp only [Act.put, List.setIfInBounds_toArray, List.set_cons_zero, List.set_cons_succ])
            refine wpAnyH_done (by kernel_rfl) ?_ _
            have LM1 := Lib.hid (LM.out.ext HX1.out)
            have c6 := kc HX1.out HC6.out
            go_wp2_with (refine Map16.wpList_look2 rfl (.tmp 107) (.tmp 111) rfl Try.underlying98 Try.underlying43 (zInt _) rfl LM1.out y rfl (.int .i64 v6) true (by rw [HMV.out]; rfl) (by rw [HMV.out]; rfl) ?_)
            go_roundg (I.length - (j + 1))
            case measure => omega
            case rel => exact ⟨j + 1, by omega, by go_num, ext_trans HEJ.out HX1.out⟩
          · have y5 : ¬ (j : Int) < (I.length : Int) := by omega
            go_wp2_with fail
            go_roundg (n - (k + 1))
            case measure => omega
            case rel => exact ⟨k + 1, A2, G1, _, by omega, by omega, by go_num, HO2.out, LA.out, KG.out.ext HEJ.out, LM.out, ext_trans HE.out HEJ.out⟩
      · have z0 : ((d : Int) == 0) = false := beq_eq_false_iff_ne.2 (by omega)
        obtain ⟨A2, hC⟩ := HO1.out.add (by omega) v
        go_wp2_with fail
        clear c0 c1 c2
        rcases hC with ⟨m, hm16, hGm, hO2, hC1⟩ | ⟨hO2, hfull, hC1⟩
        ·
          have HO2 := Lib.hid hO2; have HC1 := Lib.hid hC1; have HGM := Lib.hid hGm
          clear hO2 hC1 hGm
          obtain ⟨s1, s2⟩ := HO2.out.sizes
          have HZA2 := Lib.hid s1; have HOA2 := Lib.hid s2
          clear s1 s2
          go_cut [7, 8, 9] from 22 to 125 (fun s7 s8 s9 wx => ∃ bx, s7 = .pointer (some ⟨bx, 0, none⟩) ∧ s8 = .int .u16 (m : Int) ∧ s9 = .bool true ∧ w.heap.size + 1 + 1 < bx ∧ Blk wx bx 78 A2 ∧ Blk wx w.heap.size 78 A1 ∧ MapR wx (w.heap.size + 1) G1 ∧ MapR wx (w.heap.size + 1 + 1) M1 ∧ Ext w wx)
          case first =>
            have HCC : Hid (∀ w', SE wi w' → Ext w w') := Lib.hid (fun w' h => ext_trans HE.out h)
            have KX0 := Lib.hid KA.out
            have hdw : Ext wi wi.drew := ext_drew (Ext.rfl' wi)
            have KA := Lib.hid (KA.out.ext hdw); have KG := Lib.hid (KG.out.ext hdw); have KM := Lib.hid (KM.out.ext hdw); have HE := Lib.hid (ext_trans HE.out hdw)
            clear hdw
            have hsz3 := KM.out.lt
            have HX0 := Lib.hid (show SE wi wi.drew from ext_drew (Ext.rfl' wi))
            refine wp_region_held_drew (S := SE wi) hmx HX0.out (fun _ => ?_)
            refine wpAnyH_take (i := 0) (oi := { dst := some 48, op := Go.Op.load 78 (Go.Operand.tmp 3), type := 78, pos := "law.go:143", after := #[], guard := none }) rfl (by kernel_rfl) (by kernel_rfl) (by kernel_rfl) (fun _ _ _ h => h) (yields_row (by rfl) 78 (.tmp 3) rfl w.heap.size rfl 78 A1 _ (fun _ h => KX0.out.ext h) Try.underlying78 rfl (by rw [HZA1.out]; exact sizeA)) HX0.out ?_
            (try simp only [Act.put, List.setIfInBounds_toArray, List.set_cons_zero, List.set_cons_succ])
            (refine wpAnyH_take (i := 1) (oi := { dst := some 49, op := Go.Op.move (Go.Operand.tmp 0), type := 73, pos := "law.go:143", after := #[], guard := none }) (v := ?_) rfl (by kernel_rfl) (by kernel_rfl) (by kernel_rfl) (fun _ _ _ h => h) (Or.inl ⟨by rfl, ?_⟩) HX0.out ?_); rotate_left
            · (intro w' hSw; obtain ⟨c0, c1, c2⟩ := HCE.out w' (HCC.out w' hSw); go_simp; try with_reducible rfl)
            (try simp only [Act.put, List.setIfInBounds_toArray, List.set_cons_zero, List.set_cons_succ])
            (refine wpAnyH_take (i := 2) (oi := { dst := some 50, op := Go.Op.move (Go.Operand.tmp 6), type := 3, pos := "law.go:143", after := #[], guard := none }) (v := ?_) rfl (by kernel_rfl) (by kernel_rfl) (by kernel_rfl) (fun _ _ _ h => h) (Or.inl ⟨by rfl, ?_⟩) HX0.out ?_); rotate_left
            · (intro w' hSw; obtain ⟨c0, c1, c2⟩ := HCE.out w' (HCC.out w' hSw); go_simp; try with_reducible rfl)
            (try simp only [Act.put, List.setIfInBounds_toArray, List.set_cons_zero, List.set_cons_succ])
            (refine wpAnyH_take (i := 3) (oi := { dst := some 51, op := Go.Op.indexAddr 73 (Go.Operand.tmp 49) (Go.Operand.tmp 50), type := 0, pos := "law.go:143", after := #[{ on := 1, ground := Go.Ground.data }, { on := 2, ground := Go.Ground.data }], guard := none }) (v := ?_) rfl (by kernel_rfl) (by kernel_rfl) (by kernel_rfl) (fun _ _ _ h => h) (Or.inl ⟨by rfl, ?_⟩) HX0.out ?_); rotate_left
            · (intro w' hSw; obtain ⟨c0, c1, c2⟩ := HCE.out w' (HCC.out w' hSw); go_simp; try with_reducible rfl)
            (try simp only [Act.put, List.setIfInBounds_toArray, List.set_cons_zero, List.set_cons_succ])
            (refine wpAnyH_take (i := 4) (oi := { dst := some 52, op := Go.Op.fieldAddr 84 (Go.Operand.tmp 51) 2, type := 0, pos := "law.go:143", after := #[{ on := 3, ground := Go.Ground.data }], guard := none }) (v := ?_) rfl (by kernel_rfl) (by kernel_rfl) (by kernel_rfl) (fun _ _ _ h => h) (Or.inl ⟨by rfl, ?_⟩) HX0.out ?_); rotate_left
            · (intro w' hSw; obtain ⟨c0, c1, c2⟩ := HCE.out w' (HCC.out w' hSw); go_simp; try with_reducible rfl)
            (try simp only [Act.put, List.setIfInBounds_toArray, List.set_cons_zero, List.set_cons_succ])
            (refine wpAnyH_take (i := 5) (oi := { dst := some 53, op := Go.Op.load 3 (Go.Operand.tmp 52), type := 3, pos := "law.go:143", after := #[{ on := 4, ground := Go.Ground.data }], guard := none }) (v := ?_) rfl (by kernel_rfl) (by kernel_rfl) (by kernel_rfl) (fun _ _ _ h => h) (Or.inl ⟨by rfl, ?_⟩) HX0.out ?_); rotate_left
            · (intro w' hSw; obtain ⟨c0, c1, c2⟩ := HCE.out w' (HCC.out w' hSw); go_simp; try with_reducible rfl)
            (try simp only [Act.put, List.setIfInBounds_toArray, List.set_cons_zero, List.set_cons_succ])
            refine wpAnyH_ready (rs := [6, 11]) (by kernel_rfl) (by simp) ?_
            refine AllReadyH.cons (o := { dst := some 54, op := Go.Op.call { callee := Go.Callee.value (Go.Operand.func 54), args := #[Go.Operand.tmp 48, Go.Operand.tmp 53], argTypes := #[78, 3] }, type := 89, pos := "law.go:143", after := #[{ on := 0, ground := Go.Ground.data }, { on := 5, ground := Go.Ground.data }], guard := none }) (by kernel_rfl) (fun K hK => ?_) (AllReadyH.cons (o := { dst := some 7, op := Go.Op.alloc 78, type := 0, pos := "law.go:143", after := #[], guard := none }) (by kernel_rfl) (fun K hK => ?_) AllReadyH.nil)
            ·
              go_simp
              refine (HC1.out _).mono ?_
              rintro e x6 ⟨rfl, b9⟩
              have KA := Lib.hid (KA.out.ext b9); have KG := Lib.hid (KG.out.ext b9); have KM := Lib.hid (KM.out.ext b9); have HE := Lib.hid (ext_trans HE.out b9)
              have HX24 := Lib.hid (show SE wi x6 from ext_trans HX0.out b9)
              have hszHX24 := b9.size
              clear b9
              (try go_wp2_with fail)
              refine hK.out _ _ HX24.out (fun _ => ?_)
              clear hK K
              (try simp only [Act.put, List.setIfInBounds_toArray, List.set_cons_zero, List.set_cons_succ])
              (refine wpAnyH_take (i := 7) (oi := { dst := some 47, op := Go.Op.move (Go.Operand.tmp 54), type := 89, pos := "law.go:143", after := #[{ on := 6, ground := Go.Ground.data }], guard := none }) (v := ?_) rfl (by kernel_rfl) (by kernel_rfl) (by kernel_rfl) (fun _ _ _ h => h) (Or.inl ⟨by rfl, ?_⟩) HX24.out ?_); rotate_left
              · (intro w' hSw; obtain ⟨c0, c1, c2⟩ := HCE.out w' (HCC.out w' hSw); go_simp; try with_reducible rfl)
              (try simp only [Act.put, List.setIfInBounds_toArray, List.set_cons_zero, List.set_cons_succ])
              (refine wpAnyH_take (i := 8) (oi := { dst := some 55, op := Go.Op.extract (Go.Operand.tmp 47) 0, type := 78, pos := "law.go:143", after := #[{ on := 7, ground := Go.Ground.data }], guard := none }) (v := ?_) rfl (by kernel_rfl) (by kernel_rfl) (by kernel_rfl) (fun _ _ _ h => h) (Or.inl ⟨by rfl, ?_⟩) HX24.out ?_); rotate_left
              · (intro w' hSw; obtain ⟨c0, c1, c2⟩ := HCE.out w' (HCC.out w' hSw); go_simp; try with_reducible rfl)
              (try simp only [Act.put, List.setIfInBounds_toArray, List.set_cons_zero, List.set_cons_succ])
              (refine wpAnyH_take (i := 9) (oi := { dst := some 56, op := Go.Op.extract (Go.Operand.tmp 47) 1, type := 43, pos := "law.go:143", after := #[{ on := 7, ground := Go.Ground.data }, { on := 12, ground := Go.Ground.gcOnly Go.Departure.lateStores }], guard := none }) (v := ?_) rfl (by kernel_rfl) (by kernel_rfl) (by kernel_rfl) (fun _ _ _ h => h) (Or.inl ⟨by rfl, ?_⟩) HX24.out ?_); rotate_left
              · (intro w' hSw; obtain ⟨c0, c1, c2⟩ := HCE.out w' (HCC.out w' hSw); go_simp; try with_reducible rfl)
              (try simp only [Act.put, List.setIfInBounds_toArray, List.set_cons_zero, List.set_cons_succ])
              (refine wpAnyH_take (i := 10) (oi := { dst := some 57, op := Go.Op.extract (Go.Operand.tmp 47) 2, type := 4, pos := "law.go:143", after := #[{ on := 7, ground := Go.Ground.data }, { on := 13, ground := Go.Ground.gcOnly Go.Departure.lateStores }], guard := none }) (v := ?_) rfl (by kernel_rfl) (by kernel_rfl) (by kernel_rfl) (fun _ _ _ h => h) (Or.inl ⟨by rfl, ?_⟩) HX24.out ?_); rotate_left
              · (intro w' hSw; obtain ⟨c0, c1, c2⟩ := HCE.out w' (HCC.out w' hSw); go_simp; try with_reducible rfl)
              (try simp only [Act.put, List.setIfInBounds_toArray, List.set_cons_zero, List.set_cons_succ])
              refine wpAnyH_ready (rs := [11]) (by kernel_rfl) (by simp) ?_
              refine AllReadyH.cons (o := { dst := some 7, op := Go.Op.alloc 78, type := 0, pos := "law.go:143", after := #[], guard := none }) (by kernel_rfl) (fun K hK => ?_) AllReadyH.nil
              refine want (by rfl) ?_
              refine wp_allocZ 78 rfl ZA HZA0.out ?_
              have KN := Lib.hid (Blk.new x6 78 ZA)
              have hnn : wi.heap.size ≤ (x6).heap.size := by have := HX24.out.size; exact this
              have hae := ext_alloc (Ext.rfl' (x6)) (.cells ZA 78)
              have KA := Lib.hid (KA.out.ext hae); have KG := Lib.hid (KG.out.ext hae); have KM := Lib.hid (KM.out.ext hae); have HE := Lib.hid (ext_trans HE.out hae)
              clear hae
              have HX44 := Lib.hid (show SE wi _ from ext_alloc HX24.out (.cells ZA 78))
              refine hK.out _ _ HX44.out (fun _ => ?_)
              clear hK K
              (try simp only [Act.put, List.setIfInBounds_toArray, List.set_cons_zero, List.set_cons_succ])
              refine wpAnyH_ready (rs := [12]) (by kernel_rfl) (by simp) ?_
              refine AllReadyH.cons (o := { dst := none, op := Go.Op.store 78 (Go.Operand.tmp 7) (Go.Operand.tmp 55), type := 0, pos := "law.go:143", after := #[{ on := 11, ground := Go.Ground.data }, { on := 8, ground := Go.Ground.data }, { on := 6, ground := Go.Ground.chain }, { on := 0, ground := Go.Ground.phase }, { on := 1, ground := Go.Ground.phase }, { on := 2, ground := Go.Ground.phase }, { on := 3, ground := Go.Ground.phase }, { on := 4, ground := Go.Ground.phase }, { on := 5, ground := Go.Ground.phase }, { on := 6, ground := Go.Ground.phase }, { on := 7, ground := Go.Ground.phase }, { on := 8, ground := Go.Ground.phase }, { on := 9, ground := Go.Ground.textOnly Go.Departure.lateStores }, { on := 10, ground := Go.Ground.textOnly Go.Departure.lateStores }, { on := 11, ground := Go.Ground.phase }], guard := none }) (by kernel_rfl) (fun K hK => ?_) AllReadyH.nil
              refine want (by rfl) ?_
              refine wp_store_row 78 (.tmp 7) (.tmp 55) rfl ((x6).heap.size) A2 rfl rfl 78 ZA KN.out (by rw [HZA2.out]; exact sizeA) (by rw [HZZA.out, HZA2.out]) HOA2.out ?_
              have hnb : w.heap.size + 1 + 1 < (x6).heap.size := by have := hnn; first | omega | (have h9 : wi.drew.heap.size = wi.heap.size := rfl; omega)
              have KA := Lib.hid (setRow_far (h := (x6).heap.size) (ds := A2) KA.out (by omega))
              have KG := Lib.hid (KG.out.blk (setRow_other _ (x6).heap.size (w.heap.size + 1) A2 (by omega)))
              have KM := Lib.hid (KM.out.blk (setRow_other _ (x6).heap.size (w.heap.size + 1 + 1) A2 (by omega)))
              have KN := Lib.hid (setRow_blk (cs := A2) KN.out)
              have HE := Lib.hid (ext_setRow HE.out (show w.heap.size ≤ (x6).heap.size by omega) A2)
              have HX48 := Lib.hid (show SE wi _ from ext_setRow HX44.out hnn A2)
              refine hK.out _ _ HX48.out (fun _ => ?_)
              clear hK K
              (try simp only [Act.put, List.setIfInBounds_toArray, List.set_cons_zero, List.set_cons_succ])
              (refine wpAnyH_take (i := 13) (oi := { dst := some 8, op := Go.Op.assign (Go.Operand.tmp 56), type := 43, pos := "law.go:143", after := #[{ on := 9, ground := Go.Ground.data }, { on := 12, ground := Go.Ground.chain }, { on := 0, ground := Go.Ground.phase }, { on := 1, ground := Go.Ground.phase }, { on := 2, ground := Go.Ground.phase }, { on := 3, ground := Go.Ground.phase }, { on := 4, ground := Go.Ground.phase }, { on := 5, ground := Go.Ground.phase }, { on := 6, ground := Go.Ground.phase }, { on := 7, ground := Go.Ground.phase }, { on := 8, ground := Go.Ground.phase }, { on := 9, ground := Go.Ground.phase }, { on := 10, ground := Go.Ground.textOnly Go.Departure.lateStores }, { on := 11, ground := Go.Ground.phase }, { on := 12, ground := Go.Ground.phase }], guard := none }) (v := ?_) rfl (by kernel_rfl) (by kernel_rfl) (by kernel_rfl) (fun _ _ _ h => h) (Or.inl ⟨by rfl, ?_⟩) HX48.out ?_); rotate_left
              · (intro w' hSw; obtain ⟨c0, c1, c2⟩ := HCE.out w' (HCC.out w' hSw); go_simp; try with_reducible rfl)
              (try simp only [Act.put, List.setIfInBounds_toArray, List.set_cons_zero, List.set_cons_succ])
              (refine wpAnyH_take (i := 14) (oi := { dst := some 9, op := Go.Op.assign (Go.Operand.tmp 57), type := 4, pos := "law.go:143", after := #[{ on := 10, ground := Go.Ground.data }, { on := 13, ground := Go.Ground.chain }, { on := 0, ground := Go.Ground.phase }, { on := 1, ground := Go.Ground.phase }, { on := 2, ground := Go.Ground.phase }, { on := 3, ground := Go.Ground.phase }, { on := 4, ground := Go.Ground.phase }, { on := 5, ground := Go.Ground.phase }, { on := 6, ground := Go.Ground.phase }, { on := 7, ground := Go.Ground.phase }, { on := 8, ground := Go.Ground.phase }, { on := 9, ground := Go.Ground.phase }, { on := 10, ground := Go.Ground.phase }, { on := 11, ground := Go.Ground.phase }, { on := 12, ground := Go.Ground.phase }, { on := 13, ground := Go.Ground.phase }], guard := none }) (v := ?_) rfl (by kernel_rfl) (by kernel_rfl) (by kernel_rfl) (fun _ _ _ h => h) (Or.inl ⟨by rfl, ?_⟩) HX48.out ?_); rotate_left
              · (intro w' hSw; obtain ⟨c0, c1, c2⟩ := HCE.out w' (HCC.out w' hSw); go_simp; try with_reducible rfl)
              (try simp only [Act.put, List.setIfInBounds_toArray, List.set_cons_zero, List.set_cons_succ])
              refine wpAnyH_done (by kernel_rfl) ?_ _
              go_wp2_with fail
              go_meet
              have h9 : wi.drew.heap.size = wi.heap.size := rfl
              exact ⟨_, rfl, rfl, rfl, by omega, KN.out, KA.out, KG.out, KM.out, HE.out⟩
            ·
              refine want (by rfl) ?_
              refine wp_allocZ 78 rfl ZA HZA0.out ?_
              have KN := Lib.hid (Blk.new wi.drew 78 ZA)
              have hnn : wi.heap.size ≤ (wi.drew).heap.size := by have := HX0.out.size; exact this
              have hae := ext_alloc (Ext.rfl' (wi.drew)) (.cells ZA 78)
              have KA := Lib.hid (KA.out.ext hae); have KG := Lib.hid (KG.out.ext hae); have KM := Lib.hid (KM.out.ext hae); have HE := Lib.hid (ext_trans HE.out hae)
              clear hae
              have HX29 := Lib.hid (show SE wi _ from ext_alloc HX0.out (.cells ZA 78))
              refine hK.out _ _ HX29.out (fun _ => ?_)
              clear hK K
              (try simp only [Act.put, List.setIfInBounds_toArray, List.set_cons_zero, List.set_cons_succ])
              refine wpAnyH_ready (rs := [6]) (by kernel_rfl) (by simp) ?_
              refine AllReadyH.cons (o := { dst := some 54, op := Go.Op.call { callee := Go.Callee.value (Go.Operand.func 54), args := #[Go.Operand.tmp 48, Go.Operand.tmp 53], argTypes := #[78, 3] }, type := 89, pos := "law.go:143", after := #[{ on := 0, ground := Go.Ground.data }, { on := 5, ground := Go.Ground.data }], guard := none }) (by kernel_rfl) (fun K hK => ?_) AllReadyH.nil
              go_simp
              refine (HC1.out _).mono ?_
              rintro e x7 ⟨rfl, b9⟩
              have KA := Lib.hid (KA.out.ext b9); have KG := Lib.hid (KG.out.ext b9); have KM := Lib.hid (KM.out.ext b9); have KN := Lib.hid (KN.out.ext b9); have HE := Lib.hid (ext_trans HE.out b9)
              have HX27 := Lib.hid (show SE wi x7 from ext_trans HX29.out b9)
              have hszHX27 := b9.size
              clear b9
              (try go_wp2_with fail)
              refine hK.out _ _ HX27.out (fun _ => ?_)
              clear hK K
              (try simp only [Act.put, List.setIfInBounds_toArray, List.set_cons_zero, List.set_cons_succ])
              (refine wpAnyH_take (i := 7) (oi := { dst := some 47, op := Go.Op.move (Go.Operand.tmp 54), type := 89, pos := "law.go:143", after := #[{ on := 6, ground := Go.Ground.data }], guard := none }) (v := ?_) rfl (by kernel_rfl) (by kernel_rfl) (by kernel_rfl) (fun _ _ _ h => h) (Or.inl ⟨by rfl, ?_⟩) HX27.out ?_); rotate_left
              · (intro w' hSw; obtain ⟨c0, c1, c2⟩ := HCE.out w' (HCC.out w' hSw); go_simp; try with_reducible rfl)
              (try simp only [Act.put, List.setIfInBounds_toArray, List.set_cons_zero, List.set_cons_succ])
              (refine wpAnyH_take (i := 8) (oi := { dst := some 55, op := Go.Op.extract (Go.Operand.tmp 47) 0, type := 78, pos := "law.go:143", after := #[{ on := 7, ground := Go.Ground.data }], guard := none }) (v := ?_) rfl (by kernel_rfl) (by kernel_rfl) (by kernel_rfl) (fun _ _ _ h => h) (Or.inl ⟨by rfl, ?_⟩) HX27.out ?_); rotate_left
              · (intro w' hSw; obtain ⟨c0, c1, c2⟩ := HCE.out w' (HCC.out w' hSw); go_simp; try with_reducible rfl)
              (try simp only [Act.put, List.setIfInBounds_toArray, List.set_cons_zero, List.set_cons_succ])
              (refine wpAnyH_take (i := 9) (oi := { dst := some 56, op := Go.Op.extract (Go.Operand.tmp 47) 1, type := 43, pos := "law.go:143", after := #[{ on := 7, ground := Go.Ground.data }, { on := 12, ground := Go.Ground.gcOnly Go.Departure.lateStores }], guard := none }) (v := ?_) rfl (by kernel_rfl) (by kernel_rfl) (by kernel_rfl) (fun _ _ _ h => h) (Or.inl ⟨by rfl, ?_⟩) HX27.out ?_); rotate_left
              · (intro w' hSw; obtain ⟨c0, c1, c2⟩ := HCE.out w' (HCC.out w' hSw); go_simp; try with_reducible rfl)
              (try simp only [Act.put, List.setIfInBounds_toArray, List.set_cons_zero, List.set_cons_succ])
              (refine wpAnyH_take (i := 10) (oi := { dst := some 57, op := Go.Op.extract (Go.Operand.tmp 47) 2, type := 4, pos := "law.go:143", after := #[{ on := 7, ground := Go.Ground.data }, { on := 13, ground := Go.Ground.gcOnly Go.Departure.lateStores }], guard := none }) (v := ?_) rfl (by kernel_rfl) (by kernel_rfl) (by kernel_rfl) (fun _ _ _ h => h) (Or.inl ⟨by rfl, ?_⟩) HX27.out ?_); rotate_left
              · (intro w' hSw; obtain ⟨c0, c1, c2⟩ := HCE.out w' (HCC.out w' hSw); go_simp; try with_reducible rfl)
              (try simp only [Act.put, List.setIfInBounds_toArray, List.set_cons_zero, List.set_cons_succ])
              refine wpAnyH_ready (rs := [12]) (by kernel_rfl) (by simp) ?_
              refine AllReadyH.cons (o := { dst := none, op := Go.Op.store 78 (Go.Operand.tmp 7) (Go.Operand.tmp 55), type := 0, pos := "law.go:143", after := #[{ on := 11, ground := Go.Ground.data }, { on := 8, ground := Go.Ground.data }, { on := 6, ground := Go.Ground.chain }, { on := 0, ground := Go.Ground.phase }, { on := 1, ground := Go.Ground.phase }, { on := 2, ground := Go.Ground.phase }, { on := 3, ground := Go.Ground.phase }, { on := 4, ground := Go.Ground.phase }, { on := 5, ground := Go.Ground.phase }, { on := 6, ground := Go.Ground.phase }, { on := 7, ground := Go.Ground.phase }, { on := 8, ground := Go.Ground.phase }, { on := 9, ground := Go.Ground.textOnly Go.Departure.lateStores }, { on := 10, ground := Go.Ground.textOnly Go.Departure.lateStores }, { on := 11, ground := Go.Ground.phase }], guard := none }) (by kernel_rfl) (fun K hK => ?_) AllReadyH.nil
              refine want (by rfl) ?_
              refine wp_store_row 78 (.tmp 7) (.tmp 55) rfl ((wi.drew).heap.size) A2 rfl rfl 78 ZA KN.out (by rw [HZA2.out]; exact sizeA) (by rw [HZZA.out, HZA2.out]) HOA2.out ?_
              have hnb : w.heap.size + 1 + 1 < (wi.drew).heap.size := by have := hnn; first | omega | (have h9 : wi.drew.heap.size = wi.heap.size := rfl; omega)
              have KA := Lib.hid (setRow_far (h := (wi.drew).heap.size) (ds := A2) KA.out (by omega))
              have KG := Lib.hid (KG.out.blk (setRow_other _ (wi.drew).heap.size (w.heap.size + 1) A2 (by omega)))
              have KM := Lib.hid (KM.out.blk (setRow_other _ (wi.drew).heap.size (w.heap.size + 1 + 1) A2 (by omega)))
              have KN := Lib.hid (setRow_blk (cs := A2) KN.out)
              have HE := Lib.hid (ext_setRow HE.out (show w.heap.size ≤ (wi.drew).heap.size by omega) A2)
              have HX48 := Lib.hid (show SE wi _ from ext_setRow HX27.out hnn A2)
              refine hK.out _ _ HX48.out (fun _ => ?_)
              clear hK K
              (try simp only [Act.put, List.setIfInBounds_toArray, List.set_cons_zero, List.set_cons_succ])
              (refine wpAnyH_take (i := 13) (oi := { dst := some 8, op := Go.Op.assign (Go.Operand.tmp 56), type := 43, pos := "law.go:143", after := #[{ on := 9, ground := Go.Ground.data }, { on := 12, ground := Go.Ground.chain }, { on := 0, ground := Go.Ground.phase }, { on := 1, ground := Go.Ground.phase }, { on := 2, ground := Go.Ground.phase }, { on := 3, ground := Go.Ground.phase }, { on := 4, ground := Go.Ground.phase }, { on := 5, ground := Go.Ground.phase }, { on := 6, ground := Go.Ground.phase }, { on := 7, ground := Go.Ground.phase }, { on := 8, ground := Go.Ground.phase }, { on := 9, ground := Go.Ground.phase }, { on := 10, ground := Go.Ground.textOnly Go.Departure.lateStores }, { on := 11, ground := Go.Ground.phase }, { on := 12, ground := Go.Ground.phase }], guard := none }) (v := ?_) rfl (by kernel_rfl) (by kernel_rfl) (by kernel_rfl) (fun _ _ _ h => h) (Or.inl ⟨by rfl, ?_⟩) HX48.out ?_); rotate_left
              · (intro w' hSw; obtain ⟨c0, c1, c2⟩ := HCE.out w' (HCC.out w' hSw); go_simp; try with_reducible rfl)
              (try simp only [Act.put, List.setIfInBounds_toArray, List.set_cons_zero, List.set_cons_succ])
              (refine wpAnyH_take (i := 14) (oi := { dst := some 9, op := Go.Op.assign (Go.Operand.tmp 57), type := 4, pos := "law.go:143", after := #[{ on := 10, ground := Go.Ground.data }, { on := 13, ground := Go.Ground.chain }, { on := 0, ground := Go.Ground.phase }, { on := 1, ground := Go.Ground.phase }, { on := 2, ground := Go.Ground.phase }, { on := 3, ground := Go.Ground.phase }, { on := 4, ground := Go.Ground.phase }, { on := 5, ground := Go.Ground.phase }, { on := 6, ground := Go.Ground.phase }, { on := 7, ground := Go.Ground.phase }, { on := 8, ground := Go.Ground.phase }, { on := 9, ground := Go.Ground.phase }, { on := 10, ground := Go.Ground.phase }, { on := 11, ground := Go.Ground.phase }, { on := 12, ground := Go.Ground.phase }, { on := 13, ground := Go.Ground.phase }], guard := none }) (v := ?_) rfl (by kernel_rfl) (by kernel_rfl) (by kernel_rfl) (fun _ _ _ h => h) (Or.inl ⟨by rfl, ?_⟩) HX48.out ?_); rotate_left
              · (intro w' hSw; obtain ⟨c0, c1, c2⟩ := HCE.out w' (HCC.out w' hSw); go_simp; try with_reducible rfl)
              (try simp only [Act.put, List.setIfInBounds_toArray, List.set_cons_zero, List.set_cons_succ])
              refine wpAnyH_done (by kernel_rfl) ?_ _
              go_wp2_with fail
              go_meet
              have h9 : wi.drew.heap.size = wi.heap.size := rfl
              exact ⟨_, rfl, rfl, rfl, by omega, KN.out, KA.out, KG.out, KM.out, HE.out⟩
          case rest =>
          obtain ⟨bn, rfl, rfl, rfl, hb_bn, kn, ka, kg, km, he⟩ := hcut
          obtain ⟨wa, hwl⟩ : ∃ W9 : World, W9 = wc := ⟨_, rfl⟩
          rw [← hwl] at kn ka kg km he ⊢
          clear hwl KA KG KM HE
          have KP := Lib.hid kn; have KA := Lib.hid ka; have KG := Lib.hid kg; have KM := Lib.hid km; have HE := Lib.hid he
          clear kn ka kg km he
          go_upto_region 14 with (first | (refine wpList_load_row rfl 78 (.tmp 7) rfl bn rfl 78 A2 (0, 0) _ KP.out Try.underlying78 rfl (by rw [HZA2.out]; exact sizeA) ?_) | (refine wpList_store_row rfl 78 (.tmp 3) (.tmp 58) rfl w.heap.size A2 rfl rfl 78 A1 KA.out (by rw [HZA2.out]; exact sizeA) (by rw [HZA1.out, HZA2.out]) HOA2.out ?_))
          try simp only [Act.put, List.setIfInBounds_toArray, List.set_cons_zero, List.set_cons_succ]
          obtain ⟨wd, hwn⟩ : ∃ W9 : World, W9 = wa.setRow w.heap.size A2 := ⟨_, rfl⟩
          have NA := Lib.hid (show Blk wd w.heap.size 78 A2 from by rw [hwn]; exact setRow_blk KA.out)
          have NG := Lib.hid (KG.out.blk (show wd.heap[(w.heap.size + 1)]? = wa.heap[(w.heap.size + 1)]? from by rw [hwn]; exact setRow_other _ _ _ _ (by omega)))
          have NM := Lib.hid (KM.out.blk (show wd.heap[(w.heap.size + 1 + 1)]? = wa.heap[(w.heap.size + 1 + 1)]? from by rw [hwn]; exact setRow_other _ _ _ _ (by omega)))
          have NE := Lib.hid (show Ext w wd from by rw [hwn]; exact ext_setRow HE.out (by omega) _)
          rw [← hwn]
          clear hwn KA KG KM HE
          have KA := NA; have KG := NG; have KM := NM; have HE := NE
          clear NA NG NM NE
          obtain ⟨c0, c1, c2⟩ := HCE.out wd HE.out
          go_upto_region 17 with (refine Map16.wpList_look (by rfl) (.tmp 61) (.tmp 62) rfl Try.underlying97 Try.underlying43 (zBool _) rfl KG.out m rfl (.bool false) (by rw [HGM.out]; rfl) ?_)
          go_upto_region 18 with (refine Map16.wpList_put rfl (.tmp 75) (.tmp 76) (.const (.bool true)) rfl Try.underlying97 Try.underlying43 rfl KG.out m (.bool true) rfl rfl ?_; intro we hM9 hg9; have HM9 := Lib.hid hM9; have HG9 := Lib.hid hg9; clear hM9 hg9)
          try simp only [Act.put, List.setIfInBounds_toArray, List.set_cons_zero, List.set_cons_succ]
          have KA := Lib.hid (blk_grown KA.out HG9.out (fun e => by have := Option.some.inj e; omega)); have KM := Lib.hid (KM.out.kept HG9.out (fun e => by have := Option.some.inj e; omega)); have HE := Lib.hid (ext_grown HE.out HG9.out (fun n e => by have := Option.some.inj e; omega)); have KG := HM9
          clear c0 c1 c2 HM9 HG9
          obtain ⟨c0, c1, c2⟩ := HCE.out we HE.out
          go_upto_region 19 with (refine Map16.wpList_put rfl (.tmp 77) (.tmp 78) (.tmp 83) rfl Try.underlying98 Try.underlying43 rfl KM.out m (.int .i64 v) rfl rfl ?_; intro wf hM9 hg9; have HM9 := Lib.hid hM9; have HG9 := Lib.hid hg9; clear hM9 hg9)
          try simp only [Act.put, List.setIfInBounds_toArray, List.set_cons_zero, List.set_cons_succ]
          have KA := Lib.hid (blk_grown KA.out HG9.out (fun e => by have := Option.some.inj e; omega)); have KG := Lib.hid (KG.out.kept HG9.out (fun e => by have := Option.some.inj e; omega)); have HE := Lib.hid (ext_grown HE.out HG9.out (fun n e => by have := Option.some.inj e; omega)); have KM := HM9
          clear c0 c1 c2 HM9 HG9
          obtain ⟨I, hI, hIM, hI1, hIds, hGet⟩ := HO2.out.ids (by omega)
          have HI := Lib.hid hI; have HIM := Lib.hid hIM; have HIDS := Lib.hid hIds; have HGET := Lib.hid hGet
          clear hI hIM hIds hGet
          go_wp2_with (refine wpList_load_row rfl 78 (.tmp 3) rfl w.heap.size rfl 78 A2 (0, 0) _ KA.out Try.underlying78 rfl (by rw [HZA2.out]; exact sizeA) ?_)
          refine (HIDS.out _).mono ?_
          rintro e wq ⟨v5, rfl, hR5, b5⟩
          obtain ⟨A5, c5, rfl, _⟩ := own_shape hR5
          have HN5 := Lib.hid (Row16.ns hR5).2
          have KA := Lib.hid (KA.out.ext b5); have KG := Lib.hid (KG.out.ext b5); have KM := Lib.hid (KM.out.ext b5); have HE := Lib.hid (ext_trans HE.out b5)
          clear hR5 b5
          go_wp2_with (refine Map16.wpList_len (by rfl) (.tmp 88) rfl Try.underlying98 rfl KM.out I HI.out HIM.out I.length rfl ?_)
          go_loopg [11] I.length (fun g jv wr => ∃ j : Nat, j + g = I.length ∧ jv = .int .i64 ((j : Nat) : Int) ∧ SE wq wr)
          case atStart => exact ⟨0, by omega, rfl, Ext.rfl' _⟩
          case round =>
            obtain ⟨j, hj, rfl, hEj⟩ := hrel
            obtain ⟨wi2, rfl⟩ : ∃ wi2 : World, wi2 = wr := ⟨_, rfl⟩
            have HEJ := Lib.hid hEj
            clear hEj
            have LA := Lib.hid (KA.out.ext HEJ.out); have LM := Lib.hid (KM.out.ext HEJ.out); have LN := Lib.hid (HN5.out.ext HEJ.out)
            by_cases hjl : j < I.length
            · obtain ⟨hy, v6, hMv, hGv⟩ := HGET.out j hjl
              obtain ⟨g6, o6, rfl, _, hc6⟩ := LN.out.2 (by omega)
              have c6 := hc6 j hjl
              have hg6 := World.block_lt_of_cell? _ _ c6
              generalize I.getD j 0 = y at hy hMv hGv c6
              have HMV := Lib.hid hMv; have HGV := Lib.hid hGv; have HC6 := Lib.hid c6
              clear hMv hGv c6 hc6
              have y5 : (j : Int) < (I.length : Int) := by omega
              have y6 : (0 : Int) ≤ (j : Int) := by omega
              go_wp2_with fail
              have HX0 := Lib.hid (show SE wi2 wi2.drew from ext_drew (Ext.rfl' wi2))
              refine wp_region_held_drew (S := SE wi2) hmx HX0.out (fun _ => ?_)
              refine wpAnyH_take (i := 0) (oi := { dst := some 98, op := Go.Op.load 78 (Go.Operand.tmp 3), type := 78, pos := "law.go:158", after := #[], guard := none }) rfl (by kernel_rfl) (by kernel_rfl) (by kernel_rfl) (fun _ _ _ h => h) (yields_row (by rfl) 78 (.tmp 3) rfl w.heap.size rfl 78 A2 _ (fun _ h => LA.out.ext h) Try.underlying78 rfl (by rw [HZA2.out]; exact sizeA)) HX0.out ?_
              (try simp only [Act.put, List.setIfInBounds_toArray, List.set_cons_zero, List.set_cons_succ])
              (refine wpAnyH_take (i := 1) (oi := { dst := some 99, op := Go.Op.move (Go.Operand.tmp 10), type := 99, pos := "law.go:158", after := #[], guard := none }) (v := ?_) rfl (by kernel_rfl) (by kernel_rfl) (by kernel_rfl) (fun _ _ _ h => h) (Or.inl ⟨by rfl, ?_⟩) HX0.out ?_); rotate_left
              · (intro w' hSw; have c6 := kc hSw HC6.out; go_simp; try with_reducible rfl)
              (try simp only [Act.put, List.setIfInBounds_toArray, List.set_cons_zero, List.set_cons_succ])
              (refine wpAnyH_take (i := 2) (oi := { dst := some 100, op := Go.Op.move (Go.Operand.tmp 11), type := 3, pos := "law.go:158", after := #[], guard := none }) (v := ?_) rfl (by kernel_rfl) (by kernel_rfl) (by kernel_rfl) (fun _ _ _ h => h) (Or.inl ⟨by rfl, ?_⟩) HX0.out ?_); rotate_left
              · (intro w' hSw; have c6 := kc hSw HC6.out; go_simp; try with_reducible rfl)
              (try simp only [Act.put, List.setIfInBounds_toArray, List.set_cons_zero, List.set_cons_succ])
              (refine wpAnyH_take (i := 3) (oi := { dst := some 101, op := Go.Op.indexAddr 99 (Go.Operand.tmp 99) (Go.Operand.tmp 100), type := 0, pos := "law.go:158", after := #[{ on := 1, ground := Go.Ground.data }, { on := 2, ground := Go.Ground.data }], guard := none }) (v := ?_) rfl (by kernel_rfl) (by kernel_rfl) (by kernel_rfl) (fun _ _ _ h => h) (Or.inl ⟨by rfl, ?_⟩) HX0.out ?_); rotate_left
              · (intro w' hSw; have c6 := kc hSw HC6.out; go_simp; try with_reducible rfl)
              (try simp only [Act.put, List.setIfInBounds_toArray, List.set_cons_zero, List.set_cons_succ])
              (refine wpAnyH_take (i := 4) (oi := { dst := some 102, op := Go.Op.load 43 (Go.Operand.tmp 101), type := 43, pos := "law.go:158", after := #[{ on := 3, ground := Go.Ground.data }], guard := none }) (v := ?_) rfl (by kernel_rfl) (by kernel_rfl) (by kernel_rfl) (fun _ _ _ h => h) (Or.inl ⟨by rfl, ?_⟩) HX0.out ?_); rotate_left
              · (intro w' hSw; have c6 := kc hSw HC6.out; go_simp; try with_reducible rfl)
              (try simp only [Act.put, List.setIfInBounds_toArray, List.set_cons_zero, List.set_cons_succ])
              refine wpAnyH_ready (rs := [5]) (by kernel_rfl) (by simp) ?_
              refine AllReadyH.cons (o := { dst := some 103, op := Go.Op.call { callee := Go.Callee.value (Go.Operand.func 56), args := #[Go.Operand.tmp 98, Go.Operand.tmp 102], argTypes := #[78, 43] }, type := 93, pos := "law.go:158", after := #[{ on := 0, ground := Go.Ground.data }, { on := 4, ground := Go.Ground.data }], guard := none }) (by kernel_rfl) (fun K hK => ?_) AllReadyH.nil
              go_simp
              refine (HGV.out _).mono ?_
              rintro e x1 ⟨rfl, b9⟩
              have HX1 := Lib.hid (show SE wi2 x1 from ext_trans HX0.out b9)
              clear b9
              (try go_wp2_with fail)
              refine hK.out _ _ HX1.out (fun _ => ?_)
              clear hK K
              (try simp only [Act.put, List.setIfInBounds_toArray, List.set_cons_zero, List.set_cons_succ])
              (refine wpAnyH_take (i := 6) (oi := { dst := some 97, op := Go.Op.move (Go.Operand.tmp 103), type := 93, pos := "law.go:158", after := #[{ on := 5, ground := Go.Ground.data }], guard := none }) (v := ?_) rfl (by kernel_rfl) (by kernel_rfl) (by kernel_rfl) (fun _ _ _ h => h) (Or.inl ⟨by rfl, ?_⟩) HX1.out ?_); rotate_left
              · (intro w' hSw; have c6 := kc hSw HC6.out; go_simp; try with_reducible rfl)
              (try simp only [Act.put, List.setIfInBounds_toArray, List.set_cons_zero, List.set_cons_succ])
              (refine wpAnyH_take (i := 7) (oi := { dst := some 104, op := Go.Op.extract (Go.Operand.tmp 97) 0, type := 3, pos := "law.go:158", after := #[{ on := 6, ground := Go.Ground.data }], guard := none }) (v := ?_) rfl (by kernel_rfl) (by kernel_rfl) (by kernel_rfl) (fun _ _ _ h => h) (Or.inl ⟨by rfl, ?_⟩) HX1.out ?_); rotate_left
              · (intro w' hSw; have c6 := kc hSw HC6.out; go_simp; try with_reducible rfl)
              (try simp only [Act.put, List.setIfInBounds_toArray, List.set_cons_zero, List.set_cons_succ])
              (refine wpAnyH_take (i := 8) (oi := { dst := some 105, op := Go.Op.extract (Go.Operand.tmp 97) 1, type := 4, pos := "law.go:158", after := #[{ on := 6, ground := Go.Ground.data }, { on := 9, ground := Go.Ground.gcOnly Go.Departure.lateStores }], guard := none }) (v := ?_) rfl (by kernel_rfl) (by kernel_rfl) (by kernel_rfl) (fun _ _ _ h => h) (Or.inl ⟨by rfl, ?_⟩) HX1.out ?_); rotate_left
              · (intro w' hSw; have c6 := kc hSw HC6.out; go_simp; try with_reducible rfl)
              (try simp only [Act.put, List.setIfInBounds_toArray, List.set_cons_zero, List.set_cons_succ])
              (refine wpAnyH_take (i := 9) (oi := { dst := some 12, op := Go.Op.assign (Go.Operand.tmp 104), type := 3, pos := "law.go:158", after := #[{ on := 7, ground := Go.Ground.data }, { on := 5, ground := Go.Ground.chain }, { on := 0, ground := Go.Ground.phase }, { on := 1, ground := Go.Ground.phase }, { on := 2, ground := Go.Ground.phase }, { on := 3, ground := Go.Ground.phase }, { on := 4, ground := Go.Ground.phase }, { on := 5, ground := Go.Ground.phase }, { on := 6, ground := Go.Ground.phase }, { on := 7, ground := Go.Ground.phase }, { on := 8, ground := Go.Ground.textOnly Go.Departure.lateStores }], guard := none }) (v := ?_) rfl (by kernel_rfl) (by kernel_rfl) (by kernel_rfl) (fun _ _ _ h => h) (Or.inl ⟨by rfl, ?_⟩) HX1.out ?_); rotate_left
              · (intro w' hSw; have c6 := kc hSw HC6.out; go_simp; try with_reducible rfl)
              (try simp only [Act.put, List.setIfInBounds_toArray, List.set_cons_zero, List.set_cons_succ])
              (refine wpAnyH_take (i := 10) (oi := { dst := some 13, op := Go.Op.assign (Go.Operand.tmp 105), type := 4, pos := "law.go:158", after := #[{ on := 8, ground := Go.Ground.data }, { on := 9, ground := Go.Ground.chain }, { on := 0, ground := Go.Ground.phase }, { on := 1, ground := Go.Ground.phase }, { on := 2, ground := Go.Ground.phase }, { on := 3, ground := Go.Ground.phase }, { on := 4, ground := Go.Ground.phase }, { on := 5, ground := Go.Ground.phase }, { on := 6, ground := Go.Ground.phase }, { on := 7, ground := Go.Ground.phase }, { on := 8, ground := Go.Ground.phase }, { on := 9, ground := Go.Ground.phase }], guard := none }) (v := ?_) rfl (by kernel_rfl) (by kernel_rfl) (by kernel_rfl) (fun _ _ _ h => h) (Or.inl ⟨by rfl, ?_⟩) HX1.out ?_); rotate_left
              · (intro w' hSw; have c6 := kc hSw HC6.out; go_simp; try with_reducible rfl)
              (try simp only [Act.put, List.setIfInBounds_toArray, List.set_cons_zero, List.set_cons_succ])
              refine wpAnyH_done (by kernel_rfl) ?_ _
              have LM1 := Lib.hid (LM.out.ext HX1.out)
              have c6 := kc HX1.out HC6.out
              go_wp2_with (refine Map16.wpList_look2 rfl (.tmp 107) (.tmp 111) rfl Try.underlying98 Try.underlying43 (zInt _) rfl LM1.out y rfl (.int .i64 v6) true (by rw [HMV.out]; rfl) (by rw [HMV.out]; rfl) ?_)
              go_roundg (I.length - (j + 1))
              case measure => omega
              case rel => exact ⟨j + 1, by omega, by go_num, ext_trans HEJ.out HX1.out⟩
            · have y5 : ¬ (j : Int) < (I.length : Int) := by omega
              go_wp2_with fail
              go_roundg (n - (k + 1))
              case measure => omega
              case rel => exact ⟨k + 1, A2, _, _, by omega, by omega, by go_num, HO2.out, LA.out, KG.out.ext HEJ.out, LM.out, ext_trans HE.out HEJ.out⟩
        ·
          have HO2 := Lib.hid hO2; have HC1 := Lib.hid hC1; have HFULL := Lib.hid hfull
          clear hO2 hC1 hfull
          obtain ⟨s1, s2⟩ := HO2.out.sizes
          have HZA2 := Lib.hid s1; have HOA2 := Lib.hid s2
          clear s1 s2
          go_cut [7, 8, 9] from 22 to 125 (fun s7 s8 s9 wx => ∃ bx, s7 = .pointer (some ⟨bx, 0, none⟩) ∧ s8 = .int .u16 0 ∧ s9 = .bool false ∧ w.heap.size + 1 + 1 < bx ∧ Blk wx bx 78 A2 ∧ Blk wx w.heap.size 78 A1 ∧ MapR wx (w.heap.size + 1) G1 ∧ MapR wx (w.heap.size + 1 + 1) M1 ∧ Ext w wx)
          case first =>
            have HCC : Hid (∀ w', SE wi w' → Ext w w') := Lib.hid (fun w' h => ext_trans HE.out h)
            have KX0 := Lib.hid KA.out
            have hdw : Ext wi wi.drew := ext_drew (Ext.rfl' wi)
            have KA := Lib.hid (KA.out.ext hdw); have KG := Lib.hid (KG.out.ext hdw); have KM := Lib.hid (KM.out.ext hdw); have HE := Lib.hid (ext_trans HE.out hdw)
            clear hdw
            have hsz3 := KM.out.lt
            have HX0 := Lib.hid (show SE wi wi.drew from ext_drew (Ext.rfl' wi))
            refine wp_region_held_drew (S := SE wi) hmx HX0.out (fun _ => ?_)
            refine wpAnyH_take (i := 0) (oi := { dst := some 48, op := Go.Op.load 78 (Go.Operand.tmp 3), type := 78, pos := "law.go:143", after := #[], guard := none }) rfl (by kernel_rfl) (by kernel_rfl) (by kernel_rfl) (fun _ _ _ h => h) (yields_row (by rfl) 78 (.tmp 3) rfl w.heap.size rfl 78 A1 _ (fun _ h => KX0.out.ext h) Try.underlying78 rfl (by rw [HZA1.out]; exact sizeA)) HX0.out ?_
            (try simp only [Act.put, List.setIfInBounds_toArray, List.set_cons_zero, List.set_cons_succ])
            (refine wpAnyH_take (i := 1) (oi := { dst := some 49, op := Go.Op.move (Go.Operand.tmp 0), type := 73, pos := "law.go:143", after := #[], guard := none }) (v := ?_) rfl (by kernel_rfl) (by kernel_rfl) (by kernel_rfl) (fun _ _ _ h => h) (Or.inl ⟨by rfl, ?_⟩) HX0.out ?_); rotate_left
            · (intro w' hSw; obtain ⟨c0, c1, c2⟩ := HCE.out w' (HCC.out w' hSw); go_simp; try with_reducible rfl)
            (try simp only [Act.put, List.setIfInBounds_toArray, List.set_cons_zero, List.set_cons_succ])
            (refine wpAnyH_take (i := 2) (oi := { dst := some 50, op := Go.Op.move (Go.Operand.tmp 6), type := 3, pos := "law.go:143", after := #[], guard := none }) (v := ?_) rfl (by kernel_rfl) (by kernel_rfl) (by kernel_rfl) (fun _ _ _ h => h) (Or.inl ⟨by rfl, ?_⟩) HX0.out ?_); rotate_left
            · (intro w' hSw; obtain ⟨c0, c1, c2⟩ := HCE.out w' (HCC.out w' hSw); go_simp; try with_reducible rfl)
            (try simp only [Act.put, List.setIfInBounds_toArray, List.set_cons_zero, List.set_cons_succ])
            (refine wpAnyH_take (i := 3) (oi := { dst := some 51, op := Go.Op.indexAddr 73 (Go.Operand.tmp 49) (Go.Operand.tmp 50), type := 0, pos := "law.go:143", after := #[{ on := 1, ground := Go.Ground.data }, { on := 2, ground := Go.Ground.data }], guard := none }) (v := ?_) rfl (by kernel_rfl) (by kernel_rfl) (by kernel_rfl) (fun _ _ _ h => h) (Or.inl ⟨by rfl, ?_⟩) HX0.out ?_); rotate_left
            · (intro w' hSw; obtain ⟨c0, c1, c2⟩ := HCE.out w' (HCC.out w' hSw); go_simp; try with_reducible rfl)
            (try simp only [Act.put, List.setIfInBounds_toArray, List.set_cons_zero, List.set_cons_succ])
            (refine wpAnyH_take (i := 4) (oi := { dst := some 52, op := Go.Op.fieldAddr 84 (Go.Operand.tmp 51) 2, type := 0, pos := "law.go:143", after := #[{ on := 3, ground := Go.Ground.data }], guard := none }) (v := ?_) rfl (by kernel_rfl) (by kernel_rfl) (by kernel_rfl) (fun _ _ _ h => h) (Or.inl ⟨by rfl, ?_⟩) HX0.out ?_); rotate_left
            · (intro w' hSw; obtain ⟨c0, c1, c2⟩ := HCE.out w' (HCC.out w' hSw); go_simp; try with_reducible rfl)
            (try simp only [Act.put, List.setIfInBounds_toArray, List.set_cons_zero, List.set_cons_succ])
            (refine wpAnyH_take (i := 5) (oi := { dst := some 53, op := Go.Op.load 3 (Go.Operand.tmp 52), type := 3, pos := "law.go:143", after := #[{ on := 4, ground := Go.Ground.data }], guard := none }) (v := ?_) rfl (by kernel_rfl) (by kernel_rfl) (by kernel_rfl) (fun _ _ _ h => h) (Or.inl ⟨by rfl, ?_⟩) HX0.out ?_); rotate_left
            · (intro w' hSw; obtain ⟨c0, c1, c2⟩ := HCE.out w' (HCC.out w' hSw); go_simp; try with_reducible rfl)
            (try simp only [Act.put, List.setIfInBounds_toArray, List.set_cons_zero, List.set_cons_succ])
            refine wpAnyH_ready (rs := [6, 11]) (by kernel_rfl) (by simp) ?_
            refine AllReadyH.cons (o := { dst := some 54, op := Go.Op.call { callee := Go.Callee.value (Go.Operand.func 54), args := #[Go.Operand.tmp 48, Go.Operand.tmp 53], argTypes := #[78, 3] }, type := 89, pos := "law.go:143", after := #[{ on := 0, ground := Go.Ground.data }, { on := 5, ground := Go.Ground.data }], guard := none }) (by kernel_rfl) (fun K hK => ?_) (AllReadyH.cons (o := { dst := some 7, op := Go.Op.alloc 78, type := 0, pos := "law.go:143", after := #[], guard := none }) (by kernel_rfl) (fun K hK => ?_) AllReadyH.nil)
            ·
              go_simp
              refine (HC1.out _).mono ?_
              rintro e x6 ⟨rfl, b9⟩
              have KA := Lib.hid (KA.out.ext b9); have KG := Lib.hid (KG.out.ext b9); have KM := Lib.hid (KM.out.ext b9); have HE := Lib.hid (ext_trans HE.out b9)
              have HX24 := Lib.hid (show SE wi x6 from ext_trans HX0.out b9)
              have hszHX24 := b9.size
              clear b9
              (try go_wp2_with fail)
              refine hK.out _ _ HX24.out (fun _ => ?_)
              clear hK K
              (try simp only [Act.put, List.setIfInBounds_toArray, List.set_cons_zero, List.set_cons_succ])
              (refine wpAnyH_take (i := 7) (oi := { dst := some 47, op := Go.Op.move (Go.Operand.tmp 54), type := 89, pos := "law.go:143", after := #[{ on := 6, ground := Go.Ground.data }], guard := none }) (v := ?_) rfl (by kernel_rfl) (by kernel_rfl) (by kernel_rfl) (fun _ _ _ h => h) (Or.inl ⟨by rfl, ?_⟩) HX24.out ?_); rotate_left
              · (intro w' hSw; obtain ⟨c0, c1, c2⟩ := HCE.out w' (HCC.out w' hSw); go_simp; try with_reducible rfl)
              (try simp only [Act.put, List.setIfInBounds_toArray, List.set_cons_zero, List.set_cons_succ])
              (refine wpAnyH_take (i := 8) (oi := { dst := some 55, op := Go.Op.extract (Go.Operand.tmp 47) 0, type := 78, pos := "law.go:143", after := #[{ on := 7, ground := Go.Ground.data }], guard := none }) (v := ?_) rfl (by kernel_rfl) (by kernel_rfl) (by kernel_rfl) (fun _ _ _ h => h) (Or.inl ⟨by rfl, ?_⟩) HX24.out ?_); rotate_left
              · (intro w' hSw; obtain ⟨c0, c1, c2⟩ := HCE.out w' (HCC.out w' hSw); go_simp; try with_reducible rfl)
              (try simp only [Act.put, List.setIfInBounds_toArray, List.set_cons_zero, List.set_cons_succ])
              (refine wpAnyH_take (i := 9) (oi := { dst := some 56, op := Go.Op.extract (Go.Operand.tmp 47) 1, type := 43, pos := "law.go:143", after := #[{ on := 7, ground := Go.Ground.data }, { on := 12, ground := Go.Ground.gcOnly Go.Departure.lateStores }], guard := none }) (v := ?_) rfl (by kernel_rfl) (by kernel_rfl) (by kernel_rfl) (fun _ _ _ h => h) (Or.inl ⟨by rfl, ?_⟩) HX24.out ?_); rotate_left
              · (intro w' hSw; obtain ⟨c0, c1, c2⟩ := HCE.out w' (HCC.out w' hSw); go_simp; try with_reducible rfl)
              (try simp only [Act.put, List.setIfInBounds_toArray, List.set_cons_zero, List.set_cons_succ])
              (refine wpAnyH_take (i := 10) (oi := { dst := some 57, op := Go.Op.extract (Go.Operand.tmp 47) 2, type := 4, pos := "law.go:143", after := #[{ on := 7, ground := Go.Ground.data }, { on := 13, ground := Go.Ground.gcOnly Go.Departure.lateStores }], guard := none }) (v := ?_) rfl (by kernel_rfl) (by kernel_rfl) (by kernel_rfl) (fun _ _ _ h => h) (Or.inl ⟨by rfl, ?_⟩) HX24.out ?_); rotate_left
              · (intro w' hSw; obtain ⟨c0, c1, c2⟩ := HCE.out w' (HCC.out w' hSw); go_simp; try with_reducible rfl)
              (try simp only [Act.put, List.setIfInBounds_toArray, List.set_cons_zero, List.set_cons_succ])
              refine wpAnyH_ready (rs := [11]) (by kernel_rfl) (by simp) ?_
              refine AllReadyH.cons (o := { dst := some 7, op := Go.Op.alloc 78, type := 0, pos := "law.go:143", after := #[], guard := none }) (by kernel_rfl) (fun K hK => ?_) AllReadyH.nil
              refine want (by rfl) ?_
              refine wp_allocZ 78 rfl ZA HZA0.out ?_
              have KN := Lib.hid (Blk.new x6 78 ZA)
              have hnn : wi.heap.size ≤ (x6).heap.size := by have := HX24.out.size; exact this
              have hae := ext_alloc (Ext.rfl' (x6)) (.cells ZA 78)
              have KA := Lib.hid (KA.out.ext hae); have KG := Lib.hid (KG.out.ext hae); have KM := Lib.hid (KM.out.ext hae); have HE := Lib.hid (ext_trans HE.out hae)
              clear hae
              have HX44 := Lib.hid (show SE wi _ from ext_alloc HX24.out (.cells ZA 78))
              refine hK.out _ _ HX44.out (fun _ => ?_)
              clear hK K
              (try simp only [Act.put, List.setIfInBounds_toArray, List.set_cons_zero, List.set_cons_succ])
              refine wpAnyH_ready (rs := [12]) (by kernel_rfl) (by simp) ?_
              refine AllReadyH.cons (o := { dst := none, op := Go.Op.store 78 (Go.Operand.tmp 7) (Go.Operand.tmp 55), type := 0, pos := "law.go:143", after := #[{ on := 11, ground := Go.Ground.data }, { on := 8, ground := Go.Ground.data }, { on := 6, ground := Go.Ground.chain }, { on := 0, ground := Go.Ground.phase }, { on := 1, ground := Go.Ground.phase }, { on := 2, ground := Go.Ground.phase }, { on := 3, ground := Go.Ground.phase }, { on := 4, ground := Go.Ground.phase }, { on := 5, ground := Go.Ground.phase }, { on := 6, ground := Go.Ground.phase }, { on := 7, ground := Go.Ground.phase }, { on := 8, ground := Go.Ground.phase }, { on := 9, ground := Go.Ground.textOnly Go.Departure.lateStores }, { on := 10, ground := Go.Ground.textOnly Go.Departure.lateStores }, { on := 11, ground := Go.Ground.phase }], guard := none }) (by kernel_rfl) (fun K hK => ?_) AllReadyH.nil
              refine want (by rfl) ?_
              refine wp_store_row 78 (.tmp 7) (.tmp 55) rfl ((x6).heap.size) A2 rfl rfl 78 ZA KN.out (by rw [HZA2.out]; exact sizeA) (by rw [HZZA.out, HZA2.out]) HOA2.out ?_
              have hnb : w.heap.size + 1 + 1 < (x6).heap.size := by have := hnn; first | omega | (have h9 : wi.drew.heap.size = wi.heap.size := rfl; omega)
              have KA := Lib.hid (setRow_far (h := (x6).heap.size) (ds := A2) KA.out (by omega))
              have KG := Lib.hid (KG.out.blk (setRow_other _ (x6).heap.size (w.heap.size + 1) A2 (by omega)))
              have KM := Lib.hid (KM.out.blk (setRow_other _ (x6).heap.size (w.heap.size + 1 + 1) A2 (by omega)))
              have KN := Lib.hid (setRow_blk (cs := A2) KN.out)
              have HE := Lib.hid (ext_setRow HE.out (show w.heap.size ≤ (x6).heap.size by omega) A2)
              have HX48 := Lib.hid (show SE wi _ from ext_setRow HX44.out hnn A2)
              refine hK.out _ _ HX48.out (fun _ => ?_)
              clear hK K
              (try simp only [Act.put, List.setIfInBounds_toArray, List.set_cons_zero, List.set_cons_succ])
              (refine wpAnyH_take (i := 13) (oi := { dst := some 8, op := Go.Op.assign (Go.Operand.tmp 56), type := 43, pos := "law.go:143", after := #[{ on := 9, ground := Go.Ground.data }, { on := 12, ground := Go.Ground.chain }, { on := 0, ground := Go.Ground.phase }, { on := 1, ground := Go.Ground.phase }, { on := 2, ground := Go.Ground.phase }, { on := 3, ground := Go.Ground.phase }, { on := 4, ground := Go.Ground.phase }, { on := 5, ground := Go.Ground.phase }, { on := 6, ground := Go.Ground.phase }, { on := 7, ground := Go.Ground.phase }, { on := 8, ground := Go.Ground.phase }, { on := 9, ground := Go.Ground.phase }, { on := 10, ground := Go.Ground.textOnly Go.Departure.lateStores }, { on := 11, ground := Go.Ground.phase }, { on := 12, ground := Go.Ground.phase }], guard := none }) (v := ?_) rfl (by kernel_rfl) (by kernel_rfl) (by kernel_rfl) (fun _ _ _ h => h) (Or.inl ⟨by rfl, ?_⟩) HX48.out ?_); rotate_left
              · (intro w' hSw; obtain ⟨c0, c1, c2⟩ := HCE.out w' (HCC.out w' hSw); go_simp; try with_reducible rfl)
              (try simp only [Act.put, List.setIfInBounds_toArray, List.set_cons_zero, List.set_cons_succ])
              (refine wpAnyH_take (i := 14) (oi := { dst := some 9, op := Go.Op.assign (Go.Operand.tmp 57), type := 4, pos := "law.go:143", after := #[{ on := 10, ground := Go.Ground.data }, { on := 13, ground := Go.Ground.chain }, { on := 0, ground := Go.Ground.phase }, { on := 1, ground := Go.Ground.phase }, { on := 2, ground := Go.Ground.phase }, { on := 3, ground := Go.Ground.phase }, { on := 4, ground := Go.Ground.phase }, { on := 5, ground := Go.Ground.phase }, { on := 6, ground := Go.Ground.phase }, { on := 7, ground := Go.Ground.phase }, { on := 8, ground := Go.Ground.phase }, { on := 9, ground := Go.Ground.phase }, { on := 10, ground := Go.Ground.phase }, { on := 11, ground := Go.Ground.phase }, { on := 12, ground := Go.Ground.phase }, { on := 13, ground := Go.Ground.phase }], guard := none }) (v := ?_) rfl (by kernel_rfl) (by kernel_rfl) (by kernel_rfl) (fun _ _ _ h => h) (Or.inl ⟨by rfl, ?_⟩) HX48.out ?_); rotate_left
              · (intro w' hSw; obtain ⟨c0, c1, c2⟩ := HCE.out w' (HCC.out w' hSw); go_simp; try with_reducible rfl)
              (try simp only [Act.put, List.setIfInBounds_toArray, List.set_cons_zero, List.set_cons_succ])
              refine wpAnyH_done (by kernel_rfl) ?_ _
              go_wp2_with fail
              go_meet
              have h9 : wi.drew.heap.size = wi.heap.size := rfl
              exact ⟨_, rfl, rfl, rfl, by omega, KN.out, KA.out, KG.out, KM.out, HE.out⟩
            ·
              refine want (by rfl) ?_
              refine wp_allocZ 78 rfl ZA HZA0.out ?_
              have KN := Lib.hid (Blk.new wi.drew 78 ZA)
              have hnn : wi.heap.size ≤ (wi.drew).heap.size := by have := HX0.out.size; exact this
              have hae := ext_alloc (Ext.rfl' (wi.drew)) (.cells ZA 78)
              have KA := Lib.hid (KA.out.ext hae); have KG := Lib.hid (KG.out.ext hae); have KM := Lib.hid (KM.out.ext hae); have HE := Lib.hid (ext_trans HE.out hae)
              clear hae
              have HX29 := Lib.hid (show SE wi _ from ext_alloc HX0.out (.cells ZA 78))
              refine hK.out _ _ HX29.out (fun _ => ?_)
              clear hK K
              (try simp only [Act.put, List.setIfInBounds_toArray, List.set_cons_zero, List.set_cons_succ])
              refine wpAnyH_ready (rs := [6]) (by kernel_rfl) (by simp) ?_
              refine AllReadyH.cons (o := { dst := some 54, op := Go.Op.call { callee := Go.Callee.value (Go.Operand.func 54), args := #[Go.Operand.tmp 48, Go.Operand.tmp 53], argTypes := #[78, 3] }, type := 89, pos := "law.go:143", after := #[{ on := 0, ground := Go.Ground.data }, { on := 5, ground := Go.Ground.data }], guard := none }) (by kernel_rfl) (fun K hK => ?_) AllReadyH.nil
              go_simp
              refine (HC1.out _).mono ?_
              rintro e x7 ⟨rfl, b9⟩
              have KA := Lib.hid (KA.out.ext b9); have KG := Lib.hid (KG.out.ext b9); have KM := Lib.hid (KM.out.ext b9); have KN := Lib.hid (KN.out.ext b9); have HE := Lib.hid (ext_trans HE.out b9)
              have HX27 := Lib.hid (show SE wi x7 from ext_trans HX29.out b9)
              have hszHX27 := b9.size
              clear b9
              (try go_wp2_with fail)
              refine hK.out _ _ HX27.out (fun _ => ?_)
              clear hK K
              (try simp only [Act.put, List.setIfInBounds_toArray, List.set_cons_zero, List.set_cons_succ])
              (refine wpAnyH_take (i := 7) (oi := { dst := some 47, op := Go.Op.move (Go.Operand.tmp 54), type := 89, pos := "law.go:143", after := #[{ on := 6, ground := Go.Ground.data }], guard := none }) (v := ?_) rfl (by kernel_rfl) (by kernel_rfl) (by kernel_rfl) (fun _ _ _ h => h) (Or.inl ⟨by rfl, ?_⟩) HX27.out ?_); rotate_left
              · (intro w' hSw; obtain ⟨c0, c1, c2⟩ := HCE.out w' (HCC.out w' hSw); go_simp; try with_reducible rfl)
              (try simp only [Act.put, List.setIfInBounds_toArray, List.set_cons_zero, List.set_cons_succ])
              (refine wpAnyH_take (i := 8) (oi := { dst := some 55, op := Go.Op.extract (Go.Operand.tmp 47) 0, type := 78, pos := "law.go:143", after := #[{ on := 7, ground := Go.Ground.data }], guard := none }) (v := ?_) rfl (by kernel_rfl) (by kernel_rfl) (by kernel_rfl) (fun _ _ _ h => h) (Or.inl ⟨by rfl, ?_⟩) HX27.out ?_); rotate_left
              · (intro w' hSw; obtain ⟨c0, c1, c2⟩ := HCE.out w' (HCC.out w' hSw); go_simp; try with_reducible rfl)
              (try simp only [Act.put, List.setIfInBounds_toArray, List.set_cons_zero, List.set_cons_succ])
              (refine wpAnyH_take (i := 9) (oi := { dst := some 56, op := Go.Op.extract (Go.Operand.tmp 47) 1, type := 43, pos := "law.go:143", after := #[{ on := 7, ground := Go.Ground.data }, { on := 12, ground := Go.Ground.gcOnly Go.Departure.lateStores }], guard := none }) (v := ?_) rfl (by kernel_rfl) (by kernel_rfl) (by kernel_rfl) (fun _ _ _ h => h) (Or.inl ⟨by rfl, ?_⟩) HX27.out ?_); rotate_left
              · (intro w' hSw; obtain ⟨c0, c1, c2⟩ := HCE.out w' (HCC.out w' hSw); go_simp; try with_reducible rfl)
              (try simp only [Act.put, List.setIfInBounds_toArray, List.set_cons_zero, List.set_cons_succ])
              (refine wpAnyH_take (i := 10) (oi := { dst := some 57, op := Go.Op.extract (Go.Operand.tmp 47) 2, type := 4, pos := "law.go:143", after := #[{ on := 7, ground := Go.Ground.data }, { on := 13, ground := Go.Ground.gcOnly Go.Departure.lateStores }], guard := none }) (v := ?_) rfl (by kernel_rfl) (by kernel_rfl) (by kernel_rfl) (fun _ _ _ h => h) (Or.inl ⟨by rfl, ?_⟩) HX27.out ?_); rotate_left
              · (intro w' hSw; obtain ⟨c0, c1, c2⟩ := HCE.out w' (HCC.out w' hSw); go_simp; try with_reducible rfl)
              (try simp only [Act.put, List.setIfInBounds_toArray, List.set_cons_zero, List.set_cons_succ])
              refine wpAnyH_ready (rs := [12]) (by kernel_rfl) (by simp) ?_
              refine AllReadyH.cons (o := { dst := none, op := Go.Op.store 78 (Go.Operand.tmp 7) (Go.Operand.tmp 55), type := 0, pos := "law.go:143", after := #[{ on := 11, ground := Go.Ground.data }, { on := 8, ground := Go.Ground.data }, { on := 6, ground := Go.Ground.chain }, { on := 0, ground := Go.Ground.phase }, { on := 1, ground := Go.Ground.phase }, { on := 2, ground := Go.Ground.phase }, { on := 3, ground := Go.Ground.phase }, { on := 4, ground := Go.Ground.phase }, { on := 5, ground := Go.Ground.phase }, { on := 6, ground := Go.Ground.phase }, { on := 7, ground := Go.Ground.phase }, { on := 8, ground := Go.Ground.phase }, { on := 9, ground := Go.Ground.textOnly Go.Departure.lateStores }, { on := 10, ground := Go.Ground.textOnly Go.Departure.lateStores }, { on := 11, ground := Go.Ground.phase }], guard := none }) (by kernel_rfl) (fun K hK => ?_) AllReadyH.nil
              refine want (by rfl) ?_
              refine wp_store_row 78 (.tmp 7) (.tmp 55) rfl ((wi.drew).heap.size) A2 rfl rfl 78 ZA KN.out (by rw [HZA2.out]; exact sizeA) (by rw [HZZA.out, HZA2.out]) HOA2.out ?_
              have hnb : w.heap.size + 1 + 1 < (wi.drew).heap.size := by have := hnn; first | omega | (have h9 : wi.drew.heap.size = wi.heap.size := rfl; omega)
              have KA := Lib.hid (setRow_far (h := (wi.drew).heap.size) (ds := A2) KA.out (by omega))
              have KG := Lib.hid (KG.out.blk (setRow_other _ (wi.drew).heap.size (w.heap.size + 1) A2 (by omega)))
              have KM := Lib.hid (KM.out.blk (setRow_other _ (wi.drew).heap.size (w.heap.size + 1 + 1) A2 (by omega)))
              have KN := Lib.hid (setRow_blk (cs := A2) KN.out)
              have HE := Lib.hid (ext_setRow HE.out (show w.heap.size ≤ (wi.drew).heap.size by omega) A2)
              have HX48 := Lib.hid (show SE wi _ from ext_setRow HX27.out hnn A2)
              refine hK.out _ _ HX48.out (fun _ => ?_)
              clear hK K
              (try simp only [Act.put, List.setIfInBounds_toArray, List.set_cons_zero, List.set_cons_succ])
              (refine wpAnyH_take (i := 13) (oi := { dst := some 8, op := Go.Op.assign (Go.Operand.tmp 56), type := 43, pos := "law.go:143", after := #[{ on := 9, ground := Go.Ground.data }, { on := 12, ground := Go.Ground.chain }, { on := 0, ground := Go.Ground.phase }, { on := 1, ground := Go.Ground.phase }, { on := 2, ground := Go.Ground.phase }, { on := 3, ground := Go.Ground.phase }, { on := 4, ground := Go.Ground.phase }, { on := 5, ground := Go.Ground.phase }, { on := 6, ground := Go.Ground.phase }, { on := 7, ground := Go.Ground.phase }, { on := 8, ground := Go.Ground.phase }, { on := 9, ground := Go.Ground.phase }, { on := 10, ground := Go.Ground.textOnly Go.Departure.lateStores }, { on := 11, ground := Go.Ground.phase }, { on := 12, ground := Go.Ground.phase }], guard := none }) (v := ?_) rfl (by kernel_rfl) (by kernel_rfl) (by kernel_rfl) (fun _ _ _ h => h) (Or.inl ⟨by rfl, ?_⟩) HX48.out ?_); rotate_left
              · (intro w' hSw; obtain ⟨c0, c1, c2⟩ := HCE.out w' (HCC.out w' hSw); go_simp; try with_reducible rfl)
              (try simp only [Act.put, List.setIfInBounds_toArray, List.set_cons_zero, List.set_cons_succ])
              (refine wpAnyH_take (i := 14) (oi := { dst := some 9, op := Go.Op.assign (Go.Operand.tmp 57), type := 4, pos := "law.go:143", after := #[{ on := 10, ground := Go.Ground.data }, { on := 13, ground := Go.Ground.chain }, { on := 0, ground := Go.Ground.phase }, { on := 1, ground := Go.Ground.phase }, { on := 2, ground := Go.Ground.phase }, { on := 3, ground := Go.Ground.phase }, { on := 4, ground := Go.Ground.phase }, { on := 5, ground := Go.Ground.phase }, { on := 6, ground := Go.Ground.phase }, { on := 7, ground := Go.Ground.phase }, { on := 8, ground := Go.Ground.phase }, { on := 9, ground := Go.Ground.phase }, { on := 10, ground := Go.Ground.phase }, { on := 11, ground := Go.Ground.phase }, { on := 12, ground := Go.Ground.phase }, { on := 13, ground := Go.Ground.phase }], guard := none }) (v := ?_) rfl (by kernel_rfl) (by kernel_rfl) (by kernel_rfl) (fun _ _ _ h => h) (Or.inl ⟨by rfl, ?_⟩) HX48.out ?_); rotate_left
              · (intro w' hSw; obtain ⟨c0, c1, c2⟩ := HCE.out w' (HCC.out w' hSw); go_simp; try with_reducible rfl)
              (try simp only [Act.put, List.setIfInBounds_toArray, List.set_cons_zero, List.set_cons_succ])
              refine wpAnyH_done (by kernel_rfl) ?_ _
              go_wp2_with fail
              go_meet
              have h9 : wi.drew.heap.size = wi.heap.size := rfl
              exact ⟨_, rfl, rfl, rfl, by omega, KN.out, KA.out, KG.out, KM.out, HE.out⟩
          case rest =>
          obtain ⟨bn, rfl, rfl, rfl, hb_bn, kn, ka, kg, km, he⟩ := hcut
          obtain ⟨wa, hwl⟩ : ∃ W9 : World, W9 = wc := ⟨_, rfl⟩
          rw [← hwl] at kn ka kg km he ⊢
          clear hwl KA KG KM HE
          have KP := Lib.hid kn; have KA := Lib.hid ka; have KG := Lib.hid kg; have KM := Lib.hid km; have HE := Lib.hid he
          clear kn ka kg km he
          go_upto_region 14 with (first | (refine wpList_load_row rfl 78 (.tmp 7) rfl bn rfl 78 A2 (0, 0) _ KP.out Try.underlying78 rfl (by rw [HZA2.out]; exact sizeA) ?_) | (refine wpList_store_row rfl 78 (.tmp 3) (.tmp 58) rfl w.heap.size A2 rfl rfl 78 A1 KA.out (by rw [HZA2.out]; exact sizeA) (by rw [HZA1.out, HZA2.out]) HOA2.out ?_))
          try simp only [Act.put, List.setIfInBounds_toArray, List.set_cons_zero, List.set_cons_succ]
          obtain ⟨wd, hwn⟩ : ∃ W9 : World, W9 = wa.setRow w.heap.size A2 := ⟨_, rfl⟩
          have NA := Lib.hid (show Blk wd w.heap.size 78 A2 from by rw [hwn]; exact setRow_blk KA.out)
          have NG := Lib.hid (KG.out.blk (show wd.heap[(w.heap.size + 1)]? = wa.heap[(w.heap.size + 1)]? from by rw [hwn]; exact setRow_other _ _ _ _ (by omega)))
          have NM := Lib.hid (KM.out.blk (show wd.heap[(w.heap.size + 1 + 1)]? = wa.heap[(w.heap.size + 1 + 1)]? from by rw [hwn]; exact setRow_other _ _ _ _ (by omega)))
          have NE := Lib.hid (show Ext w wd from by rw [hwn]; exact ext_setRow HE.out (by omega) _)
          rw [← hwn]
          clear hwn KA KG KM HE
          have KA := NA; have KG := NG; have KM := NM; have HE := NE
          clear NA NG NM NE
          obtain ⟨I0, hI0, hIM0, hl0⟩ := HFULL.out
          have HI0 := Lib.hid hI0; have HIM0 := Lib.hid hIM0; have HL0 := Lib.hid hl0; clear hI0 hIM0 hl0
          go_upto_region 19 with (refine Map16.wpList_len (by rfl) (.tmp 69) rfl Try.underlying98 rfl KM.out I0 HI0.out HIM0.out 128 HL0.out ?_)
          obtain ⟨I, hI, hIM, hI1, hIds, hGet⟩ := HO2.out.ids (by omega)
          have HI := Lib.hid hI; have HIM := Lib.hid hIM; have HIDS := Lib.hid hIds; have HGET := Lib.hid hGet
          clear hI hIM hIds hGet
          go_wp2_with (refine wpList_load_row rfl 78 (.tmp 3) rfl w.heap.size rfl 78 A2 (0, 0) _ KA.out Try.underlying78 rfl (by rw [HZA2.out]; exact sizeA) ?_)
          refine (HIDS.out _).mono ?_
          rintro e wq ⟨v5, rfl, hR5, b5⟩
          obtain ⟨A5, c5, rfl, _⟩ := own_shape hR5
          have HN5 := Lib.hid (Row16.ns hR5).2
          have KA := Lib.hid (KA.out.ext b5); have KG := Lib.hid (KG.out.ext b5); have KM := Lib.hid (KM.out.ext b5); have HE := Lib.hid (ext_trans HE.out b5)
          clear hR5 b5
          go_wp2_with (refine Map16.wpList_len (by rfl) (.tmp 88) rfl Try.underlying98 rfl KM.out I HI.out HIM.out I.length rfl ?_)
          go_loopg [11] I.length (fun g jv wr => ∃ j : Nat, j + g = I.length ∧ jv = .int .i64 ((j : Nat) : Int) ∧ SE wq wr)
          case atStart => exact ⟨0, by omega, rfl, Ext.rfl' _⟩
          case round =>
            obtain ⟨j, hj, rfl, hEj⟩ := hrel
            obtain ⟨wi2, rfl⟩ : ∃ wi2 : World, wi2 = wr := ⟨_, rfl⟩
            have HEJ := Lib.hid hEj
            clear hEj
            have LA := Lib.hid (KA.out.ext HEJ.out); have LM := Lib.hid (KM.out.ext HEJ.out); have LN := Lib.hid (HN5.out.ext HEJ.out)
            by_cases hjl : j < I.length
            · obtain ⟨hy, v6, hMv, hGv⟩ := HGET.out j hjl
              obtain ⟨g6, o6, rfl, _, hc6⟩ := LN.out.2 (by omega)
              have c6 := hc6 j hjl
              have hg6 := World.block_lt_of_cell? _ _ c6
              generalize I.getD j 0 = y at hy hMv hGv c6
              have HMV := Lib.hid hMv; have HGV := Lib.hid hGv; have HC6 := Lib.hid c6
              clear hMv hGv c6 hc6
              have y5 : (j : Int) < (I.length : Int) := by omega
              have y6 : (0 : Int) ≤ (j : Int) := by omega
              go_wp2_with fail
              have HX0 := Lib.hid (show SE wi2 wi2.drew from ext_drew (Ext.rfl' wi2))
              refine wp_region_held_drew (S := SE wi2) hmx HX0.out (fun _ => ?_)
              refine wpAnyH_take (i := 0) (oi := { dst := some 98, op := Go.Op.load 78 (Go.Operand.tmp 3), type := 78, pos := "law.go:158", after := #[], guard := none }) rfl (by kernel_rfl) (by kernel_rfl) (by kernel_rfl) (fun _ _ _ h => h) (yields_row (by rfl) 78 (.tmp 3) rfl w.heap.size rfl 78 A2 _ (fun _ h => LA.out.ext h) Try.underlying78 rfl (by rw [HZA2.out]; exact sizeA)) HX0.out ?_
              (try simp only [Act.put, List.setIfInBounds_toArray, List.set_cons_zero, List.set_cons_succ])
              (refine wpAnyH_take (i := 1) (oi := { dst := some 99, op := Go.Op.move (Go.Operand.tmp 10), type := 99, pos := "law.go:158", after := #[], guard := none }) (v := ?_) rfl (by kernel_rfl) (by kernel_rfl) (by kernel_rfl) (fun _ _ _ h => h) (Or.inl ⟨by rfl, ?_⟩) HX0.out ?_); rotate_left
              · (intro w' hSw; have c6 := kc hSw HC6.out; go_simp; try with_reducible rfl)
              (try simp only [Act.put, List.setIfInBounds_toArray, List.set_cons_zero, List.set_cons_succ])
              (refine wpAnyH_take (i := 2) (oi := { dst := some 100, op := Go.Op.move (Go.Operand.tmp 11), type := 3, pos := "law.go:158", after := #[], guard := none }) (v := ?_) rfl (by kernel_rfl) (by kernel_rfl) (by kernel_rfl) (fun _ _ _ h => h) (Or.inl ⟨by rfl, ?_⟩) HX0.out ?_); rotate_left
              · (intro w' hSw; have c6 := kc hSw HC6.out; go_simp; try with_reducible rfl)
              (try simp only [Act.put, List.setIfInBounds_toArray, List.set_cons_zero, List.set_cons_succ])
              (refine wpAnyH_take (i := 3) (oi := { dst := some 101, op := Go.Op.indexAddr 99 (Go.Operand.tmp 99) (Go.Operand.tmp 100), type := 0, pos := "law.go:158", after := #[{ on := 1, ground := Go.Ground.data }, { on := 2, ground := Go.Ground.data }], guard := none }) (v := ?_) rfl (by kernel_rfl) (by kernel_rfl) (by kernel_rfl) (fun _ _ _ h => h) (Or.inl ⟨by rfl, ?_⟩) HX0.out ?_); rotate_left
              · (intro w' hSw; have c6 := kc hSw HC6.out; go_simp; try with_reducible rfl)
              (try simp only [Act.put, List.setIfInBounds_toArray, List.set_cons_zero, List.set_cons_succ])
              (refine wpAnyH_take (i := 4) (oi := { dst := some 102, op := Go.Op.load 43 (Go.Operand.tmp 101), type := 43, pos := "law.go:158", after := #[{ on := 3, ground := Go.Ground.data }], guard := none }) (v := ?_) rfl (by kernel_rfl) (by kernel_rfl) (by kernel_rfl) (fun _ _ _ h => h) (Or.inl ⟨by rfl, ?_⟩) HX0.out ?_); rotate_left
              · (intro w' hSw; have c6 := kc hSw HC6.out; go_simp; try with_reducible rfl)
              (try simp only [Act.put, List.setIfInBounds_toArray, List.set_cons_zero, List.set_cons_succ])
              refine wpAnyH_ready (rs := [5]) (by kernel_rfl) (by simp) ?_
              refine AllReadyH.cons (o := { dst := some 103, op := Go.Op.call { callee := Go.Callee.value (Go.Operand.func 56), args := #[Go.Operand.tmp 98, Go.Operand.tmp 102], argTypes := #[78, 43] }, type := 93, pos := "law.go:158", after := #[{ on := 0, ground := Go.Ground.data }, { on := 4, ground := Go.Ground.data }], guard := none }) (by kernel_rfl) (fun K hK => ?_) AllReadyH.nil
              go_simp
              refine (HGV.out _).mono ?_
              rintro e x1 ⟨rfl, b9⟩
              have HX1 := Lib.hid (show SE wi2 x1 from ext_trans HX0.out b9)
              clear b9
              (try go_wp2_with fail)
              refine hK.out _ _ HX1.out (fun _ => ?_)
              clear hK K
              (try simp only [Act.put, List.setIfInBounds_toArray, List.set_cons_zero, List.set_cons_succ])
              (refine wpAnyH_take (i := 6) (oi := { dst := some 97, op := Go.Op.move (Go.Operand.tmp 103), type := 93, pos := "law.go:158", after := #[{ on := 5, ground := Go.Ground.data }], guard := none }) (v := ?_) rfl (by kernel_rfl) (by kernel_rfl) (by kernel_rfl) (fun _ _ _ h => h) (Or.inl ⟨by rfl, ?_⟩) HX1.out ?_); rotate_left
              · (intro w' hSw; have c6 := kc hSw HC6.out; go_simp; try with_reducible rfl)
              (try simp only [Act.put, List.setIfInBounds_toArray, List.set_cons_zero, List.set_cons_succ])
              (refine wpAnyH_take (i := 7) (oi := { dst := some 104, op := Go.Op.extract (Go.Operand.tmp 97) 0, type := 3, pos := "law.go:158", after := #[{ on := 6, ground := Go.Ground.data }], guard := none }) (v := ?_) rfl (by kernel_rfl) (by kernel_rfl) (by kernel_rfl) (fun _ _ _ h => h) (Or.inl ⟨by rfl, ?_⟩) HX1.out ?_); rotate_left
              · (intro w' hSw; have c6 := kc hSw HC6.out; go_simp; try with_reducible rfl)
              (try simp only [Act.put, List.setIfInBounds_toArray, List.set_cons_zero, List.set_cons_succ])
              (refine wpAnyH_take (i := 8) (oi := { dst := some 105, op := Go.Op.extract (Go.Operand.tmp 97) 1, type := 4, pos := "law.go:158", after := #[{ on := 6, ground := Go.Ground.data }, { on := 9, ground := Go.Ground.gcOnly Go.Departure.lateStores }], guard := none }) (v := ?_) rfl (by kernel_rfl) (by kernel_rfl) (by kernel_rfl) (fun _ _ _ h => h) (Or.inl ⟨by rfl, ?_⟩) HX1.out ?_); rotate_left
              · (intro w' hSw; have c6 := kc hSw HC6.out; go_simp; try with_reducible rfl)
              (try simp only [Act.put, List.setIfInBounds_toArray, List.set_cons_zero, List.set_cons_succ])
              (refine wpAnyH_take (i := 9) (oi := { dst := some 12, op := Go.Op.assign (Go.Operand.tmp 104), type := 3, pos := "law.go:158", after := #[{ on := 7, ground := Go.Ground.data }, { on := 5, ground := Go.Ground.chain }, { on := 0, ground := Go.Ground.phase }, { on := 1, ground := Go.Ground.phase }, { on := 2, ground := Go.Ground.phase }, { on := 3, ground := Go.Ground.phase }, { on := 4, ground := Go.Ground.phase }, { on := 5, ground := Go.Ground.phase }, { on := 6, ground := Go.Ground.phase }, { on := 7, ground := Go.Ground.phase }, { on := 8, ground := Go.Ground.textOnly Go.Departure.lateStores }], guard := none }) (v := ?_) rfl (by kernel_rfl) (by kernel_rfl) (by kernel_rfl) (fun _ _ _ h => h) (Or.inl ⟨by rfl, ?_⟩) HX1.out ?_); rotate_left
              · (intro w' hSw; have c6 := kc hSw HC6.out; go_simp; try with_reducible rfl)
              (try simp only [Act.put, List.setIfInBounds_toArray, List.set_cons_zero, List.set_cons_succ])
              (refine wpAnyH_take (i := 10) (oi := { dst := some 13, op := Go.Op.assign (Go.Operand.tmp 105), type := 4, pos := "law.go:158", after := #[{ on := 8, ground := Go.Ground.data }, { on := 9, ground := Go.Ground.chain }, { on := 0, ground := Go.Ground.phase }, { on := 1, ground := Go.Ground.phase }, { on := 2, ground := Go.Ground.phase }, { on := 3, ground := Go.Ground.phase }, { on := 4, ground := Go.Ground.phase }, { on := 5, ground := Go.Ground.phase }, { on := 6, ground := Go.Ground.phase }, { on := 7, ground := Go.Ground.phase }, { on := 8, ground := Go.Ground.phase }, { on := 9, ground := Go.Ground.phase }], guard := none }) (v := ?_) rfl (by kernel_rfl) (by kernel_rfl) (by kernel_rfl) (fun _ _ _ h => h) (Or.inl ⟨by rfl, ?_⟩) HX1.out ?_); rotate_left
              · (intro w' hSw; have c6 := kc hSw HC6.out; go_simp; try with_reducible rfl)
              (try simp only [Act.put, List.setIfInBounds_toArray, List.set_cons_zero, List.set_cons_succ])
              refine wpAnyH_done (by kernel_rfl) ?_ _
              have LM1 := Lib.hid (LM.out.ext HX1.out)
              have c6 := kc HX1.out HC6.out
              go_wp2_with (refine Map16.wpList_look2 rfl (.tmp 107) (.tmp 111) rfl Try.underlying98 Try.underlying43 (zInt _) rfl LM1.out y rfl (.int .i64 v6) true (by rw [HMV.out]; rfl) (by rw [HMV.out]; rfl) ?_)
              go_roundg (I.length - (j + 1))
              case measure => omega
              case rel => exact ⟨j + 1, by omega, by go_num, ext_trans HEJ.out HX1.out⟩
            · have y5 : ¬ (j : Int) < (I.length : Int) := by omega
              go_wp2_with fail
              go_roundg (n - (k + 1))
              case measure => omega
              case rel => exact ⟨k + 1, A2, G1, M1, by omega, by omega, by go_num, HO2.out, LA.out, KG.out.ext HEJ.out, LM.out, ext_trans HE.out HEJ.out⟩
    · obtain rfl : k = n := by omega
      have y1 : ¬ (k : Int) < (k : Int) := by omega
      clear hE
      go_wp2_with fail
      refine (wakes _).mono ?_
      rintro e w9 ⟨rfl, b9⟩
      have HE := Lib.hid (ext_trans HE.out b9)
      clear b9
      go_wp2_with fail
      go_ret
      exact ⟨rfl, HE.out⟩
end Go.Proofs.Ytdbjknljdplinaa.Arena
