/- Contracts of package delta: a difference is applied. -/
import Derived.Test.YtodmjkhfckokhaaDelW
import Derived.Test.YtodmjkhfckokhaaDelP
import Derived.Lib.BufferWrite
namespace Go.Proofs.Ytodmjkhfckokhaa.Delta
open Go.ChangeShapes Go.WideShapes Go.ChangeAt Go.RowKit
open Go.Proofs.Ytodmjkhfckokhaa.Wire
set_option linter.unusedVariables false

/-- What a difference makes out of a text. -/
inductive AR where
  | bad (err : Int)
  | ok (zs : List Nat)
def folded (n : Nat) (l : List (Nat × List Nat)) : List Nat := l.foldl (fun x p => lay x p.1 p.2) (List.replicate n 0)
def applied (xs ds : List Nat) (most : Int) : AR :=
  match lim (vr 0 0 ds) with
  | .short => .bad 3
  | .form => .bad 4
  | .ok n k =>
    if most < (n : Int) then .bad 6 else
    match lits n 0 (ds.drop k) with
    | .bad f => .bad f
    | .ok l => if vb n ++ enc (folded n l) = ds then .ok (mix xs (folded n l)) else .bad 4
theorem lay_len (x : List Nat) (i : Nat) (ys : List Nat) (h : i + ys.length ≤ x.length) : (lay x i ys).length = x.length := by
  simp only [lay, List.length_append, List.length_take, List.length_drop]; omega
theorem fold_len (l : List (Nat × List Nat)) : ∀ x : List Nat, (∀ p ∈ l, p.1 + p.2.length ≤ x.length) → (l.foldl (fun x p => lay x p.1 p.2) x).length = x.length := by
  induction l with
  | nil => intro x _; rfl
  | cons p l ih =>
    intro x h
    have h0 := lay_len x p.1 p.2 (h p List.mem_cons_self)
    rw [List.foldl_cons, ih _ (fun q hq => by rw [h0]; exact h q (List.mem_cons_of_mem _ hq)), h0]
theorem lay_small {x : List Nat} {i : Nat} {ys : List Nat} (hx : ∀ c ∈ x, c < 256) (hy : ∀ c ∈ ys, c < 256) : ∀ c ∈ lay x i ys, c < 256 := fun c hc => by
  simp only [lay, List.mem_append] at hc
  rcases hc with (hc | hc) | hc
  · exact hx c (List.mem_of_mem_take hc)
  · exact hy c hc
  · exact hx c (List.mem_of_mem_drop hc)
theorem fold_small (l : List (Nat × List Nat)) : ∀ x : List Nat, (∀ c ∈ x, c < 256) → (∀ p ∈ l, ∀ c ∈ p.2, c < 256) → ∀ c ∈ l.foldl (fun x p => lay x p.1 p.2) x, c < 256 := by
  induction l with
  | nil => intro x h _; exact h
  | cons p l ih =>
    intro x h hp
    rw [List.foldl_cons]
    exact ih _ (lay_small h (hp p List.mem_cons_self)) (fun q hq => hp q (List.mem_cons_of_mem _ hq))
/-- What differs is applied. -/
theorem applied_diff (xs ys : List Nat) (hx : ∀ c ∈ xs, c < 256) (hy : ∀ c ∈ ys, c < 256) (hl : ys.length ≤ 1000000) : applied xs (diff xs ys) (ys.length : Nat) = .ok ys := by
  have hm := mix_len xs ys
  have hms := mem_small (mix_small (small_mem hx) (small_mem hy))
  have h1 := vr_put (m := ys.length) (by omega) (enc (mix xs ys))
  have h2 := lits_enc _ 0 (mix xs ys) (Nat.le_refl _) (by rw [hm]; exact hl) hms
  rw [Nat.zero_add, hm] at h2
  have h3 := fill _ (mix xs ys) [] (Nat.le_refl _)
  rw [List.length_nil, List.nil_append, List.nil_append, hm] at h3
  have e : diff xs ys = vb ys.length ++ enc (mix xs ys) := rfl
  unfold applied
  rw [e, h1]
  simp only [lim]
  rw [if_pos (by omega)]
  simp only
  rw [if_neg (by omega), List.drop_left, h2]
  have h4 : folded ys.length (pcs 0 (mix xs ys)) = mix xs ys := h3
  simp only
  rw [if_pos (by rw [h4]), h4, mix_mix]
/-- Bytes that are applied are the difference of what they make. -/
theorem diff_applied {xs ds ys : List Nat} {most : Int} (hd : ∀ c ∈ ds, c < 256) (h : applied xs ds most = .ok ys) (hb : ∀ n k l, lim (vr 0 0 ds) = .ok n k → lits n 0 (ds.drop k) = .ok l → ∀ p ∈ l, p.1 + p.2.length ≤ n) : diff xs ys = ds ∧ (ys.length : Int) ≤ most := by
  unfold applied at h
  cases hv : lim (vr 0 0 ds) with
  | short => rw [hv] at h; cases h
  | form => rw [hv] at h; cases h
  | ok n k =>
    rw [hv] at h
    simp only at h
    by_cases h1 : most < (n : Int)
    · rw [if_pos h1] at h; cases h
    · rw [if_neg h1] at h
      cases hl : lits n 0 (ds.drop k) with
      | bad f => rw [hl] at h; cases h
      | ok l =>
        rw [hl] at h
        simp only at h
        by_cases h2 : vb n ++ enc (folded n l) = ds
        · rw [if_pos h2] at h
          cases h
          have hn : (folded n l).length = n := by
            unfold folded
            rw [fold_len _ _ (fun p hp => by rw [List.length_replicate]; exact hb n k l hv hl p hp), List.length_replicate]
          refine ⟨?_, by rw [mix_len, hn]; omega⟩
          unfold diff
          rw [mix_len, hn, mix_mix, h2]
        · rw [if_neg h2] at h; cases h
theorem wpList_of_copy {P : Program} {w : World} {ops : Array Oper} {rest : List Oper} {o : Oper} {a : Act} {Q : Exit → Act → World → Prop} (hgd : o.guard = none) (s x : Operand) (t tx : TypeId)
    (ho : o.op = .call { callee := .builtin .copy, args := #[s, x], argTypes := #[t, tx] }) (vs vx : Value) (hs : a.eval s = vs) (hx : a.eval x = vx) {v' : Value} {w' : World}
    (hr : (Builtin.copy_ #[t, tx] o.type #[vs, vx]).run P w = .ok v' w') (h : wpList P ops Q rest (a.put o.dst v') w') : wpList P ops Q (o :: rest) a w :=
  wpList_plain hgd fun K hK => by
    unfold Oper.wp execOp
    simp only [ho, resolve, invoke, builtin, Sem.run_bind, Sem.run_pure, Result.andThen_ok, List.map_toArray, List.map_cons, List.map_nil, hs, hx, hr]
    exact hK _ _ h
/-- A text is laid over a row of the call's own. -/
theorem run_lay {w : World} (base g n i : Nat) (zs : List Nat) (S : ByteArray) (hown : w.ownsRow base 5 1 (.slice (some ⟨g, 0, none⟩) n n) n (c8 zs)) (hfit : i + S.size ≤ n) (d : Value) (hd : S.size = 0 ∧ (∃ p m c, d = .slice p m c) ∨ d = .slice (some ⟨g, i, none⟩) (n - i) (n - i)) (ty : TypeId) :
    ∃ w', (Builtin.copy_ #[22, 9] ty #[d, .string S]).run Try.prog w = .ok (goInt S.size) w' ∧ w'.ownsRow base 5 1 (.slice (some ⟨g, 0, none⟩) n n) n (c8 (lay zs i (natsOf S))) ∧ w.grownBy w' (some g) := by
  have hsz : (Try.prog.info? 5).map (·.size) = some 1 := by kernel_rfl
  have hnl := natsOf_len S
  rcases hd with ⟨h0, p, m, c, rfl⟩ | rfl
  · refine ⟨w, ?_, ?_, World.grownBy.refl _ _⟩
    · rw [Lib.run_copy_empty_string w _ _ ty 5 p m c S Try.underlying22 (by rw [hsz]; rfl) h0, h0]; rfl
    · have e : natsOf S = [] := List.eq_nil_of_length_eq_zero (by rw [hnl, h0])
      rw [e]
      unfold lay
      simpa using hown
  · rcases hown.2 with ⟨hq, _⟩ | ⟨g', cap, cur, hq, hb, hg, hnc, hcm, hcs, htk⟩
    · simp at hq
    · simp only [Value.slice.injEq, Option.some.injEq, Addr.mk.injEq, and_true, true_and] at hq
      obtain ⟨rfl, rfl⟩ := hq
      have hcl : cur.size = n := by rw [hcs, Nat.mul_one]
      have hcz : cur.toList = c8 zs := by rw [← htk, Nat.mul_one, List.take_of_length_le (by rw [Array.length_toList, hcl]; exact Nat.le_refl _)]
      have hzl : zs.length = n := by have := hown.1; rwa [c8_len, Nat.mul_one] at this
      have hbc : Lib.byteCells S.data.toList = c8 (natsOf S) := byteCells_eq S
      have hfin : (cur.toList.take i ++ Lib.byteCells S.data.toList ++ cur.toList.drop (i + S.size)).toArray = (c8 (lay zs i (natsOf S))).toArray := by
        rw [hcz, hbc]
        simp only [lay, c8_app, hnl]
        simp [c8, List.map_take, List.map_drop]
      have hll : (lay zs i (natsOf S)).length = n := by rw [lay_len _ _ _ (by rw [hnl, hzl]; exact hfit), hzl]
      refine ⟨_, Lib.run_copy_row_string w _ _ ty 5 g i (n - i) (n - i) S cur _ Try.underlying22 hsz hg (by omega) (by rw [hcl]; exact hfit), ?_, ⟨rfl, rfl, rfl, by simp [World.setRow], fun k _ hk => setRow_other w g k _ (fun e => hk (by rw [e]))⟩⟩
      rw [hfin]
      refine ⟨by rw [c8_len, hll, Nat.mul_one], .inr ⟨g, n, _, rfl, hb, setRow_heap w g cur _ _ _ hg, Nat.le_refl _, hcm, by simp [c8_len, hll], ?_⟩⟩
      rw [Nat.mul_one]
      exact List.take_of_length_le (by simp [c8_len, hll])
theorem eff_old {a w w' : World} {g i : Nat} {s : Value} {e : Int} (h : Ext a w) (k : Eff w w' g s i e) (hg : a.heap.size ≤ g) : Ext a w' := ext_grown h k.2 (fun j hj => by obtain rfl := Option.some.inj hj; exact hg)
/-- What applying comes to. -/
def APost (w : World) (R : AR) (e : Ending) (w' : World) : Prop :=
  Ext w w' ∧ match R with
  | .bad f => e = .returned (.tuple #[.slice none 0 0, .int .i64 f]) ∧ f ≠ 0
  | .ok zs => ∃ g, e = .returned (.tuple #[.slice (some ⟨g, 0, none⟩) zs.length zs.length, .int .i64 0]) ∧ Wire.Own w w' (.slice (some ⟨g, 0, none⟩) zs.length zs.length) zs
def ARel (w2 w3 : World) (gx n : Nat) (l : List (Nat × List Nat)) (pv : Value) (iv : Value) (wr : World) : Prop :=
  ∃ q : Nat, q ≤ l.length ∧ iv = .int .i64 (q : Int) ∧ wr.ownsRow w3.heap.size 5 1 (.slice (some ⟨gx, 0, none⟩) n n) n (c8 ((l.take q).foldl (fun x p => lay x p.1 p.2) (List.replicate n 0))) ∧ POwn w2 wr pv l ∧ Ext w3 wr
theorem pcells_at (l : List (Nat × List Nat)) : ∀ q, (h : q < l.length) → (pcells l)[q * 2]? = some (.int .i64 ((l[q]).1 : Int)) ∧ (pcells l)[q * 2 + 1]? = some (.string (strOf (l[q]).2)) := by
  induction l with
  | nil => intro q h; simp at h
  | cons p l ih =>
    intro q h
    have e : pcells (p :: l) = .int .i64 (p.1 : Int) :: .string (strOf p.2) :: pcells l := by simp [pcells]
    rw [e]
    cases q with
    | zero => exact ⟨rfl, rfl⟩
    | succ q =>
      have := ih q (by simpa using h)
      rw [show (q + 1) * 2 = q * 2 + 1 + 1 from by omega]
      simpa using this
set_option maxHeartbeats 8000000 in
set_option maxRecDepth 100000 in
theorem apply (A B : Option Addr) (m c N cd : Nat) (xs ds : List Nat) (most : Int) (w : World) (hA : Bs w A m xs) (hB : Bs w B N ds) (hnil : B = none → N = 0 ∧ cd = 0) (hm : m ≤ 1000000) (hN : N ≤ 1000000) (hm1 : -9223372036854775808 ≤ most) (hm2 : most ≤ 1000000) :
    Calls Try.prog 33 #[.slice A m c, .slice B N cd, .int .i64 most] w (APost w (applied xs ds most)) := by
  have HA := Lib.hid hA; have HB := Lib.hid hB; have HNIL := Lib.hid hnil
  have hdl : ds.length = N := hB.1
  have HDL := Lib.hid hdl
  clear hA hB hnil hdl
  obtain ⟨R, hR⟩ : ∃ R, R = applied xs ds most := ⟨_, rfl⟩
  rw [← hR]
  have HR := Lib.hid hR; clear hR
  go_enter Try.func33, Try.ntmps33
  go_wp2_with fail
  refine (of B N cd ds w HB.out HNIL.out (by omega)).mono ?_
  rintro e w1 ⟨g, A1, c1, rfl, hg, hr, hrb, hE1⟩
  have HRD := Lib.hid hr; have HRB := Lib.hid hrb; have HE1 := Lib.hid hE1
  clear hr hrb hE1
  go_wp2_with fail
  refine (int g N c1 0 A1 ds w1 HRD.out HRB.out.1 (by omega) (by omega)).mono ?_
  rintro e w2 ⟨n, j, err, rfl, hz, hE2, hl⟩
  rw [List.drop_zero] at hl
  have hx2 := eff_old HE1.out hE2 hg
  have HE2 := Lib.hid hE2
  have HX2 := Lib.hid hx2
  clear hE2 hx2
  cases hLM : lim (vr 0 0 ds) with
  | short =>
    rw [hLM] at hl
    obtain ⟨rfl, rfl, rfl⟩ := hl
    have HRR : Hid (R = .bad 3) := Lib.hid (by rw [HR.out]; unfold applied; rw [hLM])
    clear hLM
    go_wp2_with fail
    refine (err_any g _ (0 + 0) 3 w2 HE2.out.1).mono ?_
    rintro e w3 ⟨rfl, rfl⟩
    go_wp2_with fail
    refine (err_any g _ (0 + 0) 3 w2 HE2.out.1).mono ?_
    rintro e w3 ⟨rfl, rfl⟩
    go_wp2_with fail
    go_ret2
    exact ⟨HX2.out, by rw [HRR.out]; exact ⟨rfl, by decide⟩⟩
  | form =>
    rw [hLM] at hl
    obtain ⟨rfl, rfl, rfl⟩ := hl
    have HRR : Hid (R = .bad 4) := Lib.hid (by rw [HR.out]; unfold applied; rw [hLM])
    clear hLM
    go_wp2_with fail
    refine (err_any g _ (0 + 0) 4 w2 HE2.out.1).mono ?_
    rintro e w3 ⟨rfl, rfl⟩
    go_wp2_with fail
    refine (err_any g _ (0 + 0) 4 w2 HE2.out.1).mono ?_
    rintro e w3 ⟨rfl, rfl⟩
    go_wp2_with fail
    go_ret2
    exact ⟨HX2.out, by rw [HRR.out]; exact ⟨rfl, by decide⟩⟩
  | ok v kk =>
    rw [hLM] at hl
    obtain ⟨rfl, rfl, rfl⟩ := hl
    have HLM := Lib.hid hLM; clear hLM
    go_wp2_with fail
    refine (err_any g _ (0 + j) 0 w2 HE2.out.1).mono ?_
    rintro e w3 ⟨rfl, rfl⟩
    by_cases hbig : most < (n : Int)
    · have HRR : Hid (R = .bad 6) := Lib.hid (by rw [HR.out]; unfold applied; rw [HLM.out]; simp only; rw [if_pos hbig])
      go_wp2_with fail
      go_ret2
      exact ⟨HX2.out, by rw [HRR.out]; exact ⟨rfl, by decide⟩⟩
    · have hbb : ¬ most < (n : Int) := hbig
      have hn6 : n ≤ 1000000 := by omega
      obtain ⟨_, hk1, _, hk2⟩ := vr_ok (mem_small HB.out.2.1) (lim_ok HLM.out)
      rw [HDL.out] at hk2
      go_wp2_with fail
      refine (literals g n N c1 (0 + j) A1 ds w2 HE2.out.1 (by omega) (HRB.out.eff HE2.out.2) hN (by omega)).mono ?_
      intro e w3 hL
      rw [Nat.zero_add] at hL
      obtain ⟨hg3, hL⟩ := hL
      have HX3 : Hid (Ext w w3) := Lib.hid (ext_grown HX2.out hg3 (fun q hq => by obtain rfl := Option.some.inj hq; exact hg))
      clear hg3
      cases hLT : lits n 0 (ds.drop j) with
      | bad f =>
        rw [hLT] at hL
        obtain ⟨rfl, hf⟩ := hL
        have hf3 : (f != 0) = true := by rw [bne_iff_ne]; exact hf
        have HF := Lib.hid hf
        have HRR : Hid (R = .bad f) := Lib.hid (by rw [HR.out]; unfold applied; rw [HLM.out]; simp only; rw [if_neg (show ¬ most < (n : Int) by omega), hLT])
        clear hf hLT hk1
        go_wp2_with fail
        go_ret2
        exact ⟨HX3.out, by rw [HRR.out]; exact ⟨rfl, HF.out⟩⟩
      | ok l =>
        rw [hLT] at hL
        obtain ⟨pv, rfl, hO, hP⟩ := hL
        have HO := Lib.hid hO; have HP := Lib.hid hP
        have HRR : Hid (R = if vb n ++ enc (folded n l) = ds then .ok (mix xs (folded n l)) else .bad 4) := Lib.hid (by rw [HR.out]; unfold applied; rw [HLM.out]; simp only; rw [if_neg (show ¬ most < (n : Int) by omega), hLT])
        obtain ⟨AP, cp, rfl, hcp1, hcp2, hAP⟩ := own_shape hO
        obtain ⟨i0, hi0, hz0, hz1, hz2⟩ := info_parts info8
        have HQ0 : Hid (i0.bytes * n ≤ 281474976710656) := Lib.hid (by rw [hz2]; omega)
        have HQ1 : Hid (n ≤ maxLen) := Lib.hid (by unfold maxLen; omega)
        have HI := Lib.hid (And.intro hi0 (And.intro hz0 hz1)); clear hi0 hz0 hz1 hz2
        have HZ : Hid ((madeCells (Value.int .u8 0).cells (n * 1)).toList = c8 (List.replicate n 0)) := Lib.hid (by
          rw [Nat.mul_one]
          have := toList_madeCells_one (.int .u8 0) n
          rw [show (Value.int .u8 0).cells = #[.int .u8 0] from rfl, this]
          simp [c8])
        have HAP := Lib.hid hAP
        clear hO hP hLT hk1 hAP
        go_wp2_with (first | (at_make; refine wpList_make_full w3 rfl (.tmp 36) (.tmp 36) 22 rfl w3.heap.size 5 i0 (.int .u8 0) 1 Try.underlying22 HI.out.1 HI.out.2.1 HI.out.2.2 .i64 .i64 (n : Int) (n : Int) n rfl rfl rfl rfl HQ0.out HQ1.out (Nat.le_refl _) ?_; intro w4 hown4 hg4; rw [HZ.out] at hown4))
        have HO4 := Lib.hid (own_ext HO.out (ext_grown (Ext.rfl' w3) hg4 (fun _ hk => by cases hk)))
        have HE4 := Lib.hid (ext_grown (Ext.rfl' w3) hg4 (fun _ hk => by cases hk))
        have HOW := Lib.hid hown4
        have hcp : l.length ≤ 9223372036854775807 := by unfold maxLen at hcp2; omega
        clear hown4 hg4
        go_loopw [40] (fun iv wr => ARel w2 w3 w3.heap.size n l (.slice AP l.length cp) iv wr) (fun iv _ => l.length - (intOf iv).toNat)
        case atStart => exact ⟨0, Nat.zero_le _, rfl, HOW.out, HO4.out, HE4.out⟩
        case round =>
          clear HO4 HE4 HOW
          obtain ⟨q, hq, rfl, hX, hO, hE⟩ := hrel
          have HX := Lib.hid hX; have HO4 := Lib.hid hO; have HE4 := Lib.hid hE
          clear hX hO hE
          by_cases hlt : q < l.length
          · obtain ⟨gp, rfl, hgp⟩ := HAP.out (by omega)
            have hgp3 := (World.ownsRow.lt HO.out gp rfl).2
            have hpc := pcells_at l q hlt
            have c0 := (HO4.out.cellAt (q * 2) (by omega)).trans hpc.1
            have c1 := (HO4.out.cellAt (q * 2 + 1) (by omega)).trans hpc.2
            have hp := HP.out (l[q]) (List.getElem_mem hlt)
            have HTK : Hid (l.take (q + 1) = l.take q ++ [l[q]]) := Lib.hid (List.take_succ_eq_append_getElem hlt)
            have k0 : (0 : Int) ≤ (q : Int) := by omega
            have k1 : (q : Int) < (l.length : Int) := by omega
            clear hpc hcp1 hcp2
            generalize l[q] = p at *
            obtain ⟨pa, py⟩ := p
            dsimp only at c0 c1 hp
            obtain ⟨hp1, hp2⟩ := hp
            have HP2 := Lib.hid hp2; clear hp2
            have hSl : (strOf py).size ≤ n - pa := by rw [strOf_size]; omega
            have HSY : Hid (natsOf (strOf py) = py) := Lib.hid (nats_strOf (small_mem HP2.out))
            have p0 : (0 : Int) ≤ (pa : Int) := by omega
            have p1 : (pa : Int) ≤ (n : Int) := by omega
            have HXA := Lib.hid (own_ext HX.out (ext_drew (ext_alloc (Ext.rfl' wr) (.cells #[.int .i64 (pa : Int), .string (strOf py)] 80))))
            generalize strOf py = S at *
            by_cases hpn : pa = n
            · obtain rfl : pa = n := hpn
              go_wp2_with fail
              refine wp_still_tail 6 (by kernel_rfl) (by kernel_rfl) ?_
              simp only [List.take_succ_cons, List.take_zero, List.drop_succ_cons, List.drop_zero]
              repeat still_step
              refine wpStill_nil ?_
              obtain ⟨w7, hrun, hX7, hg7⟩ := run_lay w3.heap.size w3.heap.size pa pa _ S HXA.out (by omega) (.slice (some ⟨w3.heap.size, 0, none⟩) 0 0) (.inl ⟨by omega, _, _, _, rfl⟩) 3
              have HX7 := Lib.hid hX7
              have hgE := Lib.hid (ext_grown (ext_drew (ext_alloc HE4.out (.cells #[.int .i64 (pa : Int), .string S] 80))) hg7 (fun j hj => by obtain rfl := Option.some.inj hj; exact Nat.le_refl _))
              have HO7 := Lib.hid (World.ownsRow.kept (own_ext HO4.out (ext_drew (ext_alloc (Ext.rfl' wr) (.cells #[.int .i64 (pa : Int), .string S] 80)))) hg7 (.inr (by intro e; simp [Value.ownBlock] at e; omega)))
              have HRUN := Lib.hid hrun
              clear hrun hX7 hg7
              refine wpList_of_copy rfl (.tmp 47) (.tmp 49) 22 9 rfl _ _ rfl rfl HRUN.out ?_
              go_wp2_with fail
              go_roundw
              case rel => exact ⟨q + 1, hlt, by go_num, by rw [HTK.out, List.foldl_append]; have e := HX7.out; rw [HSY.out] at e; exact e, HO7.out, hgE.out⟩
              case measure => simp [intOf]; omega
            · have p2 : (pa : Int) < (n : Int) := by omega
              have p3 : ¬ n = pa := by omega
              go_wp2_with fail
              refine wp_still_tail 6 (by kernel_rfl) (by kernel_rfl) ?_
              simp only [List.take_succ_cons, List.take_zero, List.drop_succ_cons, List.drop_zero]
              repeat still_step
              refine wpStill_nil ?_
              obtain ⟨w7, hrun, hX7, hg7⟩ := run_lay w3.heap.size w3.heap.size n pa _ S HXA.out (by omega) (.slice (some ⟨w3.heap.size, pa, none⟩) (n - pa) (n - pa)) (.inr rfl) 3
              have HX7 := Lib.hid hX7
              have hgE := Lib.hid (ext_grown (ext_drew (ext_alloc HE4.out (.cells #[.int .i64 (pa : Int), .string S] 80))) hg7 (fun j hj => by obtain rfl := Option.some.inj hj; exact Nat.le_refl _))
              have HO7 := Lib.hid (World.ownsRow.kept (own_ext HO4.out (ext_drew (ext_alloc (Ext.rfl' wr) (.cells #[.int .i64 (pa : Int), .string S] 80)))) hg7 (.inr (by intro e; simp [Value.ownBlock] at e; omega)))
              have HRUN := Lib.hid hrun
              clear hrun hX7 hg7
              refine wpList_of_copy rfl (.tmp 47) (.tmp 49) 22 9 rfl _ _ rfl rfl HRUN.out ?_
              go_wp2_with fail
              go_roundw
              case rel => exact ⟨q + 1, hlt, by go_num, by rw [HTK.out, List.foldl_append]; have e := HX7.out; rw [HSY.out] at e; exact e, HO7.out, hgE.out⟩
              case measure => simp [intOf]; omega
          · obtain rfl : q = l.length := by omega
            have HXL : Hid ((folded n l).length = n) := Lib.hid (by unfold folded; rw [fold_len _ _ (fun p hp => by rw [List.length_replicate]; exact (HP.out p hp).1), List.length_replicate])
            have HXS : Hid (∀ j, (folded n l).getD j 0 < 256) := Lib.hid (small_mem (fold_small l _ (fun c hc => by have := List.eq_of_mem_replicate hc; omega) (fun p hp => (HP.out p hp).2)))
            have HBX : Hid (Bs wr (some ⟨w3.heap.size, 0, none⟩) n (folded n l)) := Lib.hid (by
              have := HX.out
              rw [List.take_length] at this
              exact Bs.own this HXS.out)
            have hgx := (World.ownsRow.lt HX.out w3.heap.size rfl).2
            have henc := encode w3.heap.size n (folded n l) wr (by rw [HXL.out]; exact HBX.out) hgx (by rw [HXL.out]; exact hn6) (by rw [HXL.out]; exact Nat.le_refl _) (by omega)
            rw [HXL.out] at henc
            have HENC := Lib.hid henc
            have HSM : Hid (∀ j, (vb n ++ enc (folded n l)).getD j 0 < 256) := Lib.hid (small_app (vb_byte n) (small_mem (enc_small _ _ (Nat.le_refl _) (mem_small HXS.out))))
            have HML := Lib.hid (mix_len xs (folded n l))
            have HMS := Lib.hid (mix_small HA.out.2.1 HXS.out)
            clear henc HX hcp1 hcp2
            generalize folded n l = X at *
            obtain ⟨D, hD⟩ : ∃ D, D = vb n ++ enc X := ⟨_, rfl⟩
            rw [← hD] at HENC HSM
            have HD := Lib.hid hD; clear hD
            have HX4 := Lib.hid (ext_trans HX3.out HE4.out)
            go_wp2_with fail
            refine HENC.out.mono ?_
            rintro e w5 ⟨g5, c5, rfl, _, _, hg5, hO5, hE5⟩
            have HB5 := Lib.hid (Own.bs hO5 HSM.out)
            have HX5 := Lib.hid (ext_trans HX4.out hE5)
            have HBX5 := Lib.hid (HBX.out.ext hE5)
            clear hO5 hE5
            by_cases heq : D = ds
            · subst heq
              have HRR2 : Hid (R = .ok (mix xs X)) := Lib.hid (by rw [HRR.out, HD.out, if_pos rfl])
              clear HRR
              go_wp2_with fail
              refine (same_yes (some ⟨g5, 0, none⟩) B D.length c5 N cd D w5 HB5.out (HB.out.ext HX5.out)).mono ?_
              rintro e w6 ⟨rfl, rfl⟩
              go_wp2_with fail
              refine (xor A (some ⟨w3.heap.size, 0, none⟩) m c n n xs X w5 (HA.out.ext HX5.out) HBX5.out (by omega) (by omega)).mono ?_
              rintro e w6 ⟨g6, rfl, hg6, hO6, hE6⟩
              have HO6 := Lib.hid hO6; have HE6 := Lib.hid hE6; clear hO6 hE6
              generalize mix xs X = M at *
              go_wp2_with fail
              go_ret2
              exact ⟨ext_trans HX5.out HE6.out, by rw [HRR2.out]; exact ⟨g6, rfl, own_low HO6.out HX5.out.size⟩⟩
            · have HRR2 : Hid (R = .bad 4) := Lib.hid (by rw [HRR.out, ← HD.out, if_neg heq])
              have HNE := Lib.hid heq
              clear HRR heq
              go_wp2_with fail
              refine (same_no (some ⟨g5, 0, none⟩) B D.length c5 N cd D ds w5 HB5.out (HB.out.ext HX5.out) HNE.out).mono ?_
              rintro e w6 ⟨rfl, rfl⟩
              go_wp2_with fail
              go_ret2
              exact ⟨HX5.out, by rw [HRR2.out]; exact ⟨rfl, by decide⟩⟩
end Go.Proofs.Ytodmjkhfckokhaa.Delta
