/- The document's chunk: Take, walked. -/
import Derived.Test.YtckjmabacibojaaDoorChkH
import Derived.Test.YtckjmabacibojaaDoorGI
namespace Go.Proofs.YtckjmabacibojaaDoor.Chk
open Go.ChangeShapes Go.WideShapes Go.ChangeAt Go.RowKit
open Go.Proofs.YtckjmabacibojaaDoor.Wire
set_option linter.unusedVariables false

theorem unp_bad (M : Nat) : ∀ (n : Nat) (out rest : List Nat) (f : Int), rest.length = n → Lz.unp M out rest = .bad f → f ≠ 0 := by
  intro n
  induction n using Nat.strongRecOn with
  | ind n ih =>
    intro out rest f hn h
    rw [Lz.unp.eq_def] at h
    split at h
    · cases h
    · rename_i k cs
      rw [List.length_cons] at hn
      split at h
      · cases h; decide
      · split at h
        · split at h
          · cases h; decide
          · split at h
            · cases h; decide
            · exact ih _ (by rw [List.length_drop]; omega) _ _ f rfl h
        · split at h
          · cases h; decide
          · cases h; decide
          · split at h
            · cases h; decide
            · split at h
              · cases h; decide
              · exact ih _ (by rw [List.length_drop]; omega) _ _ f rfl h
theorem scan_bad {L : List Nat} {f : Int} (h : Chk.scan L = .bad f) : f ≠ 0 := by
  unfold Chk.scan at h
  split at h
  · cases h; decide
  · split at h
    · cases h; decide
    · split at h
      · cases h; decide
      · cases h; decide
      · split at h
        · cases h; decide
        · cases h; decide
        · split at h
          · cases h; decide
          · cases h
theorem readAt_bad {xs : List Nat} {at_ f : Int} (h : readAt xs at_ = .bad f) : f ≠ 0 := by
  unfold readAt at h
  split at h
  · cases h; decide
  · cases hr : Chk.read (xs.drop at_.toNat) with
    | ok a b c d e => rw [hr] at h; cases h
    | bad e =>
      rw [hr] at h
      cases h
      unfold Chk.read at hr
      cases hs : Chk.scan (xs.drop at_.toNat) with
      | bad e' => rw [hs] at hr; cases hr; exact scan_bad hs
      | ok a b c d =>
        rw [hs] at hr
        simp only at hr
        split at hr
        · cases hr; decide
        · split at hr
          · cases hr; decide
          · cases hr
theorem readAt_small {xs : List Nat} (hx : ∀ c ∈ xs, c < 256) {at_ : Int} {k h s : Nat} {ys : List Nat} {n : Nat} (hr : readAt xs at_ = .ok k h s ys n) : ∀ c ∈ ys, c < 256 := by
  unfold readAt at hr
  split at hr
  · cases hr
  · cases hr2 : Chk.read (xs.drop at_.toNat) with
    | bad e => rw [hr2] at hr; cases hr
    | ok a b c d e =>
      rw [hr2] at hr
      cases hr
      unfold Chk.read at hr2
      cases hs : Chk.scan (xs.drop at_.toNat) with
      | bad e' => rw [hs] at hr2; cases hr2
      | ok a' b' c' d' =>
        rw [hs] at hr2
        simp only at hr2
        split at hr2
        · cases hr2
        · split at hr2
          · cases hr2
          · cases hr2
            exact fun c hc => hx c (List.mem_of_mem_drop (List.mem_of_mem_drop (List.mem_of_mem_take hc)))
def takeOf (R : RD) (most : Int) : TK :=
  match R with
  | .bad e => .bad e
  | .ok kind h size ys next =>
    if most < (size : Int) then .bad 6
    else if h = 1 then match Lz.unp size [] ys with
      | .bad _ => .bad 4
      | .ok zs => if zs.length = size then .ok kind zs next else .bad 4
    else .ok kind ys next
/-- What the document's Take comes to. -/
def TQPost (w : World) (R : TK) (e : Ending) (w' : World) : Prop :=
  Ext w w' ∧ match R with
  | .bad f => e = .returned (.tuple #[.int .u8 0, .string ⟨#[]⟩, .int .i64 0, .int .i64 f])
  | .ok kind zs next => e = .returned (.tuple #[.int .u8 (kind : Int), .string (strOf zs), .int .i64 (next : Int), .int .i64 0])
set_option maxHeartbeats 8000000 in
set_option maxRecDepth 100000 in
theorem refTakeC (s : ByteArray) (at_ most : Int) (w : World) (hs : s.size ≤ 1000000) :
    Calls Tryd.prog 12 #[.string s, .int .i64 at_, .int .i64 most] w (TQPost w (takeAt (natsOf s) at_ most)) := by
  have HC := Lib.hid (refReadC s at_ w hs)
  obtain ⟨R, hR⟩ : ∃ R, R = readAt (natsOf s) at_ := ⟨_, rfl⟩
  have HFB : Hid (∀ f, R = .bad f → f ≠ 0) := Lib.hid (fun f h => readAt_bad (by rw [← hR]; exact h))
  have HFO : Hid (∀ k h z ys n, R = .ok k h z ys n → (z ≤ 2147483647 ∧ h ≤ 1 ∧ ys.length ≤ s.size) ∧ ∀ j, ys.getD j 0 < 256) := Lib.hid (fun k h z ys n e => by
    have e1 := readAt_facts (hR.symm.trans e)
    rw [natsOf_len] at e1
    exact ⟨e1, small_mem (readAt_small (mem_small (natsOf_small s)) (hR.symm.trans e))⟩)
  have HTK : Hid (takeAt (natsOf s) at_ most = takeOf R most) := Lib.hid (by rw [hR]; rfl)
  rw [← hR] at HC
  clear hR
  go_enter Tryd.func12, Tryd.ntmps12
  go_wp2_with fail
  refine HC.out.mono ?_
  rintro e w1 ⟨hE, hm⟩
  have HE := Lib.hid hE
  cases R with
  | bad f =>
    obtain rfl := hm
    have hfb : (f == 0) = false := beq_eq_false_iff_ne.2 (HFB.out f rfl)
    have HRT : Hid (takeAt (natsOf s) at_ most = .bad f) := HTK
    clear hE HTK HFB HFO HC
    go_wp2_with fail
    refine bodyPost_ret (v := .tuple #[.int .u8 0, .string ⟨#[]⟩, .int .i64 0, .int .i64 f]) (by simp [results, Tryd.results12, go_sem]) rfl ?_
    rw [HRT.out]
    exact ⟨ext_alloc HE.out _, rfl⟩
  | ok kind h size ys next =>
    obtain ⟨⟨hs1, hs2, hs3⟩, hys⟩ := HFO.out kind h size ys next rfl
    obtain rfl := hm
    have HYS := Lib.hid hys
    have HPB := Lib.hid (Blk.new w1 31 #[.int .u8 (kind : Int), .bool (decide (h = 1)), .int .i64 (size : Int), .string (strOf ys), .int .i64 (next : Int)])
    have HEA := Lib.hid (ext_alloc hE (.cells #[.int .u8 (kind : Int), .bool (decide (h = 1)), .int .i64 (size : Int), .string (strOf ys), .int .i64 (next : Int)] 31))
    have hyz : (strOf ys).size ≤ 1000000 := by rw [strOf_size]; omega
    have HUN := Lib.hid (fun W => Lz.refUnpack (strOf ys) size W hyz (by omega))
    rw [nats_strOf hys] at HUN
    have HSY := Lib.hid (rfl : strOf ys = strOf ys)
    obtain ⟨Y, hY⟩ : ∃ Y, Y = strOf ys := ⟨_, rfl⟩
    rw [← hY] at HPB HEA HUN ⊢
    have HY := Lib.hid hY
    clear hE hys HFB HFO HC HSY hyz hY
    by_cases hmo : most < (size : Int)
    · have HRT : Hid (takeAt (natsOf s) at_ most = .bad 6) := Lib.hid (by rw [HTK.out]; unfold takeOf; simp only; rw [if_pos hmo])
      clear HTK
      go_wp2_with fail
      refine bodyPost_ret (v := .tuple #[.int .u8 0, .string ⟨#[]⟩, .int .i64 0, .int .i64 6]) (by simp [results, Tryd.results12, go_sem]) rfl ?_
      rw [HRT.out]
      exact ⟨HEA.out, rfl⟩
    · by_cases hh : h = 1
      · have HRT : Hid (takeAt (natsOf s) at_ most = match Lz.unp size [] ys with
          | .bad _ => .bad 4
          | .ok zs => if zs.length = size then .ok kind zs next else .bad 4) := Lib.hid (by rw [HTK.out]; unfold takeOf; simp only; rw [if_neg hmo, if_pos hh])
        subst hh
        have hd1 : decide ((1 : Nat) = 1) = true := rfl
        clear HTK
        go_wp2_with fail
        refine (HUN.out _).mono ?_
        rintro e w2 ⟨hE2, hu⟩
        have HP2 := Lib.hid (HPB.out.ext hE2)
        have HE2 := Lib.hid (ext_trans HEA.out hE2)
        have q0 := HP2.out.cell 0; have q1 := HP2.out.cell 1; have q2 := HP2.out.cell 2; have q3 := HP2.out.cell 3; have q4 := HP2.out.cell 4
        simp only [List.getElem?_toArray, List.getElem?_cons_zero, List.getElem?_cons_succ] at q0 q1 q2 q3 q4
        clear hE2
        cases hun : Lz.unp size [] ys with
        | bad f =>
          rw [hun] at hu HRT
          obtain rfl := hu
          have hfb : (f == 0) = false := beq_eq_false_iff_ne.2 (unp_bad size _ [] ys f rfl hun)
          clear hun
          go_wp2_with fail
          refine bodyPost_ret (v := .tuple #[.int .u8 0, .string ⟨#[]⟩, .int .i64 0, .int .i64 4]) (by simp [results, Tryd.results12, go_sem]) rfl ?_
          rw [HRT.out]
          exact ⟨HE2.out, rfl⟩
        | ok zs =>
          rw [hun] at hu HRT
          obtain rfl := hu
          have hzl := strOf_size zs
          obtain ⟨Z, hZ⟩ : ∃ Z, Z = strOf zs := ⟨_, rfl⟩
          rw [← hZ] at hzl ⊢
          have HZ := Lib.hid hZ
          clear hun hZ
          by_cases hz : zs.length = size
          · have hzb : ((Z.size : Int) != (size : Int)) = false := by rw [hzl, hz]; simp
            have HRT2 : Hid (takeAt (natsOf s) at_ most = .ok kind zs next) := Lib.hid (by rw [HRT.out]; simp only; rw [if_pos hz])
            clear hz HRT hzl
            go_wp2_with fail
            refine wp_still (by kernel_rfl) (by kernel_rfl) ?_
            repeat still_step
            refine wpStill_nil ?_
            go_wp2_with fail
            refine bodyPost_ret (v := .tuple #[.int .u8 (kind : Int), .string Z, .int .i64 (next : Int), .int .i64 0]) (by simp [results, Tryd.results12, go_sem]) rfl ?_
            rw [HRT2.out]
            exact ⟨ext_drew HE2.out, by rw [HZ.out]⟩
          · have hzb : ((Z.size : Int) != (size : Int)) = true := by simp; omega
            have HRT2 : Hid (takeAt (natsOf s) at_ most = .bad 4) := Lib.hid (by rw [HRT.out]; simp only; rw [if_neg hz])
            clear hz hzl
            go_wp2_with fail
            refine bodyPost_ret (v := .tuple #[.int .u8 0, .string ⟨#[]⟩, .int .i64 0, .int .i64 4]) (by simp [results, Tryd.results12, go_sem]) rfl ?_
            rw [HRT2.out]
            exact ⟨HE2.out, rfl⟩
      · have hd0 : decide (h = 1) = false := decide_eq_false hh
        have HRT : Hid (takeAt (natsOf s) at_ most = .ok kind ys next) := Lib.hid (by rw [HTK.out]; unfold takeOf; simp only; rw [if_neg hmo, if_neg hh])
        rw [hd0] at HPB HEA ⊢
        clear HTK hh hd0
        go_wp2_with fail
        refine wp_still (by kernel_rfl) (by kernel_rfl) ?_
        repeat still_step
        refine wpStill_nil ?_
        go_wp2_with fail
        refine bodyPost_ret (v := .tuple #[.int .u8 (kind : Int), .string Y, .int .i64 (next : Int), .int .i64 0]) (by simp [results, Tryd.results12, go_sem]) rfl ?_
        rw [HRT.out]
        exact ⟨ext_drew HEA.out, by rw [HY.out]⟩
end Go.Proofs.YtckjmabacibojaaDoor.Chk
