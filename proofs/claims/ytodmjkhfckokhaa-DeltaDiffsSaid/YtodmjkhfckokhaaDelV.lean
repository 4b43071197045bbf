/- Contracts of package delta: the difference; what a difference's runs are read as, plain. -/
import Derived.Test.YtodmjkhfckokhaaDelU
import Derived.Test.YtodmjkhfckokhaaWireT
import Derived.Test.YtodmjkhfckokhaaWireO
namespace Go.Proofs.Ytodmjkhfckokhaa.Delta
open Go.ChangeShapes Go.WideShapes Go.ChangeAt Go.RowKit
open Go.Proofs.Ytodmjkhfckokhaa.Wire
set_option linter.unusedVariables false

theorem own_low {w : World} {base base' : Nat} {e : TypeId} {size n : Nat} {v : Value} {xs : List Value} (h : w.ownsRow base e size v n xs) (hb : base' ≤ base) : w.ownsRow base' e size v n xs := by
  refine ⟨h.1, ?_⟩
  rcases h.2 with h | ⟨g, cap, cur, h1, h2, h3⟩
  · exact .inl h
  · exact .inr ⟨g, cap, cur, h1, Nat.le_trans hb h2, h3⟩
theorem puts_ext {a w w' : World} {zs : List Nat} {e : Ending} (h : Puts w zs e w') (hE : Ext a w) : Puts a zs e w' := by
  obtain ⟨g, c, rfl, h1, h2, h3, h4, h5⟩ := h
  exact ⟨g, c, rfl, h1, h2, Nat.le_trans hE.size h3, own_low h4 hE.size, ext_trans hE h5⟩
set_option maxHeartbeats 1000000 in
theorem ddiff (A B : Option Addr) (n c n2 c2 : Nat) (xs ys : List Nat) (w : World) (hA : Bs w A n xs) (hB : Bs w B n2 ys) (hn : n ≤ 1000000) (hn2 : n2 ≤ 1000000) :
    Calls Try.prog 31 #[.slice A n c, .slice B n2 c2] w (Puts w (diff xs ys)) := by
  have hyl : ys.length = n2 := hB.1
  have HX := Lib.hid (xor A B n c n2 c2 xs ys w hA hB (by omega) (by omega))
  have HL := Lib.hid (mix_len xs ys)
  have HS := Lib.hid (mix_small hA.2.1 hB.2.1)
  have HD : Hid (diff xs ys = vb (mix xs ys).length ++ enc (mix xs ys)) := Lib.hid (by unfold diff; rw [mix_len])
  rw [HD.out]
  have hl : (mix xs ys).length ≤ 1000000 := by rw [mix_len]; omega
  clear hA hB hyl HD
  generalize mix xs ys = zs at *
  obtain ⟨ds, hds⟩ : ∃ ds, ds = vb zs.length ++ enc zs := ⟨_, rfl⟩
  rw [← hds]
  have HDS := Lib.hid hds; clear hds
  go_enter Try.func31, Try.ntmps31
  go_wp2_with fail
  refine HX.out.mono ?_
  rintro e w1 ⟨g, rfl, hg, hO, hE⟩
  have hgl : g < w1.heap.size := (World.ownsRow.lt hO g rfl).2
  have HO := Lib.hid (Own.bs hO HS.out); have HE := Lib.hid hE
  clear hO hE
  go_wp2_with fail
  refine (encode g zs.length zs w1 HO.out hgl hl (Nat.le_refl _) (by omega)).mono ?_
  intro e w2 hp
  rw [← HDS.out] at hp
  have HP := Lib.hid (puts_ext hp HE.out)
  obtain ⟨g2, c3, rfl, h1, h2, h3, h4, h5⟩ := hp
  clear h1 h2 h3 h4 h5
  go_wp2_with fail
  go_ret
  exact HP.out
/-- What a difference's runs are read as. -/
inductive LR where
  | bad (err : Int)
  | ok (l : List (Nat × List Nat))
def lits (n : Nat) (at_ : Nat) (rest : List Nat) : LR :=
  if h0 : rest = [] then .ok [] else
  match lim (vr 0 0 rest) with
  | .short => .bad 3
  | .form => .bad 4
  | .ok z k =>
    if n < at_ + z then .bad 4 else
    match tr (rest.drop k) ((n : Int) - at_ - z) with
    | .bad f => .bad f
    | .ok ys j =>
      if hj : 0 < k + j then
        match lits n (at_ + z + ys.length) (rest.drop (k + j)) with
        | .bad f => .bad f
        | .ok l => .ok ((at_ + z, ys) :: l)
      else .bad 4
termination_by rest.length
decreasing_by
  have : 0 < rest.length := List.length_pos_iff.2 h0
  rw [List.length_drop]
  omega
def LR.pre (l : List (Nat × List Nat)) : LR → LR
  | .bad f => .bad f
  | .ok m => .ok (l ++ m)
theorem pre_nil (R : LR) : LR.pre [] R = R := by cases R <;> rfl
theorem pre_pre (l m : List (Nat × List Nat)) (R : LR) : LR.pre l (LR.pre m R) = LR.pre (l ++ m) R := by cases R <;> simp [LR.pre]
theorem lits_nil (n at_ : Nat) : lits n at_ [] = .ok [] := by rw [lits]; rfl
theorem lits_short {n at_ : Nat} {rest : List Nat} (h0 : rest ≠ []) (h : lim (vr 0 0 rest) = .short) : lits n at_ rest = .bad 3 := by rw [lits, dif_neg h0, h]
theorem lits_form {n at_ : Nat} {rest : List Nat} (h0 : rest ≠ []) (h : lim (vr 0 0 rest) = .form) : lits n at_ rest = .bad 4 := by rw [lits, dif_neg h0, h]
theorem lits_big {n at_ : Nat} {rest : List Nat} {z k : Nat} (h0 : rest ≠ []) (h : lim (vr 0 0 rest) = .ok z k) (hb : n < at_ + z) : lits n at_ rest = .bad 4 := by
  rw [lits, dif_neg h0, h]
  simp only [if_pos hb]
theorem lits_bad {n at_ : Nat} {rest : List Nat} {z k : Nat} {f : Int} (h0 : rest ≠ []) (h : lim (vr 0 0 rest) = .ok z k) (hb : ¬ n < at_ + z) (ht : tr (rest.drop k) ((n : Int) - at_ - z) = .bad f) : lits n at_ rest = .bad f := by
  rw [lits, dif_neg h0, h]
  simp only [if_neg hb, ht]
theorem lits_more {n at_ : Nat} {rest : List Nat} {z k : Nat} {ys : List Nat} {j : Nat} (h0 : rest ≠ []) (h : lim (vr 0 0 rest) = .ok z k) (hb : ¬ n < at_ + z) (ht : tr (rest.drop k) ((n : Int) - at_ - z) = .ok ys j) (hj : 0 < k + j) :
    lits n at_ rest = LR.pre [(at_ + z, ys)] (lits n (at_ + z + ys.length) (rest.drop (k + j))) := by
  rw [lits, dif_neg h0, h]
  simp only [if_neg hb, ht, dif_pos hj]
  cases lits n (at_ + z + ys.length) (rest.drop (k + j)) <;> rfl
theorem tr_len {rest : List Nat} {m : Int} {ys : List Nat} {j : Nat} (h : tr rest m = .ok ys j) (hs : ∀ c ∈ rest, c < 256) : (ys.length : Int) ≤ m ∧ j ≤ rest.length ∧ 0 < j ∧ ys.length ≤ rest.length := by
  unfold tr at h
  cases hv : vr 0 0 rest with
  | short => rw [hv] at h; cases h
  | form => rw [hv] at h; cases h
  | ok z k =>
    rw [hv] at h
    simp only at h
    have hk := vr_ok hs hv
    have hp := vb_pos z
    by_cases h1 : m < 0 ∨ m < (z : Int)
    · rw [if_pos h1] at h; cases h
    · rw [if_neg h1] at h
      by_cases h2 : rest.length - k < z
      · rw [if_pos h2] at h; cases h
      · rw [if_neg h2] at h
        cases h
        rw [List.length_take, List.length_drop]
        omega
theorem lim_ok {R : VR} {v k : Nat} (h : lim R = .ok v k) : R = .ok v k := by
  cases R with
  | short => cases h
  | form => cases h
  | ok a b =>
    simp only [lim] at h
    by_cases hb : a ≤ 2147483647
    · rw [if_pos hb] at h; exact h
    · rw [if_neg hb] at h; cases h
/-- The runs of a text are read as its pieces. -/
theorem lits_enc (m : Nat) : ∀ (at_ : Nat) (l : List Nat), l.length ≤ m → l.length ≤ 1000000 → (∀ c ∈ l, c < 256) → lits (at_ + l.length) at_ (enc l) = .ok (pcs at_ l) := by
  induction m with
  | zero =>
    intro at_ l hl _ _
    rw [enc_stop (by omega), pcs_stop (by omega), lits_nil]
  | succ m ih =>
    intro at_ l hl hb hs
    by_cases h : zr l < l.length
    · have h1 := zr_full h
      have h2 := lit_pos h1.2 h1.1
      have h3 := lit_le (l.drop (zr l))
      rw [List.length_drop] at h3
      generalize hz : zr l = z at *
      generalize hk : lit (l.drop z) = k at *
      have e := enc_more (l := l) (by rw [hz]; exact h)
      rw [hz, hk] at e
      have hL : ((l.drop z).take k).length = k := by rw [List.length_take, List.length_drop]; omega
      have hv1 := vr_put (m := z) (by omega) (vb k ++ (l.drop z).take k ++ enc (l.drop (z + k)))
      have hv2 := vr_put (m := k) (by omega) ((l.drop z).take k ++ enc (l.drop (z + k)))
      have e0 : enc l = vb z ++ (vb k ++ (l.drop z).take k ++ enc (l.drop (z + k))) := by rw [e]; simp only [List.append_assoc]
      have ed : (enc l).drop (vb z).length = vb k ++ ((l.drop z).take k ++ enc (l.drop (z + k))) := by rw [e0, List.drop_left, List.append_assoc]
      have ht : tr ((enc l).drop (vb z).length) (((at_ + l.length : Nat) : Int) - at_ - z) = .ok ((l.drop z).take k) ((vb k).length + k) := by
        rw [ed]
        unfold tr
        rw [hv2]
        simp only
        rw [if_neg (by omega), if_neg (by simp only [List.length_append, hL]; omega), List.drop_left, List.take_left' hL]
      have hp := vb_pos z
      have hne : enc l ≠ [] := fun hn => by
        have := congrArg List.length e0
        rw [hn, List.length_append] at this
        simp at this
        omega
      rw [lits_more hne (by rw [e0, hv1]; simp only [lim]; rw [if_pos (by omega)]) (by omega) ht (by omega)]
      have hdr : (enc l).drop ((vb z).length + ((vb k).length + k)) = enc (l.drop (z + k)) := by
        rw [← List.drop_drop, ed, ← List.drop_drop, List.drop_left, List.drop_left' hL]
      have hlen : at_ + l.length = at_ + z + k + (l.drop (z + k)).length := by rw [List.length_drop]; omega
      rw [hdr, hL, hlen, ih (at_ + z + k) (l.drop (z + k)) (by rw [List.length_drop]; omega) (by rw [List.length_drop]; omega) (fun c hc => hs c (List.mem_of_mem_drop hc))]
      have hpm := pcs_more (at_ := at_) (l := l) (by rw [hz]; exact h)
      rw [hz, hk] at hpm
      rw [hpm, Nat.add_assoc]
      rfl
    · rw [enc_stop h, pcs_stop h, lits_nil]
end Go.Proofs.Ytodmjkhfckokhaa.Delta
