/- Tracks: taken, walked. -/
import Derived.Test.YtidnboeihkeljaaGreatDoorF20
import Derived.Test.YtidnboeihkeljaaGreatDoorF21
import Derived.LoopN
set_option maxHeartbeats 16000000
set_option maxRecDepth 100000
set_option linter.all false
open Go.ChangeShapes Go.WideShapes Go.ChangeAt Go.RowKit
namespace Go.Proofs.YtidnboeihkeljaaGreatDoor.Trk
open Wire
open Rec
open Log (pN pI pF pB pT nx va RSt RIn num_st int_st text_st err_st end_st of_st blk_kept results_cell2 hmxL OwnR_keep pN_ok pI_ok pT_ok)

def zeroT : Array Value := #[.slice none 0 0, .slice none 0 0, .slice none 0 0, .slice none 0 0, .slice none 0 0]
def TtPost (w : World) (n : Int) (L : List Nat) (e : Ending) (w' : World) : Prop :=
 Ext w w' ∧ match takeT n L with
 | none => ∃ x : Int, x ≠ 0 ∧ e = .returned (.tuple #[.agg zeroT, .int .i64 x])
 | some x => ∃ t : Tv, e = .returned (.tuple #[.agg t.cells, .int .i64 0]) ∧ TkV w' t x
def NewT (w : World) (t : Tv) : Prop := (∀ a, t.s0.A = some a → w.heap.size ≤ a.block) ∧ (∀ a, t.s1.A = some a → w.heap.size ≤ a.block) ∧ (∀ a, t.s2.A = some a → w.heap.size ≤ a.block) ∧ (∀ a, t.s3.A = some a → w.heap.size ≤ a.block) ∧ ∀ a, t.sm.A = some a → w.heap.size ≤ a.block
def TuPost (w : World) (n : Int) (L : List Nat) (e : Ending) (w' : World) : Prop :=
 Ext w w' ∧ match takeT n L with
 | none => ∃ x : Int, x ≠ 0 ∧ e = .returned (.tuple #[.agg zeroT, .int .i64 x])
 | some x => ∃ t : Tv, e = .returned (.tuple #[.agg t.cells, .int .i64 0]) ∧ TkV w' t x ∧ NewT w t
theorem tt_ok {w w' : World} {n : Int} {L : List Nat} {x : Tk} {t : Tv} (hE : Ext w w') (h : takeT n L = some x) (hO : TkV w' t x) (hN : NewT w t) : TuPost w n L (.returned (.tuple #[.agg t.cells, .int .i64 0])) w' := by
 refine ⟨hE, ?_⟩; rw [h]; exact ⟨t, rfl, hO, hN⟩
theorem tt_bad {w w' : World} {n : Int} {L : List Nat} {x : Int} (hE : Ext w w') (h : takeT n L = none) (hx : x ≠ 0) : TuPost w n L (.returned (.tuple #[.agg zeroT, .int .i64 x])) w' := by
 refine ⟨hE, ?_⟩; rw [h]; exact ⟨x, hx, rfl⟩
theorem nxC_len {st : Option (List Nat)} {m : Nat} {f : List Nat → Option (List Pt × List Nat)} (h : ∀ L, st = some L → L.length ≤ m) (hf : ∀ L ps R, f L = some (ps, R) → R.length ≤ L.length) : ∀ L, nx f st = some L → L.length ≤ m := by
 intro L hL
 cases st with
 | none => simp [nx] at hL
 | some M =>
  cases hq : f M with
  | none => simp [nx, hq] at hL
  | some q =>
   obtain ⟨ps, R⟩ := q
   have e : R = L := by simpa [nx, hq] using hL
   subst e
   exact Nat.le_trans (hf M ps R hq) (h M rfl)
theorem pN_le {L R : List Nat} {v : Nat} (h : pN L = some (v, R)) : R.length ≤ L.length := by
 unfold pN at h
 split at h
 ·cases h; rw [List.length_drop]; omega
 ·cases h
theorem pI_le {L R : List Nat} {v : Nat} (h : pI L = some (v, R)) : R.length ≤ L.length := by
 unfold pI at h
 split at h
 ·cases h; rw [List.length_drop]; omega
 ·cases h
theorem pPs_le : ∀ (k last : Nat) (L : List Nat) (ps : List Pt) (R : List Nat), pPs k last L = some (ps, R) → R.length ≤ L.length := by
 intro k
 induction k with
 | zero => intro last L ps R h; cases h; exact Nat.le_refl _
 | succ k ih =>
  intro last L ps R h
  rw [pPs] at h
  split at h
  ·cases h
  rename_i d L1 h1
  split at h
  ·cases h
  rename_i x L2 h2
  split at h
  ·cases h
  rename_i y L3 h3
  split at h
  ·cases h
  rename_i ps2 R2 h4
  cases h
  have := pI_le h1; have := pI_le h2; have := pI_le h3; have := ih _ _ _ _ h4
  omega
theorem pCm_le {L : List Nat} {ps : List Pt} {R : List Nat} (h : pCm L = some (ps, R)) : R.length ≤ L.length := by
 unfold pCm at h
 split at h
 ·cases h
 rename_i k L1 h1
 have := pN_le h1; have := pPs_le _ _ _ _ _ h; omega
theorem nxM_len {L L3 : List Nat} (h : nx (pT 40) (nx pI (some L)) = some L3) : L3.length + 1 ≤ L.length := by
 cases h1 : pI L with
 | none => simp [nx, h1] at h
 | some p1 =>
  obtain ⟨d, L1⟩ := p1
  cases h2 : pT 40 L1 with
  | none => simp [nx, h1, h2] at h
  | some p2 =>
   obtain ⟨x, L2⟩ := p2
   have e : L2 = L3 := by simpa [nx, h1, h2] using h
   subst e
   have q1 : L2.length + 1 ≤ L1.length := by
    unfold pT at h2
    split at h2
    ·rename_i nn M hn
     split at h2
     ·unfold Log.pB at h2
      split at h2
      ·cases h2
       have q : M.length + 1 ≤ L1.length := by
        unfold pN at hn
        split at hn
        ·rename_i v k hv
         cases hn
         have h2 : ∀ (N : List Nat) (size acc v k : Nat), vr size acc N = .ok v k → size < k ∧ k ≤ size + N.length := by
          intro N
          induction N with
          | nil => intro size acc v k h; simp [vr] at h
          | cons c cs ih =>
           intro size acc v k h
           rw [vr] at h
           split at h
           ·cases h
           ·split at h
            ·cases h; rw [List.length_cons]; omega
            ·have := ih _ _ _ _ h
             rw [List.length_cons]
             omega
         have := h2 L1 0 0 _ _ hv
         rw [List.length_drop]
         omega
        ·cases hn
       rw [List.length_drop]; omega
      ·cases h2
     ·cases h2
    ·cases h2
   have := pI_le h1
   omega
theorem vaT_len {st : Option (List Nat)} (h : ∀ L, st = some L → ∀ c ∈ L, c < 256) : (va (pT 40) [] st).length ≤ 40 := by
 unfold va
 cases hs : st with
 | none => simp
 | some L =>
  cases hq : pT 40 L with
  | none => simp [hq]
  | some q =>
   obtain ⟨ys, R⟩ := q
   have := (pT_ok (h L hs) hq).2
   simpa [hq] using this
theorem TkV.set {w : World} {t : Tv} {x : Tk} {rb : Nat} (h : TkV w t x) (h0 : ∀ a, t.s0.A = some a → a.block ≠ rb) (h1 : ∀ a, t.s1.A = some a → a.block ≠ rb) (h2 : ∀ a, t.s2.A = some a → a.block ≠ rb) (h3 : ∀ a, t.s3.A = some a → a.block ≠ rb) (hm : ∀ a, t.sm.A = some a → a.block ≠ rb) (i : Nat) (v : Value) : TkV (w.setCell ⟨rb, i, none⟩ v) t x := by
 have hs : w.heap.size ≤ (w.setCell ⟨rb, i, none⟩ v).heap.size := by simp [World.setCell]
 have hk : ∀ b, b ≠ rb → (w.setCell ⟨rb, i, none⟩ v).heap[b]? = w.heap[b]? := fun b hb => Below.heap_setCell w ⟨rb, i, none⟩ v b hb
 exact ⟨⟨h.1.1.keep hs (fun a ha _ => hk _ (h0 a ha)), h.1.2⟩, ⟨h.2.1.1.keep hs (fun a ha _ => hk _ (h1 a ha)), h.2.1.2⟩, ⟨h.2.2.1.1.keep hs (fun a ha _ => hk _ (h2 a ha)), h.2.2.1.2⟩, ⟨h.2.2.2.1.1.keep hs (fun a ha _ => hk _ (h3 a ha)), h.2.2.2.1.2⟩, ⟨h.2.2.2.2.1.keep hs (fun a ha _ => hk _ (hm a ha)), h.2.2.2.2.2⟩⟩
theorem takeT_eq {n : Int} (hn : 0 ≤ n ∧ n ≤ 4096) (xs : List Nat) : (∀ x, pTk xs = some (x, []) → takeT n xs = if mayT n x = true then some x else none) ∧ ((∀ x, pTk xs ≠ some (x, [])) → takeT n xs = none) := by
 unfold takeT
 rw [if_pos hn]
 refine ⟨fun x h => by rw [h], fun h => ?_⟩
 cases hq : pTk xs with
 | none => rfl
 | some q =>
  obtain ⟨x, R⟩ := q
  cases R with
  | nil => exact absurd hq (h x)
  | cons a b => rfl
theorem restM_init {st : Option (List Nat)} {m : Nat} (h : ∀ L, st = some L → L.length ≤ m) : (nx pN st = none → st.bind pMk = none) ∧ ∀ L, nx pN st = some L → st.bind pMk = restM [] (va pN 0 st) 0 L ∧ ([] : List Mk).length + L.length ≤ m := by
 cases st with
 | none => simp [nx]
 | some M =>
  cases hq : pN M with
  | none => simp [nx, hq, pMk]
  | some q =>
   obtain ⟨k, L1⟩ := q
   refine ⟨fun h => by simp [nx, hq] at h, fun L hL => ?_⟩
   have e : L1 = L := by simpa [nx, hq] using hL
   subst e
   have e2 : va pN 0 (some M) = k := by simp [va, hq]
   rw [e2]
   refine ⟨?_, ?_⟩
   ·simp only [Option.bind_some, pMk, hq, restM, List.nil_append]
    cases pMs k 0 L1 with
    | none => rfl
    | some q => rfl
   ·have := pN_le hq
    have := h M rfl
    simp only [List.length_nil]
    omega
def MW (w wm : World) (rb hb Bm g : Nat) (A : Option Addr) (m c : Nat) (xs : List Nat) (cs : Array Value) (v : Value) (ms : List Mk) (st : Option (List Nat)) (W : World) : Prop :=
 Blk W hb 40 cs ∧ OwnR Bm W 113 2 cM v ms ∧ RSt W g A m c xs st ∧ Blk W rb 40 zeroT ∧ (∀ k, hb + 1 ≤ k → k < Bm → W.heap[k]? = wm.heap[k]?) ∧ Ext w W ∧ Bm ≤ W.heap.size
section
variable {w wm W : World} {rb hb Bm g m c : Nat} {A : Option Addr} {xs : List Nat} {cs : Array Value} {v : Value} {ms : List Mk} {st : Option (List Nat)}
theorem MW.ext {W' : World} (h : MW w wm rb hb Bm g A m c xs cs v ms st W) (e : Ext W W') : MW w wm rb hb Bm g A m c xs cs v ms st W' :=
 ⟨h.1.ext e, h.2.1.ext e, h.2.2.1.ext e, h.2.2.2.1.ext e, fun k h1 h2 => (e.block k (Nat.lt_of_lt_of_le h2 h.2.2.2.2.2.2)).trans (h.2.2.2.2.1 k h1 h2), ext_trans h.2.2.2.2.2.1 e, Nat.le_trans h.2.2.2.2.2.2 e.size⟩
theorem MW.read {W' : World} {st' : Option (List Nat)} (h : MW w wm rb hb Bm g A m c xs cs v ms st W) (h1 : w.heap.size ≤ g ∧ rb < g) (h2 : g < hb) (h3 : hb < Bm) (hS : RSt W' g A m c xs st') (hG : W.grownBy W' (some g)) : MW w wm rb hb Bm g A m c xs cs v ms st' W' :=
 ⟨blk_kept h.1 hG (by omega), h.2.1.grown hG (by omega), hS, blk_kept h.2.2.2.1 hG (by omega), fun k k1 k2 => (hG.block k (Nat.lt_of_lt_of_le k2 h.2.2.2.2.2.2) (by simp; omega)).trans (h.2.2.2.2.1 k k1 k2), ext_grown h.2.2.2.2.2.1 hG (fun q e => by cases e; omega), Nat.le_trans h.2.2.2.2.2.2 hG.size⟩
theorem MW.app {W' : World} {v' : Value} {ms' : List Mk} (h : MW w wm rb hb Bm g A m c xs cs v ms st W) (hb1 : w.heap.size ≤ rb ∧ rb < hb ∧ hb < Bm ∧ RIn hb g A m) (hO : OwnR Bm W' 113 2 cM v' ms') (hG : W.grownBy W' v.ownBlock) : MW w wm rb hb Bm g A m c xs cs v' ms' st W' := by
 have hob : ∀ k, v.ownBlock = some k → Bm ≤ k := fun k e => (World.ownsRow.lt h.2.1 k e).1
 have hk : ∀ k, k < Bm → W'.heap[k]? = W.heap[k]? := fun k hk => hG.block k (Nat.lt_of_lt_of_le hk h.2.2.2.2.2.2) (fun e => by have := hob k e.symm; omega)
 obtain ⟨q1, q2, q3, q4⟩ := hb1
 exact ⟨(hk hb q3).trans h.1, hO, h.2.2.1.keep q4 (fun k hk' => hk k (by omega)) hG.size, (hk rb (by omega)).trans h.2.2.2.1, fun k k1 k2 => (hk k k2).trans (h.2.2.2.2.1 k k1 k2), ext_grown h.2.2.2.2.2.1 hG (fun q e => by have := hob q e; omega), Nat.le_trans h.2.2.2.2.2.2 hG.size⟩
theorem MW.store {cs' : Array Value} (h : MW w wm rb hb Bm g A m c xs cs v ms st W) (hb1 : w.heap.size ≤ rb ∧ rb < hb ∧ hb < Bm ∧ RIn hb g A m) (i : Nat) (u : Value) (hc : cs.setIfInBounds i u = cs') : MW w wm rb hb Bm g A m c xs cs' v ms st (W.setCell ⟨hb, i, none⟩ u) := by
 obtain ⟨q1, q2, q3, q4⟩ := hb1
 refine ⟨by rw [← hc]; exact h.1.set_ i u, OwnR_keep h.2.1 (fun k hk _ => Below.heap_setCell W ⟨hb, i, none⟩ u k (by show k ≠ hb; omega)), h.2.2.1.set q4 (by show hb ≤ hb; omega) u, h.2.2.2.1.far (by show rb ≠ hb; omega) u, fun k k1 k2 => (Below.heap_setCell W ⟨hb, i, none⟩ u k (by show k ≠ hb; omega)).trans (h.2.2.2.2.1 k k1 k2), ext_set h.2.2.2.2.2.1 (by show w.heap.size ≤ hb; omega) u, by have := h.2.2.2.2.2.2; simpa [World.setCell] using this⟩
end
def MRel (w wm : World) (rb hb Bm g : Nat) (A : Option Addr) (m c : Nat) (xs : List Nat) (v0 v1 v2 v3 : Value) (O : Option (List Mk × List Nat)) (gh : Nat) (lv kv : Value) (wr : World) : Prop :=
 ∃ (ms : List Mk) (last : Nat) (st : Option (List Nat)) (Am : Option Addr) (nm cm : Nat), lv = .int .i64 (last : Int) ∧ kv = .int .u64 (gh : Int) ∧ gh < 18446744073709551616 ∧ MW w wm rb hb Bm g A m c xs #[v0, v1, v2, v3, .slice Am nm cm] (.slice Am nm cm) ms st wr ∧
  (st = none → O = none) ∧ (∀ L, st = some L → O = restM ms gh last L ∧ ms.length + L.length ≤ m) ∧ ms.length ≤ m + 1 ∧ last ≤ ms.length * 2147483647 ∧ ∀ q ∈ ms, q.name.size ≤ 9223372036854775807
theorem take_tu (A : Option Addr) (m c : Nat) (xs : List Nat) (n : Int) (w : World) (hB : Bs w A m xs) (hnil : A = none → m = 0 ∧ c = 0) (hm : m ≤ 1000000) (hN1 : -9223372036854775808 ≤ n) (hN2 : n ≤ 9223372036854775807) :
  Calls Tryz.prog 95 #[.slice A m c, .int .i64 n] w (TuPost w n xs) := by
 have hE0 := ext_alloc (Ext.rfl' w) (.cells zeroT 40)
 have HZB := Lib.hid (Blk.new w 40 zeroT)
 have HT := Lib.hid (ticks_st n (w.alloc (.cells zeroT 40)))
 have HOF := Lib.hid (fun (w' : World) (e : Ext w w') => of_st A m c xs w' (hB.ext e) hnil (by omega))
 have HSML := Lib.hid (fun (L : List Nat) (ps : List Pt) (R : List Nat) (h : pCm L = some (ps, R)) => pCm_le h)
 have HXL := Lib.hid hB.1
 have HSM : Hid (∀ c ∈ xs, c < 256) := Lib.hid (mem_small hB.2.1)
 have HE00 := Lib.hid hE0
 clear hB hnil hE0
 unfold zeroT at HT HE00 HZB
 by_cases hn : 0 ≤ n ∧ n ≤ 4096
 ·rw [decide_eq_true hn] at HT
  have HTQ := Lib.hid (takeT_eq hn xs)
  clear hn
  go_enter Tryz.func95, Tryz.ntmps95
  go_wp2_with fail
  refine (HT.out).mono ?_
  rintro e w1 ⟨rfl, hE1⟩
  have HE1 := Lib.hid (ext_trans HE00.out hE1)
  have HZ1 := Lib.hid (HZB.out.ext hE1)
  clear hE1 HE00 HZB HT
  go_wp2_with fail
  refine (HOF.out w1 HE1.out).mono ?_
  rintro e w2 ⟨g, A', c', rfl, hg, hS, hE2, hfar⟩
  have HLV : Hid (∃ hb rb, hb = w2.heap.size ∧ rb = w.heap.size ∧ rb < hb ∧ rb < g ∧ g < hb ∧ w.heap.size ≤ hb ∧ w.heap.size ≤ g) := Lib.hid ⟨_, _, rfl, rfl, by
   have h1 := hE2.size
   have h2 := HZ1.out.lt
   have h3 := hS.lt
   omega⟩
  have HR00 := Lib.hid hS.rin
  have HZ0 := Lib.hid ((HZ1.out.ext hE2).alloc (.cells zeroT 40))
  have HH0 := Lib.hid (Blk.new w2 40 zeroT)
  have HE0 := Lib.hid (ext_alloc (ext_trans HE1.out hE2) (.cells zeroT 40))
  have HS0 := Lib.hid (hS.ext (ext_alloc (Ext.rfl' w2) (.cells zeroT 40)))
  have HSZ0 : Hid (w2.heap.size + 1 ≤ (w2.alloc (.cells zeroT 40)).heap.size) := Lib.hid (by rw [World.size_alloc]; omega)
  have HST0 : Hid (∀ L, (some xs : Option (List Nat)) = some L → L.length ≤ m) := Lib.hid (fun L e => by cases e; rw [HXL.out]; omega)
  clear hS hE2 hg hfar HZ1 HE1 HOF
  go_upto_region 5 with fail
  unfold zeroT at HZ0 HH0 HE0 HS0 HSZ0
  obtain ⟨w3, hw3⟩ : ∃ q, q = w2.alloc (.cells #[.slice none 0 0, .slice none 0 0, .slice none 0 0, .slice none 0 0, .slice none 0 0] 40) := ⟨_, rfl⟩
  rw [← hw3] at HZ0 HH0 HE0 HS0 HSZ0 ⊢
  clear hw3
  obtain ⟨hb, rb, hhb, hrb, HLV1⟩ := HLV.out
  rw [← hhb] at HH0 HSZ0 HR00 ⊢
  rw [← hrb] at HZ0 ⊢
  obtain ⟨B1, hB1⟩ : ∃ q, q = hb := ⟨_, rfl⟩
  have HR0 : Hid (RIn B1 g A' m) := Lib.hid (by rw [hB1]; exact HR00.out)
  replace HLV := Lib.hid (And.intro hB1 (And.intro hrb HLV1))
  clear hhb hrb HLV1 hB1 HR00
  go_wp2_with fail
  refine wp_loop_rounds 5 ?_
  rw [rounds_succ]
  have HTC0 := Lib.hid (takeCam_st g m c' A' xs (some xs) w3 HS0.out hm HST0.out)
  have hix := (idx4 (.slice none 0 0) (.slice none 0 0) (.slice none 0 0) (.slice none 0 0) w3).1
  clear hix
  go_wp2_with fail
  refine (HTC0.out).mono ?_
  rintro e wa0 ⟨A0, n0, c0, ds0, rfl, hO, hS, hG, hD⟩
  obtain ⟨Aq, cq, hv, hl1, hl2, hl3, hl4⟩ := hO.shape
  obtain ⟨e1, e2, e3⟩ := Value.slice.inj hv
  subst e1 e2 e3
  clear hv HTC0
  have HD0 := Lib.hid hD
  have HP0 : Hid (RowR wa0 A0 ds0.length 3 cP ds0) := Lib.hid (OwnR.row cP_len hO)
  have HL0 : Hid ((∀ a, A0 = some a → hb + 1 ≤ a.block) ∧ ds0.length ≤ c0 ∧ c0 ≤ 9223372036854775807 ∧ (A0 = none → ds0.length = 0 ∧ c0 = 0)) := Lib.hid ⟨fun a ha => Nat.le_trans HSZ0.out (hl4 a ha), hl1, hl2, hl3⟩
  have hB := blk_kept HH0.out hG (by have := HLV.out; omega)
  have HBa := Lib.hid hB
  have HZa := Lib.hid (blk_kept HZ0.out hG (by have := HLV.out; omega))
  have HEa : Hid (Ext w wa0) := Lib.hid (ext_grown HE0.out hG (fun q e => by cases e; have := HLV.out; omega))
  have HSZa := Lib.hid (Nat.le_trans HSZ0.out hG.size)
  have HSa := Lib.hid hS
  have hc := fun i => HBa.out.cell i
  have hfz := fun i => HBa.out.frozen i
  have hl0e : ∀ L, (nx pCm (some xs)) = some L → L.length ≤ m := nxC_len HST0.out HSML.out
  have HST1 := Lib.hid hl0e
  clear hO hS hG hD hl1 hl2 hl3 hl4 hB HH0 HZ0 HE0 HSZ0 HS0 hl0e
  generalize hn0 : ds0.length = n0 at *
  replace hn0 := Lib.hid hn0
  go_wp2_with fail
  have HH1 : Hid (Blk (wa0.setCell ⟨hb, 0, none⟩ (.slice A0 n0 c0)) hb 40 #[.slice A0 n0 c0, .slice none 0 0, .slice none 0 0, .slice none 0 0, .slice none 0 0]) := Lib.hid (HBa.out.set_ 0 _)
  have HZ1 := Lib.hid (HZa.out.far (p := ⟨hb, 0, none⟩) (by have := HLV.out; show rb ≠ hb; omega) (.slice A0 n0 c0))
  have HE1 := Lib.hid (ext_set HEa.out (p := ⟨hb, 0, none⟩) (by have := HLV.out; show w.heap.size ≤ hb; omega) (.slice A0 n0 c0))
  have HS1 := Lib.hid (HSa.out.set HR0.out (p := ⟨hb, 0, none⟩) (by have := HLV.out; show B1 ≤ hb; omega) (.slice A0 n0 c0))
  have HSZ1 : Hid (hb + 1 ≤ (wa0.setCell ⟨hb, 0, none⟩ (.slice A0 n0 c0)).heap.size) := Lib.hid (by have := HSZa.out; simpa [World.setCell] using this)
  replace HP0 := Lib.hid (HP0.out.keep (w' := wa0.setCell ⟨hb, 0, none⟩ (.slice A0 n0 c0)) (by simp [World.setCell]) (fun a ha _ => Below.heap_setCell _ ⟨hb, 0, none⟩ _ _ (by have := HL0.out.1 a ha; show a.block ≠ hb; omega)))
  obtain ⟨wb0, hwn⟩ : ∃ q, q = wa0.setCell ⟨hb, 0, none⟩ (.slice A0 n0 c0) := ⟨_, rfl⟩
  rw [← hwn] at HH1 HZ1 HE1 HS1 HSZ1 HP0 ⊢
  clear hwn hc hfz HBa HZa HEa HSZa HSa
  rw [rounds_succ]
  have HTC1 := Lib.hid (takeCam_st g m c' A' xs (nx pCm (some xs)) wb0 HS1.out hm HST1.out)
  have hix := (idx4 (.slice none 0 0) (.slice none 0 0) (.slice none 0 0) (.slice none 0 0) wb0).1
  clear hix
  go_wp2_with fail
  refine (HTC1.out).mono ?_
  rintro e wa1 ⟨A1, n1, c1, ds1, rfl, hO, hS, hG, hD⟩
  obtain ⟨Aq, cq, hv, hl1, hl2, hl3, hl4⟩ := hO.shape
  obtain ⟨e1, e2, e3⟩ := Value.slice.inj hv
  subst e1 e2 e3
  clear hv HTC1
  have HD1 := Lib.hid hD
  have HP1 : Hid (RowR wa1 A1 ds1.length 3 cP ds1) := Lib.hid (OwnR.row cP_len hO)
  have HL1 : Hid ((∀ a, A1 = some a → hb + 1 ≤ a.block) ∧ ds1.length ≤ c1 ∧ c1 ≤ 9223372036854775807 ∧ (A1 = none → ds1.length = 0 ∧ c1 = 0)) := Lib.hid ⟨fun a ha => Nat.le_trans HSZ1.out (hl4 a ha), hl1, hl2, hl3⟩
  have hB := blk_kept HH1.out hG (by have := HLV.out; omega)
  have HBa := Lib.hid hB
  have HZa := Lib.hid (blk_kept HZ1.out hG (by have := HLV.out; omega))
  have HEa : Hid (Ext w wa1) := Lib.hid (ext_grown HE1.out hG (fun q e => by cases e; have := HLV.out; omega))
  have HSZa := Lib.hid (Nat.le_trans HSZ1.out hG.size)
  have HSa := Lib.hid hS
  replace HP0 := Lib.hid (HP0.out.grown hG (fun a ha _ => by have := HL0.out.1 a ha; have := HLV.out; intro e; have := Option.some.inj e; omega))
  have hc := fun i => HBa.out.cell i
  have hfz := fun i => HBa.out.frozen i
  have hl1e : ∀ L, (nx pCm (nx pCm (some xs))) = some L → L.length ≤ m := nxC_len HST1.out HSML.out
  have HST2 := Lib.hid hl1e
  clear hO hS hG hD hl1 hl2 hl3 hl4 hB HH1 HZ1 HE1 HSZ1 HS1 hl1e
  generalize hn1 : ds1.length = n1 at *
  replace hn1 := Lib.hid hn1
  go_wp2_with fail
  have HH2 : Hid (Blk (wa1.setCell ⟨hb, 1, none⟩ (.slice A1 n1 c1)) hb 40 #[.slice A0 n0 c0, .slice A1 n1 c1, .slice none 0 0, .slice none 0 0, .slice none 0 0]) := Lib.hid (HBa.out.set_ 1 _)
  have HZ2 := Lib.hid (HZa.out.far (p := ⟨hb, 1, none⟩) (by have := HLV.out; show rb ≠ hb; omega) (.slice A1 n1 c1))
  have HE2 := Lib.hid (ext_set HEa.out (p := ⟨hb, 1, none⟩) (by have := HLV.out; show w.heap.size ≤ hb; omega) (.slice A1 n1 c1))
  have HS2 := Lib.hid (HSa.out.set HR0.out (p := ⟨hb, 1, none⟩) (by have := HLV.out; show B1 ≤ hb; omega) (.slice A1 n1 c1))
  have HSZ2 : Hid (hb + 1 ≤ (wa1.setCell ⟨hb, 1, none⟩ (.slice A1 n1 c1)).heap.size) := Lib.hid (by have := HSZa.out; simpa [World.setCell] using this)
  replace HP0 := Lib.hid (HP0.out.keep (w' := wa1.setCell ⟨hb, 1, none⟩ (.slice A1 n1 c1)) (by simp [World.setCell]) (fun a ha _ => Below.heap_setCell _ ⟨hb, 1, none⟩ _ _ (by have := HL0.out.1 a ha; show a.block ≠ hb; omega)))
  replace HP1 := Lib.hid (HP1.out.keep (w' := wa1.setCell ⟨hb, 1, none⟩ (.slice A1 n1 c1)) (by simp [World.setCell]) (fun a ha _ => Below.heap_setCell _ ⟨hb, 1, none⟩ _ _ (by have := HL1.out.1 a ha; show a.block ≠ hb; omega)))
  obtain ⟨wb1, hwn⟩ : ∃ q, q = wa1.setCell ⟨hb, 1, none⟩ (.slice A1 n1 c1) := ⟨_, rfl⟩
  rw [← hwn] at HH2 HZ2 HE2 HS2 HSZ2 HP0 HP1 ⊢
  clear hwn hc hfz HBa HZa HEa HSZa HSa
  rw [rounds_succ]
  have HTC2 := Lib.hid (takeCam_st g m c' A' xs (nx pCm (nx pCm (some xs))) wb1 HS2.out hm HST2.out)
  have hix := (idx4 (.slice none 0 0) (.slice none 0 0) (.slice none 0 0) (.slice none 0 0) wb1).1
  clear hix
  go_wp2_with fail
  refine (HTC2.out).mono ?_
  rintro e wa2 ⟨A2, n2, c2, ds2, rfl, hO, hS, hG, hD⟩
  obtain ⟨Aq, cq, hv, hl1, hl2, hl3, hl4⟩ := hO.shape
  obtain ⟨e1, e2, e3⟩ := Value.slice.inj hv
  subst e1 e2 e3
  clear hv HTC2
  have HD2 := Lib.hid hD
  have HP2 : Hid (RowR wa2 A2 ds2.length 3 cP ds2) := Lib.hid (OwnR.row cP_len hO)
  have HL2 : Hid ((∀ a, A2 = some a → hb + 1 ≤ a.block) ∧ ds2.length ≤ c2 ∧ c2 ≤ 9223372036854775807 ∧ (A2 = none → ds2.length = 0 ∧ c2 = 0)) := Lib.hid ⟨fun a ha => Nat.le_trans HSZ2.out (hl4 a ha), hl1, hl2, hl3⟩
  have hB := blk_kept HH2.out hG (by have := HLV.out; omega)
  have HBa := Lib.hid hB
  have HZa := Lib.hid (blk_kept HZ2.out hG (by have := HLV.out; omega))
  have HEa : Hid (Ext w wa2) := Lib.hid (ext_grown HE2.out hG (fun q e => by cases e; have := HLV.out; omega))
  have HSZa := Lib.hid (Nat.le_trans HSZ2.out hG.size)
  have HSa := Lib.hid hS
  replace HP0 := Lib.hid (HP0.out.grown hG (fun a ha _ => by have := HL0.out.1 a ha; have := HLV.out; intro e; have := Option.some.inj e; omega))
  replace HP1 := Lib.hid (HP1.out.grown hG (fun a ha _ => by have := HL1.out.1 a ha; have := HLV.out; intro e; have := Option.some.inj e; omega))
  have hc := fun i => HBa.out.cell i
  have hfz := fun i => HBa.out.frozen i
  have hl2e : ∀ L, (nx pCm (nx pCm (nx pCm (some xs)))) = some L → L.length ≤ m := nxC_len HST2.out HSML.out
  have HST3 := Lib.hid hl2e
  clear hO hS hG hD hl1 hl2 hl3 hl4 hB HH2 HZ2 HE2 HSZ2 HS2 hl2e
  generalize hn2 : ds2.length = n2 at *
  replace hn2 := Lib.hid hn2
  go_wp2_with fail
  have HH3 : Hid (Blk (wa2.setCell ⟨hb, 2, none⟩ (.slice A2 n2 c2)) hb 40 #[.slice A0 n0 c0, .slice A1 n1 c1, .slice A2 n2 c2, .slice none 0 0, .slice none 0 0]) := Lib.hid (HBa.out.set_ 2 _)
  have HZ3 := Lib.hid (HZa.out.far (p := ⟨hb, 2, none⟩) (by have := HLV.out; show rb ≠ hb; omega) (.slice A2 n2 c2))
  have HE3 := Lib.hid (ext_set HEa.out (p := ⟨hb, 2, none⟩) (by have := HLV.out; show w.heap.size ≤ hb; omega) (.slice A2 n2 c2))
  have HS3 := Lib.hid (HSa.out.set HR0.out (p := ⟨hb, 2, none⟩) (by have := HLV.out; show B1 ≤ hb; omega) (.slice A2 n2 c2))
  have HSZ3 : Hid (hb + 1 ≤ (wa2.setCell ⟨hb, 2, none⟩ (.slice A2 n2 c2)).heap.size) := Lib.hid (by have := HSZa.out; simpa [World.setCell] using this)
  replace HP0 := Lib.hid (HP0.out.keep (w' := wa2.setCell ⟨hb, 2, none⟩ (.slice A2 n2 c2)) (by simp [World.setCell]) (fun a ha _ => Below.heap_setCell _ ⟨hb, 2, none⟩ _ _ (by have := HL0.out.1 a ha; show a.block ≠ hb; omega)))
  replace HP1 := Lib.hid (HP1.out.keep (w' := wa2.setCell ⟨hb, 2, none⟩ (.slice A2 n2 c2)) (by simp [World.setCell]) (fun a ha _ => Below.heap_setCell _ ⟨hb, 2, none⟩ _ _ (by have := HL1.out.1 a ha; show a.block ≠ hb; omega)))
  replace HP2 := Lib.hid (HP2.out.keep (w' := wa2.setCell ⟨hb, 2, none⟩ (.slice A2 n2 c2)) (by simp [World.setCell]) (fun a ha _ => Below.heap_setCell _ ⟨hb, 2, none⟩ _ _ (by have := HL2.out.1 a ha; show a.block ≠ hb; omega)))
  obtain ⟨wb2, hwn⟩ : ∃ q, q = wa2.setCell ⟨hb, 2, none⟩ (.slice A2 n2 c2) := ⟨_, rfl⟩
  rw [← hwn] at HH3 HZ3 HE3 HS3 HSZ3 HP0 HP1 HP2 ⊢
  clear hwn hc hfz HBa HZa HEa HSZa HSa
  rw [rounds_succ]
  have HTC3 := Lib.hid (takeCam_st g m c' A' xs (nx pCm (nx pCm (nx pCm (some xs)))) wb2 HS3.out hm HST3.out)
  have hix := (idx4 (.slice none 0 0) (.slice none 0 0) (.slice none 0 0) (.slice none 0 0) wb2).1
  clear hix
  go_wp2_with fail
  refine (HTC3.out).mono ?_
  rintro e wa3 ⟨A3, n3, c3, ds3, rfl, hO, hS, hG, hD⟩
  obtain ⟨Aq, cq, hv, hl1, hl2, hl3, hl4⟩ := hO.shape
  obtain ⟨e1, e2, e3⟩ := Value.slice.inj hv
  subst e1 e2 e3
  clear hv HTC3
  have HD3 := Lib.hid hD
  have HP3 : Hid (RowR wa3 A3 ds3.length 3 cP ds3) := Lib.hid (OwnR.row cP_len hO)
  have HL3 : Hid ((∀ a, A3 = some a → hb + 1 ≤ a.block) ∧ ds3.length ≤ c3 ∧ c3 ≤ 9223372036854775807 ∧ (A3 = none → ds3.length = 0 ∧ c3 = 0)) := Lib.hid ⟨fun a ha => Nat.le_trans HSZ3.out (hl4 a ha), hl1, hl2, hl3⟩
  have hB := blk_kept HH3.out hG (by have := HLV.out; omega)
  have HBa := Lib.hid hB
  have HZa := Lib.hid (blk_kept HZ3.out hG (by have := HLV.out; omega))
  have HEa : Hid (Ext w wa3) := Lib.hid (ext_grown HE3.out hG (fun q e => by cases e; have := HLV.out; omega))
  have HSZa := Lib.hid (Nat.le_trans HSZ3.out hG.size)
  have HSa := Lib.hid hS
  replace HP0 := Lib.hid (HP0.out.grown hG (fun a ha _ => by have := HL0.out.1 a ha; have := HLV.out; intro e; have := Option.some.inj e; omega))
  replace HP1 := Lib.hid (HP1.out.grown hG (fun a ha _ => by have := HL1.out.1 a ha; have := HLV.out; intro e; have := Option.some.inj e; omega))
  replace HP2 := Lib.hid (HP2.out.grown hG (fun a ha _ => by have := HL2.out.1 a ha; have := HLV.out; intro e; have := Option.some.inj e; omega))
  have hc := fun i => HBa.out.cell i
  have hfz := fun i => HBa.out.frozen i
  have hl3e : ∀ L, (nx pCm (nx pCm (nx pCm (nx pCm (some xs))))) = some L → L.length ≤ m := nxC_len HST3.out HSML.out
  have HST4 := Lib.hid hl3e
  clear hO hS hG hD hl1 hl2 hl3 hl4 hB HH3 HZ3 HE3 HSZ3 HS3 hl3e
  generalize hn3 : ds3.length = n3 at *
  replace hn3 := Lib.hid hn3
  go_wp2_with fail
  have HH4 : Hid (Blk (wa3.setCell ⟨hb, 3, none⟩ (.slice A3 n3 c3)) hb 40 #[.slice A0 n0 c0, .slice A1 n1 c1, .slice A2 n2 c2, .slice A3 n3 c3, .slice none 0 0]) := Lib.hid (HBa.out.set_ 3 _)
  have HZ4 := Lib.hid (HZa.out.far (p := ⟨hb, 3, none⟩) (by have := HLV.out; show rb ≠ hb; omega) (.slice A3 n3 c3))
  have HE4 := Lib.hid (ext_set HEa.out (p := ⟨hb, 3, none⟩) (by have := HLV.out; show w.heap.size ≤ hb; omega) (.slice A3 n3 c3))
  have HS4 := Lib.hid (HSa.out.set HR0.out (p := ⟨hb, 3, none⟩) (by have := HLV.out; show B1 ≤ hb; omega) (.slice A3 n3 c3))
  have HSZ4 : Hid (hb + 1 ≤ (wa3.setCell ⟨hb, 3, none⟩ (.slice A3 n3 c3)).heap.size) := Lib.hid (by have := HSZa.out; simpa [World.setCell] using this)
  replace HP0 := Lib.hid (HP0.out.keep (w' := wa3.setCell ⟨hb, 3, none⟩ (.slice A3 n3 c3)) (by simp [World.setCell]) (fun a ha _ => Below.heap_setCell _ ⟨hb, 3, none⟩ _ _ (by have := HL0.out.1 a ha; show a.block ≠ hb; omega)))
  replace HP1 := Lib.hid (HP1.out.keep (w' := wa3.setCell ⟨hb, 3, none⟩ (.slice A3 n3 c3)) (by simp [World.setCell]) (fun a ha _ => Below.heap_setCell _ ⟨hb, 3, none⟩ _ _ (by have := HL1.out.1 a ha; show a.block ≠ hb; omega)))
  replace HP2 := Lib.hid (HP2.out.keep (w' := wa3.setCell ⟨hb, 3, none⟩ (.slice A3 n3 c3)) (by simp [World.setCell]) (fun a ha _ => Below.heap_setCell _ ⟨hb, 3, none⟩ _ _ (by have := HL2.out.1 a ha; show a.block ≠ hb; omega)))
  replace HP3 := Lib.hid (HP3.out.keep (w' := wa3.setCell ⟨hb, 3, none⟩ (.slice A3 n3 c3)) (by simp [World.setCell]) (fun a ha _ => Below.heap_setCell _ ⟨hb, 3, none⟩ _ _ (by have := HL3.out.1 a ha; show a.block ≠ hb; omega)))
  obtain ⟨wb3, hwn⟩ : ∃ q, q = wa3.setCell ⟨hb, 3, none⟩ (.slice A3 n3 c3) := ⟨_, rfl⟩
  rw [← hwn] at HH4 HZ4 HE4 HS4 HSZ4 HP0 HP1 HP2 HP3 ⊢
  clear hwn hc hfz HBa HZa HEa HSZa HSa
  rw [rounds_succ]
  go_wp2_with fail
  have HNM := Lib.hid (num_st g m c' A' xs (nx pCm (nx pCm (nx pCm (nx pCm (some xs))))) wb3 HS4.out)
  refine (HNM.out).mono ?_
  rintro e wm ⟨rfl, hz, hS, hG⟩
  have HPE := Lib.hid (pTk_eq xs ds0 ds1 ds2 ds3 HD0.out HD1.out HD2.out HD3.out)
  have HRI := Lib.hid (restM_init (st := nx pCm (nx pCm (nx pCm (nx pCm (some xs))))) HST4.out)
  generalize va pN 0 (nx pCm (nx pCm (nx pCm (nx pCm (some xs))))) = left at *
  generalize hOO : (nx pCm (nx pCm (nx pCm (nx pCm (some xs))))).bind pMk = OO at *
  have HBM : Hid (hb < wm.heap.size) := Lib.hid (by have := HSZ4.out; have := hG.size; omega)
  have HP0m := Lib.hid (HP0.out.grown hG (fun a ha _ => by have := HL0.out.1 a ha; have := HLV.out; intro e; have := Option.some.inj e; omega))
  have HP1m := Lib.hid (HP1.out.grown hG (fun a ha _ => by have := HL1.out.1 a ha; have := HLV.out; intro e; have := Option.some.inj e; omega))
  have HP2m := Lib.hid (HP2.out.grown hG (fun a ha _ => by have := HL2.out.1 a ha; have := HLV.out; intro e; have := Option.some.inj e; omega))
  have HP3m := Lib.hid (HP3.out.grown hG (fun a ha _ => by have := HL3.out.1 a ha; have := HLV.out; intro e; have := Option.some.inj e; omega))
  have HMW : Hid (MW w wm rb hb wm.heap.size g A' m c' xs #[.slice A0 n0 c0, .slice A1 n1 c1, .slice A2 n2 c2, .slice A3 n3 c3, .slice none 0 0] (.slice none 0 0) [] (nx pN (nx pCm (nx pCm (nx pCm (nx pCm (some xs)))))) wm) :=
   Lib.hid ⟨blk_kept HH4.out hG (by have := HLV.out; omega), OwnR.nil _ _ _ _ _, hS, blk_kept HZ4.out hG (by have := HLV.out; omega), fun _ _ _ => rfl, ext_grown HE4.out hG (fun q e => by cases e; have := HLV.out; omega), Nat.le_refl _⟩
  have HREL : Hid (MRel w wm rb hb wm.heap.size g A' m c' xs (.slice A0 n0 c0) (.slice A1 n1 c1) (.slice A2 n2 c2) (.slice A3 n3 c3) OO left (.int .i64 0) (.int .u64 (left : Int)) wm) :=
   Lib.hid ⟨[], 0, _, none, 0, 0, rfl, rfl, hz, HMW.out, HRI.out.1, HRI.out.2, by simp, by simp, (fun q hq => by cases hq)⟩
  clear hS hG hz HNM HRI hOO HP0 HP1 HP2 HP3 HS4 HH4 HZ4 HE4 HSZ4 HST0 HST1 HST2 HST3 HST4 HD0 HD1 HD2 HD3 HMW HSML
  have hgb : w.heap.size ≤ rb ∧ rb < hb ∧ hb < wm.heap.size ∧ RIn hb g A' m := ⟨by have := HLV.out; omega, by have := HLV.out; omega, HBM.out, by have := HR0.out; rw [HLV.out.1] at this; exact this⟩
  have hg1 : w.heap.size ≤ g ∧ rb < g := by have := HLV.out; omega
  have hg2 : g < hb := by have := HLV.out; omega
  have hg3 : hb < wm.heap.size := HBM.out
  obtain ⟨Bm, hBm⟩ : ∃ q, q = wm.heap.size := ⟨_, rfl⟩
  rw [← hBm] at HREL hgb hg3
  replace hBm := Lib.hid hBm
  replace hgb := Lib.hid hgb; replace hg1 := Lib.hid hg1; replace hg2 := Lib.hid hg2; replace hg3 := Lib.hid hg3
  go_wp2_with fail
  go_loopg [9, 10] left (fun gh lv kv wr => MRel w wm rb hb Bm g A' m c' xs (.slice A0 n0 c0) (.slice A1 n1 c1) (.slice A2 n2 c2) (.slice A3 n3 c3) OO gh lv kv wr)
  case atStart => exact HREL.out
  case round =>
   obtain ⟨ms, last, st, Am, nm, cm, rfl, rfl, hgh, hMW, hn0, hs0, hdl, hll, hnm⟩ := hrel
   obtain ⟨wi, rfl⟩ : ∃ wi : World, wi = wr := ⟨_, rfl⟩
   obtain ⟨gh, rfl⟩ : ∃ gh : Nat, gh = gk := ⟨_, rfl⟩
   have HMW := Lib.hid hMW; have HN0 := Lib.hid hn0; have HS0 := Lib.hid hs0; have HLL := Lib.hid hll; have HNM := Lib.hid hnm
   clear hMW hn0 hs0 hll hnm HREL
   -- behind the loop: what End says
   have HEND : Hid (∀ x : Int, (x = 0 ↔ st = some []) → gh = 0 ∨ st = none → (x = 0 → pTk xs = some (⟨ds0, ds1, ds2, ds3, ms⟩, [])) ∧ (x ≠ 0 → takeT n xs = none)) := Lib.hid <| by
    intro x hx hq
    refine ⟨fun h0 => ?_, fun h0 => ?_⟩
    ·have hst := hx.1 h0
     rcases hq with rfl | hq
     ·rw [HPE.out, (HS0.out [] hst).1, restM_zero]; rfl
     ·rw [hq] at hst; cases hst
    ·refine HTQ.out.2 (fun y hy => h0 (hx.2 ?_))
     rw [HPE.out] at hy
     cases hst : st with
     | none => rw [HN0.out hst] at hy; cases hy
     | some L =>
      rcases hq with rfl | hq
      ·rw [(HS0.out L hst).1, restM_zero] at hy
       simp only [Option.bind_some, Option.some.injEq, Prod.mk.injEq] at hy
       rw [hy.2]
      ·rw [hq] at hst; cases hst
   cases gh with
   | zero =>
    have HEN := Lib.hid (end_st g m c' A' xs st wi HMW.out.2.2.1)
    go_wp2_with fail
    refine (HEN.out).mono ?_
    rintro e w5 ⟨x, rfl, hx, hE5⟩
    have HX := Lib.hid (HEND.out x hx (.inl (by first | trivial | rfl)))
    have HM5 := Lib.hid (HMW.out.ext hE5)
    clear hE5 hx HEND HMW
    have h0 := fun i => HM5.out.1.cell i
    have z0 := fun i => HM5.out.2.2.2.1.cell i
    have zf := fun i => HM5.out.2.2.2.1.frozen i
    simp only [zeroT] at z0
    by_cases hx0 : x = 0
    ·subst hx0
     have HPK := Lib.hid (HX.out.1 rfl)
     have hkk : ∀ k, hb + 1 ≤ k → k < Bm → w5.heap[k]? = wm.heap[k]? := HM5.out.2.2.2.2.1
     obtain ⟨Aq, cq, hv, hl1, hl2, hl3, hl4⟩ := HM5.out.2.1.shape
     obtain ⟨e1, e2, e3⟩ := Value.slice.inj hv
     subst e1 e2 e3
     have hKR : ∀ (A : Option Addr) (nn : Nat) (ps : List Pt), RowR wm A nn 3 cP ps → (∀ a, A = some a → hb + 1 ≤ a.block) → RowR w5 A nn 3 cP ps := fun A nn ps h1 h2 =>
      h1.keep (Nat.le_trans (by rw [← hBm.out]; exact Nat.le_refl _) HM5.out.2.2.2.2.2.2) (fun a ha hp => by
       obtain ⟨b, o, e, hbl, _⟩ := h1.2 hp
       obtain rfl := Option.some.inj (ha.symm.trans e)
       exact hkk b (h2 _ ha) (by rw [hBm.out]; exact hbl))
     have HTK : Hid (TkV w5 ⟨⟨A0, n0, c0⟩, ⟨A1, n1, c1⟩, ⟨A2, n2, c2⟩, ⟨A3, n3, c3⟩, ⟨Am, ms.length, cm⟩⟩ ⟨ds0, ds1, ds2, ds3, ms⟩) := Lib.hid <| by
      have r0 := hKR _ _ _ HP0m.out HL0.out.1; have r1 := hKR _ _ _ HP1m.out HL1.out.1; have r2 := hKR _ _ _ HP2m.out HL2.out.1; have r3 := hKR _ _ _ HP3m.out HL3.out.1
      have q0 := HL0.out.2; have q1 := HL1.out.2; have q2 := HL2.out.2; have q3 := HL3.out.2
      exact ⟨⟨r0, q0⟩, ⟨r1, q1⟩, ⟨r2, q2⟩, ⟨r3, q3⟩, OwnR.row cM_len HM5.out.2.1, hl1, hl2, hl3, HNM.out⟩
     have HAM : Hid (∀ a, Am = some a → Bm ≤ a.block) := Lib.hid hl4
     clear hkk hKR hv hl1 hl2 hl3 hl4
     have HMY := Lib.hid (may_st _ _ n w5 HTK.out hN1 hN2)
     obtain ⟨mb, hmb⟩ : ∃ mb, mb = mayT n ⟨ds0, ds1, ds2, ds3, ms⟩ := ⟨_, rfl⟩
     rw [← hmb] at HMY
     replace hmb := Lib.hid hmb
     simp only [Tv.cells] at HMY
     generalize hml : ms.length = nm at *
     replace hml := Lib.hid hml
     go_wp2_with fail
     refine (HMY.out).mono ?_
     rintro e w6 ⟨rfl, hE6⟩
     have HM6 := Lib.hid (HM5.out.ext hE6)
     have HTK6 := Lib.hid (HTK.out.ext hE6)
     clear hE6 h0 z0 zf HM5 HTK HMY
     have h0 := fun i => HM6.out.1.cell i
     have z0 := fun i => HM6.out.2.2.2.1.cell i
     have zf := fun i => HM6.out.2.2.2.1.frozen i
     simp only [zeroT] at z0
     cases mb with
     | true =>
      have HTF : Hid (takeT n xs = some ⟨ds0, ds1, ds2, ds3, ms⟩) := Lib.hid (by rw [HTQ.out.1 _ HPK.out, ← hmb.out]; rfl)
      go_wp2_with fail
      have hb1 := ((((HM6.out.2.2.2.1.set_ 0 (.slice A0 n0 c0)).set_ 1 (.slice A1 n1 c1)).set_ 2 (.slice A2 n2 c2)).set_ 3 (.slice A3 n3 c3)).set_ 4 (.slice Am nm cm)
      refine bodyPost_ret (v := .tuple #[.agg (Tv.cells ⟨⟨A0, n0, c0⟩, ⟨A1, n1, c1⟩, ⟨A2, n2, c2⟩, ⟨A3, n3, c3⟩, ⟨Am, nm, cm⟩⟩), .int .i64 0]) (results_cell2 Tryz.results95 _ _ rb 40 _ (0, 0) _ rfl hb1 _ rfl Tryz.underlying40 rfl (by kernel_rfl)) rfl ?_
      have hrw : w.heap.size ≤ rb := by have := HLV.out; omega
      refine tt_ok (ext_set (ext_set (ext_set (ext_set (ext_set HM6.out.2.2.2.2.2.1 hrw _) hrw _) hrw _) hrw _) hrw _) HTF.out ?_ ⟨fun a ha => by have := HL0.out.1 a ha; have := HLV.out; simp only at *; omega, fun a ha => by have := HL1.out.1 a ha; have := HLV.out; simp only at *; omega, fun a ha => by have := HL2.out.1 a ha; have := HLV.out; simp only at *; omega, fun a ha => by have := HL3.out.1 a ha; have := HLV.out; simp only at *; omega, fun a ha => by have := HAM.out a ha; have := hgb.out; simp only at *; omega⟩
      have z4 : ∀ (i : Nat) (v : Value) (W : World), TkV W ⟨⟨A0, n0, c0⟩, ⟨A1, n1, c1⟩, ⟨A2, n2, c2⟩, ⟨A3, n3, c3⟩, ⟨Am, nm, cm⟩⟩ ⟨ds0, ds1, ds2, ds3, ms⟩ → TkV (W.setCell ⟨rb, i, none⟩ v) ⟨⟨A0, n0, c0⟩, ⟨A1, n1, c1⟩, ⟨A2, n2, c2⟩, ⟨A3, n3, c3⟩, ⟨Am, nm, cm⟩⟩ ⟨ds0, ds1, ds2, ds3, ms⟩ := fun i v W h => h.set (fun a ha => by have := HL0.out.1 a ha; have := HLV.out; omega) (fun a ha => by have := HL1.out.1 a ha; have := HLV.out; omega) (fun a ha => by have := HL2.out.1 a ha; have := HLV.out; omega) (fun a ha => by have := HL3.out.1 a ha; have := HLV.out; omega) (fun a ha => by have := HAM.out a ha; have := hgb.out; omega) i v
      exact z4 _ _ _ (z4 _ _ _ (z4 _ _ _ (z4 _ _ _ (z4 _ _ _ HTK6.out))))
     | false =>
      have HTF : Hid (takeT n xs = none) := Lib.hid (by rw [HTQ.out.1 _ HPK.out, ← hmb.out]; rfl)
      go_wp2_with fail
      have hb1 := ((((HM6.out.2.2.2.1.set_ 0 (.slice none 0 0)).set_ 1 (.slice none 0 0)).set_ 2 (.slice none 0 0)).set_ 3 (.slice none 0 0)).set_ 4 (.slice none 0 0)
      refine bodyPost_ret (v := .tuple #[.agg zeroT, .int .i64 4]) (results_cell2 Tryz.results95 _ _ rb 40 _ (0, 0) _ rfl hb1 _ rfl Tryz.underlying40 rfl (by kernel_rfl)) rfl ?_
      have hrw : w.heap.size ≤ rb := by have := HLV.out; omega
      exact tt_bad (ext_set (ext_set (ext_set (ext_set (ext_set HM6.out.2.2.2.2.2.1 hrw _) hrw _) hrw _) hrw _) hrw _) HTF.out (by decide)
    ·have HTF := Lib.hid (HX.out.2 hx0)
     go_wp2_with fail
     have hb1 := ((((HM5.out.2.2.2.1.set_ 0 (.slice none 0 0)).set_ 1 (.slice none 0 0)).set_ 2 (.slice none 0 0)).set_ 3 (.slice none 0 0)).set_ 4 (.slice none 0 0)
     refine bodyPost_ret (v := .tuple #[.agg zeroT, .int .i64 x]) (results_cell2 Tryz.results95 _ _ rb 40 _ (0, 0) _ rfl hb1 _ rfl Tryz.underlying40 rfl (by kernel_rfl)) rfl ?_
     have hrw : w.heap.size ≤ rb := by have := HLV.out; omega
     exact tt_bad (ext_set (ext_set (ext_set (ext_set (ext_set HM5.out.2.2.2.2.2.1 hrw _) hrw _) hrw _) hrw _) hrw _) HTF.out hx0
   | succ gh =>
    have HER := Lib.hid (err_st g m c' A' xs st wi HMW.out.2.2.1)
    have hghi : (0 : Int) < ((gh + 1 : Nat) : Int) := by omega
    go_wp2_with fail
    refine (HER.out).mono ?_
    rintro e w5 ⟨x, rfl, hx, rfl⟩
    cases hst : st with
    | none =>
     have hx1 : (x == 0) = false := beq_eq_false_iff_ne.2 (hx.2 hst)
     have HEN := Lib.hid (end_st g m c' A' xs st wi HMW.out.2.2.1)
     clear hx
     go_wp2_with fail
     refine (HEN.out).mono ?_
     rintro e w5 ⟨y, rfl, hy, hE5⟩
     have hyn : ¬ y = 0 := fun h => by have := hy.1 h; rw [hst] at this; cases this
     have HTF := Lib.hid ((HEND.out y hy (.inr hst)).2 hyn)
     have HM5 := Lib.hid (HMW.out.ext hE5)
     clear hE5 hy HEND HMW
     have z0 := fun i => HM5.out.2.2.2.1.cell i
     have zf := fun i => HM5.out.2.2.2.1.frozen i
     simp only [zeroT] at z0
     go_wp2_with fail
     have hb1 := ((((HM5.out.2.2.2.1.set_ 0 (.slice none 0 0)).set_ 1 (.slice none 0 0)).set_ 2 (.slice none 0 0)).set_ 3 (.slice none 0 0)).set_ 4 (.slice none 0 0)
     refine bodyPost_ret (v := .tuple #[.agg zeroT, .int .i64 y]) (results_cell2 Tryz.results95 _ _ rb 40 _ (0, 0) _ rfl hb1 _ rfl Tryz.underlying40 rfl (by kernel_rfl)) rfl ?_
     have hrw : w.heap.size ≤ rb := by have := HLV.out; omega
     exact tt_bad (ext_set (ext_set (ext_set (ext_set (ext_set HM5.out.2.2.2.2.2.1 hrw _) hrw _) hrw _) hrw _) hrw _) HTF.out hyn
    | some L =>
     have hx1 : x = 0 := by
      by_cases h0 : x = 0
      ·exact h0
      ·have := hx.1 h0; rw [hst] at this; cases this
     subst hx1
     subst hst
     obtain ⟨hOL, hlm⟩ := HS0.out L rfl
     have HOL := Lib.hid hOL
     have HST := Lib.hid (restM_step ms gh last L)
     have HLN := Lib.hid (fun L3 h => nxM_len (L := L) (L3 := L3) h)
     clear hx hOL HS0 HN0 HER HEND
     have HA1 := Lib.hid (int_st g m c' A' xs (some L) wi HMW.out.2.2.1)
     have hl8 : last ≤ 2147483647000000 := by
      have := HLL.out
      have h2 : ms.length * 2147483647 ≤ 1000001 * 2147483647 := Nat.mul_le_mul_right _ (by omega)
      omega
     go_wp2_with fail
     refine (HA1.out).mono ?_
     rintro e w6 ⟨rfl, hz1, hS1, hG1⟩
     have HM6 := Lib.hid (HMW.out.read hg1.out hg2.out hg3.out hS1 hG1)
     obtain ⟨z1, hv1⟩ : ∃ z, z = va pI 0 (some L) := ⟨_, rfl⟩
     rw [← hv1] at hz1 HST ⊢
     have hzl : (va (pT 40) [] (nx pI (some L))).length ≤ 40 := vaT_len (fun M e c hc => by rw [e] at hS1; exact hS1.small c hc)
     obtain ⟨z, hv2⟩ : ∃ z, z = va (pT 40) [] (nx pI (some L)) := ⟨_, rfl⟩
     have HTX := Lib.hid (fun (W : World) (h : RSt W g A' m c' xs (nx pI (some L))) => (show Calls Tryz.prog 118 #[.pointer (some ⟨g, 0, none⟩), .int .i64 40] W (fun e w' => e = .returned (.string (strOf z)) ∧ RSt w' g A' m c' xs (nx (pT 40) (nx pI (some L))) ∧ W.grownBy w' (some g)) from hv2 ▸ text_st g m c' 40 (by omega) A' xs (nx pI (some L)) W h))
     rw [← hv2] at HST hzl
     replace hv1 := Lib.hid hv1; replace hv2 := Lib.hid hv2
     clear hS1 hG1 HA1 HMW
     have hcast : (last : Int) + (z1 : Int) = ((last + z1 : Nat) : Int) := by omega
     replace hcast := Lib.hid hcast
     have HDL : Hid (ms.length ≤ 100000000) := Lib.hid (by omega)
     have HM7 := Lib.hid (HM6.out.ext (ext_drew (Ext.rfl' w6)))
     go_upto_region 15 with fail
     rw [hcast.out]
     obtain ⟨tk, htk⟩ : ∃ q, q = last + z1 := ⟨_, rfl⟩
     rw [← htk] at HST ⊢
     replace htk := Lib.hid htk
     have HX := HM7
     refine wp_region_held_drew (S := fun _ => True) hmxL trivial (fun _ => ?_)
     generalize w6.drew = WA at *
     clear HM6 HM7
     (refine wpAnyH_take (i := 0) (v := ?_) rfl (by kernel_rfl) (by kernel_rfl) (by kernel_rfl) (fun _ _ _ h => h) (Or.inl ⟨by rfl, ?_⟩) trivial ?_); rotate_left
     ·(intro w' hSw; go_simp; try with_reducible rfl)
     (try simp only [Act.put, zzA, zzB, zzC])
     (refine wpAnyH_take (i := 2) (v := ?_) rfl (by kernel_rfl) (by kernel_rfl) (by kernel_rfl) (fun _ _ _ h => h) (Or.inl ⟨by rfl, ?_⟩) trivial ?_); rotate_left
     ·(intro w' hSw; go_simp; try with_reducible rfl)
     (try simp only [Act.put, zzA, zzB, zzC])
     (refine wpAnyH_take (i := 3) (v := ?_) rfl (by kernel_rfl) (by kernel_rfl) (by kernel_rfl) (fun _ _ _ h => h) (Or.inl ⟨by rfl, ?_⟩) trivial ?_); rotate_left
     ·(intro w' hSw; go_simp; try with_reducible rfl)
     (try simp only [Act.put, zzA, zzB, zzC])
     refine wpAnyH_ready (rs := [1, 4]) (by kernel_rfl) (by simp) ?_
     refine AllReadyH.cons (o := ⟨some 43, .load 38 (.tmp 42), 38, "bytes.go:54", #[⟨0, .data⟩], none⟩) (by kernel_rfl) (fun K hK => ?_) (AllReadyH.cons (o := ⟨some 46, .call { callee := .value (.func 118), args := #[.tmp 45, .const (.int .i64 40)], argTypes := #[145, 3] }, 9, "bytes.go:54", #[⟨3, .data⟩], none⟩) (by kernel_rfl) (fun K hK => ?_) AllReadyH.nil)
     ·have b0 := HX.out.1.cell
      go_simp
      refine hK.out _ _ trivial (fun _ => ?_)
      clear hK K
      (try simp only [Act.put, zzA, zzB, zzC])
      refine wpAnyH_ready (rs := [4]) (by kernel_rfl) (by simp) ?_
      refine AllReadyH.cons (o := ⟨some 46, .call { callee := .value (.func 118), args := #[.tmp 45, .const (.int .i64 40)], argTypes := #[145, 3] }, 9, "bytes.go:54", #[⟨3, .data⟩], none⟩) (by kernel_rfl) (fun K hK => ?_) AllReadyH.nil
      go_simp
      refine (HTX.out _ HX.out.2.2.1).mono ?_
      rintro e WB ⟨rfl, hS, hG⟩
      have HX := Lib.hid (HX.out.read hg1.out hg2.out hg3.out hS hG)
      clear hS hG
      (try go_wp2_with fail)
      refine hK.out _ _ trivial (fun _ => ?_)
      clear hK K
      (try simp only [Act.put, zzA, zzB, zzC])
      (refine wpAnyH_take (i := 5) (v := ?_) rfl (by kernel_rfl) (by kernel_rfl) (by kernel_rfl) (fun _ _ _ h => h) (Or.inl ⟨by rfl, ?_⟩) trivial ?_); rotate_left
      ·(intro w' hSw; go_simp; try with_reducible rfl)
      (try simp only [Act.put, zzA, zzB, zzC])
      refine wpAnyH_ready (rs := [6]) (by kernel_rfl) (by simp) ?_
      refine AllReadyH.cons (o := ⟨some 48, .buildSlice 38 1 #[(0, .tmp 47)], 38, "bytes.go:54", #[⟨5, .data⟩], none⟩) (by kernel_rfl) (fun K hK => ?_) AllReadyH.nil
      go_simp
      have HSRC := Lib.hid (src_rec (P := Tryz.prog) (e' := 113) Tryz.underlying38 WB (cM ⟨(tk : Int), strOf z⟩) rfl (by intro u hu; simp [cM] at hu; rcases hu with rfl | rfl <;> rfl) 1)
      have HX := Lib.hid (HX.out.ext (ext_alloc (Ext.rfl' WB) (.cells (cM ⟨(tk : Int), strOf z⟩).toArray 113)))
      obtain ⟨WC, hWC⟩ : ∃ q, q = WB.alloc (.cells (cM ⟨(tk : Int), strOf z⟩).toArray 113) := ⟨_, rfl⟩
      have hWD : WB.alloc (.cells #[.int .i64 (tk : Int), .string (strOf z)] 113) = WC := hWC.symm
      rw [← hWC] at HSRC HX
      rw [hWD]
      clear hWC hWD
      refine hK.out _ _ trivial (fun _ => ?_)
      clear hK K
      (try simp only [Act.put, zzA, zzB, zzC])
      refine wpAnyH_ready (rs := [7]) (by kernel_rfl) (by simp) ?_
      refine AllReadyH.cons (o := ⟨some 49, .call { callee := .builtin .append, args := #[.tmp 43, .tmp 48], argTypes := #[38, 38] }, 38, "bytes.go:54", #[⟨1, .data⟩, ⟨6, .data⟩, ⟨4, .chain⟩], none⟩) (by kernel_rfl) (fun K hK => ?_) AllReadyH.nil
      obtain ⟨v3, w3, hrun, hO3, hG3⟩ := run_rec (P := Tryz.prog) (base := Bm) 38 113 38 2 24 _ cM Tryz.underlying38 infoM rfl (by decide) (.slice Am nm cm) _ ms ⟨(tk : Int), strOf z⟩ HX.out.2.1 HX.out.2.2.2.2.2.2 HSRC.out HDL.out
      obtain ⟨Ay, cy, hv3, _, _, _, _⟩ := hO3.shape
      generalize (ms ++ [(⟨(tk : Int), strOf z⟩ : Mk)]).length = ny at hv3
      subst hv3
      have HX := Lib.hid (HX.out.app hgb.out hO3 hG3)
      have HRUN := Lib.hid hrun
      clear hrun hO3 hG3
      refine wanted_append rfl (.tmp 43) (.tmp 48) 38 38 rfl (.slice Am nm cm) _ rfl rfl HRUN.out ?_
      refine hK.out _ _ trivial (fun _ => ?_)
      clear hK K
      (try simp only [Act.put, zzA, zzB, zzC])
      (refine wpAnyH_take (i := 8) (v := ?_) rfl (by kernel_rfl) (by kernel_rfl) (by kernel_rfl) (fun _ _ _ h => h) (Or.inl ⟨by rfl, ?_⟩) trivial ?_); rotate_left
      ·(intro w' hSw; go_simp; try with_reducible rfl)
      (try simp only [Act.put, zzA, zzB, zzC])
      refine wpAnyH_ready (rs := [9]) (by kernel_rfl) (by simp) ?_
      refine AllReadyH.cons (o := ⟨none, .store 38 (.tmp 50) (.tmp 49), 0, "bytes.go:54", #[⟨8, .data⟩, ⟨7, .data⟩, ⟨7, .chain⟩, ⟨0, .phase⟩, ⟨1, .phase⟩, ⟨2, .phase⟩, ⟨3, .phase⟩, ⟨4, .phase⟩, ⟨5, .phase⟩, ⟨6, .phase⟩, ⟨7, .phase⟩], none⟩) (by kernel_rfl) (fun K hK => ?_) AllReadyH.nil
      have b0 := HX.out.1.cell
      have b1 := HX.out.1.frozen
      go_simp
      refine hK.out _ _ trivial (fun _ => ?_)
      clear hK K
      (try simp only [Act.put, zzA, zzB, zzC])
      refine wpAnyH_done (by kernel_rfl) ?_ _
      go_wp2_with fail
      go_roundg gh
      case measure => omega
      case rel =>
       refine ⟨ms ++ [⟨(tk : Int), strOf z⟩], tk, nx (pT 40) (nx pI (some L)), Ay, ny, cy, rfl, rfl, by omega, MW.store (cs' := #[.slice A0 n0 c0, .slice A1 n1 c1, .slice A2 n2 c2, .slice A3 n3 c3, .slice Ay ny cy]) HX.out hgb.out 4 (.slice Ay ny cy) rfl, ?_, ?_, ?_, ?_, ?_⟩
       ·intro hn; rw [HOL.out, HST.out.1 hn]
       ·intro L3 hL3
        refine ⟨by rw [HOL.out, HST.out.2 L3 hL3], ?_⟩
        have := HLN.out L3 hL3
        rw [List.length_append, List.length_singleton]; omega
       ·rw [List.length_append, List.length_singleton]; omega
       ·have := htk.out; have := HLL.out; rw [List.length_append, List.length_singleton, Nat.add_mul]; omega
       ·intro mm hmm
        rcases List.mem_append.1 hmm with hmm | hmm
        ·exact HNM.out mm hmm
        ·rw [List.mem_singleton] at hmm; subst hmm; show (strOf z).size ≤ _; rw [strOf_size]; omega
     ·go_simp
      refine (HTX.out _ HX.out.2.2.1).mono ?_
      rintro e WB ⟨rfl, hS, hG⟩
      have HX := Lib.hid (HX.out.read hg1.out hg2.out hg3.out hS hG)
      clear hS hG
      (try go_wp2_with fail)
      refine hK.out _ _ trivial (fun _ => ?_)
      clear hK K
      (try simp only [Act.put, zzA, zzB, zzC])
      (refine wpAnyH_take (i := 5) (v := ?_) rfl (by kernel_rfl) (by kernel_rfl) (by kernel_rfl) (fun _ _ _ h => h) (Or.inl ⟨by rfl, ?_⟩) trivial ?_); rotate_left
      ·(intro w' hSw; go_simp; try with_reducible rfl)
      (try simp only [Act.put, zzA, zzB, zzC])
      refine wpAnyH_ready (rs := [1, 6]) (by kernel_rfl) (by simp) ?_
      refine AllReadyH.cons (o := ⟨some 43, .load 38 (.tmp 42), 38, "bytes.go:54", #[⟨0, .data⟩], none⟩) (by kernel_rfl) (fun K hK => ?_) (AllReadyH.cons (o := ⟨some 48, .buildSlice 38 1 #[(0, .tmp 47)], 38, "bytes.go:54", #[⟨5, .data⟩], none⟩) (by kernel_rfl) (fun K hK => ?_) AllReadyH.nil)
      ·have b0 := HX.out.1.cell
       go_simp
       refine hK.out _ _ trivial (fun _ => ?_)
       clear hK K
       (try simp only [Act.put, zzA, zzB, zzC])
       refine wpAnyH_ready (rs := [6]) (by kernel_rfl) (by simp) ?_
       refine AllReadyH.cons (o := ⟨some 48, .buildSlice 38 1 #[(0, .tmp 47)], 38, "bytes.go:54", #[⟨5, .data⟩], none⟩) (by kernel_rfl) (fun K hK => ?_) AllReadyH.nil
       go_simp
       have HSRC := Lib.hid (src_rec (P := Tryz.prog) (e' := 113) Tryz.underlying38 WB (cM ⟨(tk : Int), strOf z⟩) rfl (by intro u hu; simp [cM] at hu; rcases hu with rfl | rfl <;> rfl) 1)
       have HX := Lib.hid (HX.out.ext (ext_alloc (Ext.rfl' WB) (.cells (cM ⟨(tk : Int), strOf z⟩).toArray 113)))
       obtain ⟨WC, hWC⟩ : ∃ q, q = WB.alloc (.cells (cM ⟨(tk : Int), strOf z⟩).toArray 113) := ⟨_, rfl⟩
       have hWD : WB.alloc (.cells #[.int .i64 (tk : Int), .string (strOf z)] 113) = WC := hWC.symm
       rw [← hWC] at HSRC HX
       rw [hWD]
       clear hWC hWD
       refine hK.out _ _ trivial (fun _ => ?_)
       clear hK K
       (try simp only [Act.put, zzA, zzB, zzC])
       refine wpAnyH_ready (rs := [7]) (by kernel_rfl) (by simp) ?_
       refine AllReadyH.cons (o := ⟨some 49, .call { callee := .builtin .append, args := #[.tmp 43, .tmp 48], argTypes := #[38, 38] }, 38, "bytes.go:54", #[⟨1, .data⟩, ⟨6, .data⟩, ⟨4, .chain⟩], none⟩) (by kernel_rfl) (fun K hK => ?_) AllReadyH.nil
       obtain ⟨v3, w3, hrun, hO3, hG3⟩ := run_rec (P := Tryz.prog) (base := Bm) 38 113 38 2 24 _ cM Tryz.underlying38 infoM rfl (by decide) (.slice Am nm cm) _ ms ⟨(tk : Int), strOf z⟩ HX.out.2.1 HX.out.2.2.2.2.2.2 HSRC.out HDL.out
       obtain ⟨Ay, cy, hv3, _, _, _, _⟩ := hO3.shape
       generalize (ms ++ [(⟨(tk : Int), strOf z⟩ : Mk)]).length = ny at hv3
       subst hv3
       have HX := Lib.hid (HX.out.app hgb.out hO3 hG3)
       have HRUN := Lib.hid hrun
       clear hrun hO3 hG3
       refine wanted_append rfl (.tmp 43) (.tmp 48) 38 38 rfl (.slice Am nm cm) _ rfl rfl HRUN.out ?_
       refine hK.out _ _ trivial (fun _ => ?_)
       clear hK K
       (try simp only [Act.put, zzA, zzB, zzC])
       (refine wpAnyH_take (i := 8) (v := ?_) rfl (by kernel_rfl) (by kernel_rfl) (by kernel_rfl) (fun _ _ _ h => h) (Or.inl ⟨by rfl, ?_⟩) trivial ?_); rotate_left
       ·(intro w' hSw; go_simp; try with_reducible rfl)
       (try simp only [Act.put, zzA, zzB, zzC])
       refine wpAnyH_ready (rs := [9]) (by kernel_rfl) (by simp) ?_
       refine AllReadyH.cons (o := ⟨none, .store 38 (.tmp 50) (.tmp 49), 0, "bytes.go:54", #[⟨8, .data⟩, ⟨7, .data⟩, ⟨7, .chain⟩, ⟨0, .phase⟩, ⟨1, .phase⟩, ⟨2, .phase⟩, ⟨3, .phase⟩, ⟨4, .phase⟩, ⟨5, .phase⟩, ⟨6, .phase⟩, ⟨7, .phase⟩], none⟩) (by kernel_rfl) (fun K hK => ?_) AllReadyH.nil
       have b0 := HX.out.1.cell
       have b1 := HX.out.1.frozen
       go_simp
       refine hK.out _ _ trivial (fun _ => ?_)
       clear hK K
       (try simp only [Act.put, zzA, zzB, zzC])
       refine wpAnyH_done (by kernel_rfl) ?_ _
       go_wp2_with fail
       go_roundg gh
       case measure => omega
       case rel =>
        refine ⟨ms ++ [⟨(tk : Int), strOf z⟩], tk, nx (pT 40) (nx pI (some L)), Ay, ny, cy, rfl, rfl, by omega, MW.store (cs' := #[.slice A0 n0 c0, .slice A1 n1 c1, .slice A2 n2 c2, .slice A3 n3 c3, .slice Ay ny cy]) HX.out hgb.out 4 (.slice Ay ny cy) rfl, ?_, ?_, ?_, ?_, ?_⟩
        ·intro hn; rw [HOL.out, HST.out.1 hn]
        ·intro L3 hL3
         refine ⟨by rw [HOL.out, HST.out.2 L3 hL3], ?_⟩
         have := HLN.out L3 hL3
         rw [List.length_append, List.length_singleton]; omega
        ·rw [List.length_append, List.length_singleton]; omega
        ·have := htk.out; have := HLL.out; rw [List.length_append, List.length_singleton, Nat.add_mul]; omega
        ·intro mm hmm
         rcases List.mem_append.1 hmm with hmm | hmm
         ·exact HNM.out mm hmm
         ·rw [List.mem_singleton] at hmm; subst hmm; show (strOf z).size ≤ _; rw [strOf_size]; omega
      ·go_simp
       have HSRC := Lib.hid (src_rec (P := Tryz.prog) (e' := 113) Tryz.underlying38 WB (cM ⟨(tk : Int), strOf z⟩) rfl (by intro u hu; simp [cM] at hu; rcases hu with rfl | rfl <;> rfl) 1)
       have HX := Lib.hid (HX.out.ext (ext_alloc (Ext.rfl' WB) (.cells (cM ⟨(tk : Int), strOf z⟩).toArray 113)))
       obtain ⟨WC, hWC⟩ : ∃ q, q = WB.alloc (.cells (cM ⟨(tk : Int), strOf z⟩).toArray 113) := ⟨_, rfl⟩
       have hWD : WB.alloc (.cells #[.int .i64 (tk : Int), .string (strOf z)] 113) = WC := hWC.symm
       rw [← hWC] at HSRC HX
       rw [hWD]
       clear hWC hWD
       refine hK.out _ _ trivial (fun _ => ?_)
       clear hK K
       (try simp only [Act.put, zzA, zzB, zzC])
       refine wpAnyH_ready (rs := [1]) (by kernel_rfl) (by simp) ?_
       refine AllReadyH.cons (o := ⟨some 43, .load 38 (.tmp 42), 38, "bytes.go:54", #[⟨0, .data⟩], none⟩) (by kernel_rfl) (fun K hK => ?_) AllReadyH.nil
       have b0 := HX.out.1.cell
       go_simp
       refine hK.out _ _ trivial (fun _ => ?_)
       clear hK K
       (try simp only [Act.put, zzA, zzB, zzC])
       refine wpAnyH_ready (rs := [7]) (by kernel_rfl) (by simp) ?_
       refine AllReadyH.cons (o := ⟨some 49, .call { callee := .builtin .append, args := #[.tmp 43, .tmp 48], argTypes := #[38, 38] }, 38, "bytes.go:54", #[⟨1, .data⟩, ⟨6, .data⟩, ⟨4, .chain⟩], none⟩) (by kernel_rfl) (fun K hK => ?_) AllReadyH.nil
       obtain ⟨v3, w3, hrun, hO3, hG3⟩ := run_rec (P := Tryz.prog) (base := Bm) 38 113 38 2 24 _ cM Tryz.underlying38 infoM rfl (by decide) (.slice Am nm cm) _ ms ⟨(tk : Int), strOf z⟩ HX.out.2.1 HX.out.2.2.2.2.2.2 HSRC.out HDL.out
       obtain ⟨Ay, cy, hv3, _, _, _, _⟩ := hO3.shape
       generalize (ms ++ [(⟨(tk : Int), strOf z⟩ : Mk)]).length = ny at hv3
       subst hv3
       have HX := Lib.hid (HX.out.app hgb.out hO3 hG3)
       have HRUN := Lib.hid hrun
       clear hrun hO3 hG3
       refine wanted_append rfl (.tmp 43) (.tmp 48) 38 38 rfl (.slice Am nm cm) _ rfl rfl HRUN.out ?_
       refine hK.out _ _ trivial (fun _ => ?_)
       clear hK K
       (try simp only [Act.put, zzA, zzB, zzC])
       (refine wpAnyH_take (i := 8) (v := ?_) rfl (by kernel_rfl) (by kernel_rfl) (by kernel_rfl) (fun _ _ _ h => h) (Or.inl ⟨by rfl, ?_⟩) trivial ?_); rotate_left
       ·(intro w' hSw; go_simp; try with_reducible rfl)
       (try simp only [Act.put, zzA, zzB, zzC])
       refine wpAnyH_ready (rs := [9]) (by kernel_rfl) (by simp) ?_
       refine AllReadyH.cons (o := ⟨none, .store 38 (.tmp 50) (.tmp 49), 0, "bytes.go:54", #[⟨8, .data⟩, ⟨7, .data⟩, ⟨7, .chain⟩, ⟨0, .phase⟩, ⟨1, .phase⟩, ⟨2, .phase⟩, ⟨3, .phase⟩, ⟨4, .phase⟩, ⟨5, .phase⟩, ⟨6, .phase⟩, ⟨7, .phase⟩], none⟩) (by kernel_rfl) (fun K hK => ?_) AllReadyH.nil
       have b0 := HX.out.1.cell
       have b1 := HX.out.1.frozen
       go_simp
       refine hK.out _ _ trivial (fun _ => ?_)
       clear hK K
       (try simp only [Act.put, zzA, zzB, zzC])
       refine wpAnyH_done (by kernel_rfl) ?_ _
       go_wp2_with fail
       go_roundg gh
       case measure => omega
       case rel =>
        refine ⟨ms ++ [⟨(tk : Int), strOf z⟩], tk, nx (pT 40) (nx pI (some L)), Ay, ny, cy, rfl, rfl, by omega, MW.store (cs' := #[.slice A0 n0 c0, .slice A1 n1 c1, .slice A2 n2 c2, .slice A3 n3 c3, .slice Ay ny cy]) HX.out hgb.out 4 (.slice Ay ny cy) rfl, ?_, ?_, ?_, ?_, ?_⟩
        ·intro hn; rw [HOL.out, HST.out.1 hn]
        ·intro L3 hL3
         refine ⟨by rw [HOL.out, HST.out.2 L3 hL3], ?_⟩
         have := HLN.out L3 hL3
         rw [List.length_append, List.length_singleton]; omega
        ·rw [List.length_append, List.length_singleton]; omega
        ·have := htk.out; have := HLL.out; rw [List.length_append, List.length_singleton, Nat.add_mul]; omega
        ·intro mm hmm
         rcases List.mem_append.1 hmm with hmm | hmm
         ·exact HNM.out mm hmm
         ·rw [List.mem_singleton] at hmm; subst hmm; show (strOf z).size ≤ _; rw [strOf_size]; omega
 ·rw [decide_eq_false hn] at HT
  have HTF : Hid (takeT n xs = none) := Lib.hid (by unfold takeT; rw [if_neg hn])
  clear hn
  go_enter Tryz.func95, Tryz.ntmps95
  go_wp2_with fail
  refine (HT.out).mono ?_
  rintro e w1 ⟨rfl, hE1⟩
  have HE1 := Lib.hid (ext_trans HE00.out hE1)
  have HZ1 := Lib.hid (HZB.out.ext hE1)
  clear hE1 HE00 HZB HT
  have z0 := fun i => HZ1.out.cell i
  have zf := fun i => HZ1.out.frozen i
  go_wp2_with fail
  have hb1 := ((((HZ1.out.set_ 0 (.slice none 0 0)).set_ 1 (.slice none 0 0)).set_ 2 (.slice none 0 0)).set_ 3 (.slice none 0 0)).set_ 4 (.slice none 0 0)
  refine bodyPost_ret (v := .tuple #[.agg zeroT, .int .i64 2]) (results_cell2 Tryz.results95 _ _ w.heap.size 40 _ (0, 0) _ rfl hb1 _ rfl Tryz.underlying40 rfl (by kernel_rfl)) rfl ?_
  exact tt_bad (ext_set (ext_set (ext_set (ext_set (ext_set HE1.out (Nat.le_refl _) _) (Nat.le_refl _) _) (Nat.le_refl _) _) (Nat.le_refl _) _) (Nat.le_refl _) _) HTF.out (by decide)
end Go.Proofs.YtidnboeihkeljaaGreatDoor.Trk
