/- A header taken: what it comes to (plain). -/
import Derived.Test.YtlldmpcamdginaaG6
import Derived.Test.YtlldmpcamdginaaG7
import Derived.Test.YtlldmpcamdginaaG2
import Derived.StillTailTactics
import Derived.BigQuiet
import Derived.Test.YtlldmpcamdginaaG5
import Derived.OrdersHeld
import Derived.Deep.RegionHeld
namespace Go.Proofs.Ytlldmpcamdginaa.Log
open Go.ChangeShapes Go.WideShapes Go.ChangeAt Go.RowKit
open Go.Proofs.Ytlldmpcamdginaa.Wire
open Go.Proofs.Ytlldmpcamdginaa.Rec
set_option linter.unusedVariables false

def St.sv (u : St) : Sv := ⟨u.owner, u.kind, u.tile⟩
def Hd.hv (x : Hd) : Hv := ⟨x.w, x.h, x.players, x.seed, strOf x.tiles, x.starts.map St.sv⟩
def goodS (us : List St) : Prop := (∀ u ∈ us, u.owner ≤ 255 ∧ u.kind ≤ 255) ∧ us.length ≤ 128
instance (us : List St) : Decidable (goodS us) := by unfold goodS; infer_instance
theorem goodS_left {us vs : List St} (h : goodS (us ++ vs)) : goodS us :=
  ⟨fun u hu => h.1 u (List.mem_append_left _ hu), by have := h.2; rw [List.length_append] at this; omega⟩
theorem goodS_snoc {us : List St} {u : St} : goodS (us ++ [u]) ↔ goodS us ∧ u.owner ≤ 255 ∧ u.kind ≤ 255 ∧ us.length < 128 := by
  constructor
  · intro h
    have := h.2
    rw [List.length_append, List.length_singleton] at this
    have h2 := h.1 u (by simp)
    exact ⟨goodS_left h, h2.1, h2.2, by omega⟩
  · rintro ⟨h1, h2, h3, h4⟩
    refine ⟨fun v hv => ?_, by rw [List.length_append, List.length_singleton]; omega⟩
    rcases List.mem_append.1 hv with hv | hv
    · exact h1.1 v hv
    · rw [List.mem_singleton] at hv; subst hv; exact ⟨h2, h3⟩
def thO (x : Hd) : Option Hv := if goodS x.starts ∧ mayH x.hv then some x.hv else none
/-- The header of bytes. -/
def thL (L : List Nat) : Option Hv :=
  match pH L with
  | some (x, []) => thO x
  | _ => none
/-- What the units' rest comes to, behind these. -/
def restS (done : List St) (gh : Nat) (L : List Nat) : Option (List St) :=
  match pS gh L with
  | some (us, []) => some (done ++ us)
  | _ => none
theorem restS_zero (done : List St) (L : List Nat) : restS done 0 L = if L = [] then some done else none := by
  unfold restS pS
  cases L with
  | nil => simp
  | cons a b => simp
/-- The reads of a unit, one after the other. -/
theorem chain3 {L : List Nat} (done : List St) (gh : Nat) : (nx pI (nx pN (nx pN (some L))) = none ∧ restS done (gh + 1) L = none) ∨
    ∃ o L1 k L2 t L3, nx pN (some L) = some L1 ∧ nx pN (some L1) = some L2 ∧ nx pI (some L2) = some L3 ∧ va pN 0 (some L) = o ∧ va pN 0 (some L1) = k ∧ va pI 0 (some L2) = t ∧ restS done (gh + 1) L = restS (done ++ [⟨o, k, t⟩]) gh L3 := by
  cases h1 : pN L with
  | none => left; simp [nx, h1, restS, pS]
  | some p1 =>
    obtain ⟨o, L1⟩ := p1
    cases h2 : pN L1 with
    | none => left; simp [nx, h1, h2, restS, pS]
    | some p2 =>
      obtain ⟨k, L2⟩ := p2
      cases h3 : pI L2 with
      | none => left; simp [nx, h1, h2, h3, restS, pS]
      | some p3 =>
        obtain ⟨t, L3⟩ := p3
        right
        refine ⟨o, L1, k, L2, t, L3, by simp [nx, h1], by simp [nx, h2], by simp [nx, h3], by simp [va, h1], by simp [va, h2], by simp [va, h3], ?_⟩
        unfold restS
        rw [pS, h1]
        simp only [h2, h3]
        cases pS gh L3 with
        | none => rfl
        | some q =>
          obtain ⟨us, R⟩ := q
          cases R with
          | nil => simp
          | cons a b => rfl
def s1 (xs : List Nat) := nx pI (some xs)
def s2 (xs : List Nat) := nx pI (s1 xs)
def s3 (xs : List Nat) := nx pI (s2 xs)
def s4 (xs : List Nat) := nx pF (s3 xs)
def s5 (xs : List Nat) := nx (pT 4096) (s4 xs)
def s6 (xs : List Nat) := nx pN (s5 xs)
/-- The header in terms of the reads. -/
theorem thL_eq (xs : List Nat) : thL xs = ((s6 xs).bind (restS [] (va pN 0 (s5 xs)))).bind (fun us => thO ⟨va pI 0 (some xs), va pI 0 (s1 xs), va pI 0 (s2 xs), va pF 0 (s3 xs), va (pT 4096) [] (s4 xs), us⟩) := by
  unfold thL pH s6 s5 s4 s3 s2 s1
  cases h1 : pI xs with
  | none => simp [nx, h1]
  | some q1 =>
    obtain ⟨w, L1⟩ := q1
    cases h2 : pI L1 with
    | none => simp [nx, h1, h2]
    | some q2 =>
      obtain ⟨h, L2⟩ := q2
      cases h3 : pI L2 with
      | none => simp [nx, h1, h2, h3]
      | some q3 =>
        obtain ⟨p, L3⟩ := q3
        cases h4 : pF L3 with
        | none => simp [nx, h1, h2, h3, h4]
        | some q4 =>
          obtain ⟨sd, L4⟩ := q4
          cases h5 : pT 4096 L4 with
          | none => simp [nx, h1, h2, h3, h4, h5]
          | some q5 =>
            obtain ⟨ti, L5⟩ := q5
            cases h6 : pN L5 with
            | none => simp [nx, h1, h2, h3, h4, h5, h6]
            | some q6 =>
              obtain ⟨left, L6⟩ := q6
              simp only [nx, va, Option.bind_some, h1, h2, h3, h4, h5, h6, Option.map_some, Option.getD_some, restS]
              cases pS left L6 with
              | none => rfl
              | some q7 =>
                obtain ⟨us, R⟩ := q7
                cases R with
                | nil => simp
                | cons a b => rfl
theorem s6_none (xs : List Nat) (h : s6 xs = none) : va pN 0 (s5 xs) = 0 := by
  unfold s6 nx at h
  unfold va
  cases hq : (s5 xs).bind pN with
  | none => rfl
  | some q => rw [hq] at h; cases h
theorem tiles_len (xs : List Nat) (hx : ∀ st L, st = some L → st = s4 xs → ∀ c ∈ L, c < 256) : (va (pT 4096) [] (s4 xs)).length ≤ 4096 := by
  unfold va
  cases h : (s4 xs) with
  | none => simp
  | some L =>
    cases hq : pT 4096 L with
    | none => simp [hq]
    | some q =>
      obtain ⟨ys, R⟩ := q
      have := (pT_ok (hx _ L rfl h.symm) hq).2
      simpa [hq] using this
theorem nx_small {α : Type} {f : List Nat → Option (α × List Nat)} (hf : ∀ L x R, (∀ c ∈ L, c < 256) → f L = some (x, R) → ∀ c ∈ R, c < 256) {st : Option (List Nat)} (h : ∀ L, st = some L → ∀ c ∈ L, c < 256) : ∀ L, nx f st = some L → ∀ c ∈ L, c < 256 := by
  intro L hL
  cases st with
  | none => simp [nx] at hL
  | some M =>
    cases hq : f M with
    | none => simp [nx, hq] at hL
    | some q =>
      obtain ⟨x, R⟩ := q
      simp [nx, hq] at hL
      subst hL
      exact hf M x R (h M rfl) hq
theorem s4_small (xs : List Nat) (h : ∀ c ∈ xs, c < 256) : ∀ L, s4 xs = some L → ∀ c ∈ L, c < 256 := by
  have hI : ∀ L x R, (∀ c ∈ L, c < 256) → pI L = some (x, R) → ∀ c ∈ R, c < 256 := fun L x R hL e c hc => hL c (by rw [(pI_ok hL e).1]; exact List.mem_append_right _ hc)
  have hF : ∀ L x R, (∀ c ∈ L, c < 256) → pF L = some (x, R) → ∀ c ∈ R, c < 256 := fun L x R hL e c hc => hL c (by rw [(pF_ok hL e).1]; exact List.mem_append_right _ hc)
  exact nx_small hF (nx_small hI (nx_small hI (nx_small hI (fun L e => by cases e; exact h))))
def zeroH : Array Value := #[.int .i64 0, .int .i64 0, .int .i64 0, .int .u32 0, .string ⟨#[]⟩, .slice none 0 0]
def ThPost (w : World) (L : List Nat) (e : Ending) (w' : World) : Prop :=
  Ext w w' ∧ match thL L with
  | none => ∃ x : Int, x ≠ 0 ∧ e = .returned (.tuple #[.agg zeroH, .int .i64 x])
  | some hv => ∃ v, e = .returned (.tuple #[.agg (cH hv v), .int .i64 0]) ∧ OwnR w.heap.size w' 80 3 cS v hv.starts
theorem OwnR_mono' {α : Type} {b b' : Nat} {w : World} {e : TypeId} {k : Nat} {f : α → List Value} {v : Value} {xs : List α} (h : OwnR b w e k f v xs) (hb : b' ≤ b) : OwnR b' w e k f v xs := by
  rcases h with ⟨h1, h2 | ⟨g, cap, cur, r1, r2, r3⟩⟩
  · exact ⟨h1, .inl h2⟩
  · exact ⟨h1, .inr ⟨g, cap, cur, r1, Nat.le_trans hb r2, r3⟩⟩
theorem OwnR_keep {α : Type} {b : Nat} {w w' : World} {e : TypeId} {k : Nat} {f : α → List Value} {v : Value} {xs : List α} (h : OwnR b w e k f v xs) (hk : ∀ g, b ≤ g → g < w.heap.size → w'.heap[g]? = w.heap[g]?) : OwnR b w' e k f v xs := by
  rcases h with ⟨h1, h2 | ⟨g, cap, cur, r1, r2, r3, r4⟩⟩
  · exact ⟨h1, .inl h2⟩
  · exact ⟨h1, .inr ⟨g, cap, cur, r1, r2, (hk g r2 (Array.getElem?_eq_some_iff.1 r3).1).trans r3, r4⟩⟩
theorem th_ok {w w' : World} {L : List Nat} {hv : Hv} {v : Value} {b : Nat} (hE : Ext w w') (h : thL L = some hv) (hO : OwnR b w' 80 3 cS v hv.starts) (hb : w.heap.size ≤ b) : ThPost w L (.returned (.tuple #[.agg (cH hv v), .int .i64 0])) w' := by
  refine ⟨hE, ?_⟩; rw [h]; exact ⟨v, rfl, OwnR_mono' hO hb⟩
theorem th_bad {w w' : World} {L : List Nat} {x : Int} (hE : Ext w w') (h : thL L = none) (hx : x ≠ 0) : ThPost w L (.returned (.tuple #[.agg zeroH, .int .i64 x])) w' := by
  refine ⟨hE, ?_⟩; rw [h]; exact ⟨x, hx, rfl⟩
/-- Where the loop of TakeHeader stands. -/
def HRel (w : World) (g : Nat) (A : Option Addr) (m c : Nat) (xs : List Nat) (rb hb B2 : Nat) (W H P S : Int) (T : ByteArray) (O : Option (List St)) (gh : Nat) (fv kv : Value) (wr : World) : Prop :=
  ∃ (done : List St) (sts : List Sv) (v : Value) (fits : Bool) (st : Option (List Nat)), fv = .bool fits ∧ kv = .int .u64 (gh : Int) ∧ gh < 18446744073709551616 ∧ RSt wr g A m c xs st ∧ Blk wr rb 25 zeroH ∧
    Blk wr hb 25 #[.int .i64 W, .int .i64 H, .int .i64 P, .int .u32 S, .string T, v] ∧ OwnR B2 wr 80 3 cS v sts ∧ sts.length ≤ 128 ∧ (fits = true → sts = done.map St.sv ∧ goodS done) ∧ (fits = false → ¬ goodS done) ∧
    (∀ u ∈ sts, u.fits) ∧ (st = none → gh = 0) ∧ B2 ≤ wr.heap.size ∧ Ext w wr ∧ O = st.bind (restS done gh)
end Go.Proofs.Ytlldmpcamdginaa.Log
namespace Go.Proofs.Ytlldmpcamdginaa.Log
open Go.ChangeShapes Go.WideShapes Go.ChangeAt Go.RowKit
open Go.Proofs.Ytlldmpcamdginaa.Wire
open Go.Proofs.Ytlldmpcamdginaa.Rec
set_option linter.unusedVariables false

theorem infoS : (Try.prog.info? 80).map (fun i => (i.zero, i.size, i.bytes)) = some (some (.agg #[.int .u8 0, .int .u8 0, .int .i64 0]), 3, 16) := by kernel_rfl
theorem own_blk1 {α : Type} {b q : Nat} {w w' : World} {e t : TypeId} {k : Nat} {f : α → List Value} {v : Value} {xs : List α} {cs : Array Value} (h : OwnR b w e k f v xs) (hg : w.grownBy w' v.ownBlock) (hB : Blk w q t cs) (hq : q < b) : Blk w' q t cs :=
  (hg.block q hB.lt (fun e => by have := (World.ownsRow.lt h q e.symm).1; omega)).trans hB
set_option maxHeartbeats 4000000 in
set_option maxRecDepth 100000 in
theorem takeHeader_st (A : Option Addr) (m c : Nat) (xs : List Nat) (w : World) (hB : Bs w A m xs) (hnil : A = none → m = 0 ∧ c = 0) (hm : m ≤ 1000000) :
    Calls Try.prog 10 #[.slice A m c] w (ThPost w xs) := by
  have hE0 := ext_alloc (Ext.rfl' w) (.cells zeroH 25)
  have HZB := Lib.hid (Blk.new w 25 zeroH)
  have HOF := Lib.hid (of_st A m c xs _ (hB.ext hE0) hnil (by omega))
  have HSM : Hid (∀ c ∈ xs, c < 256) := Lib.hid (mem_small hB.2.1)
  have HTH := Lib.hid (thL_eq xs)
  have HS6 := Lib.hid (s6_none xs)
  have tlen := Lib.hid (tiles_len xs (fun st L e1 e2 => s4_small xs HSM.out L (e1 ▸ e2.symm)))
  have HE00 := Lib.hid hE0
  clear hB hnil hE0
  unfold zeroH at HOF
  go_enter Try.func10, Try.ntmps10
  go_wp2_with fail
  go_step3
  go_wp2_with fail
  refine (HOF.out).mono ?_
  rintro e w2 ⟨g, A', c', rfl, hg, hS, hE2, hfar⟩
  have HLV0 : Hid (w.heap.size < w2.heap.size ∧ w.heap.size < g ∧ g < w2.heap.size) := Lib.hid (by
    have h1 := hE2.size
    rw [World.size_alloc] at h1 hg
    exact ⟨by omega, by omega, hS.lt⟩)
  have HR0 := Lib.hid hS.rin
  have HZ0 := Lib.hid ((HZB.out.ext hE2).alloc (.cells zeroH 25))
  have HH0 := Lib.hid (Blk.new w2 25 zeroH)
  have HE0 := Lib.hid (ext_alloc (ext_trans HE00.out hE2) (.cells zeroH 25))
  have HS0 := Lib.hid (hS.ext (ext_alloc (Ext.rfl' w2) (.cells zeroH 25)))
  have HSZ0 : Hid (w2.heap.size + 1 ≤ (w2.alloc (.cells zeroH 25)).heap.size) := Lib.hid (by rw [World.size_alloc]; omega)
  clear hS hE2 hg hfar HZB HOF HE00
  go_upto_region 3 with fail
  unfold zeroH at HZ0 HH0 HE0 HS0 HSZ0
  obtain ⟨w3, hw3⟩ : ∃ q, q = w2.alloc (.cells #[.int .i64 0, .int .i64 0, .int .i64 0, .int .u32 0, .string ⟨#[]⟩, .slice none 0 0] 25) := ⟨_, rfl⟩
  rw [← hw3] at HZ0 HH0 HE0 HS0 HSZ0 ⊢
  clear hw3
  obtain ⟨rb, hrb⟩ : ∃ q, q = w.heap.size := ⟨_, rfl⟩
  obtain ⟨B1, hB1⟩ : ∃ q, q = w2.heap.size := ⟨_, rfl⟩
  have HLV : Hid (∃ hb, hb = w2.heap.size ∧ rb < hb ∧ rb < g ∧ g < hb ∧ w.heap.size ≤ hb ∧ B1 ≤ hb ∧ w.heap.size ≤ g ∧ rb = w.heap.size) := Lib.hid ⟨_, rfl, by have := HLV0.out; omega⟩
  rw [← hrb] at HZ0 ⊢
  rw [← hB1] at HR0
  obtain ⟨hb, hhb, HLV1⟩ := HLV.out
  rw [← hhb] at HH0 HSZ0 ⊢
  replace HLV := Lib.hid HLV1
  clear hrb hB1 hhb HLV0 HLV1
  have HC0 := Lib.hid (show Calls Try.prog 38 #[.pointer (some ⟨g, 0, none⟩)] w3 (fun e w' => e = .returned (.int .i64 ((va pI 0 (some xs) : Nat) : Int)) ∧ va pI 0 (some xs) ≤ 2147483647 ∧ RSt w' g A' m c' xs (s1 xs) ∧ w3.grownBy w' (some g)) from int_st g m c' A' xs (some xs) w3 HS0.out)
  go_wp2_with fail
  refine (HC0.out).mono ?_
  rintro e wa0 ⟨rfl, hz0, hS, hG⟩
  clear HC0
  generalize va pI 0 (some xs) = z1 at *
  have hB := blk_kept HH0.out hG (by have := HLV.out; omega)
  have hBr := blk_kept HZ0.out hG (by have := HLV.out; omega)
  have hEa : Ext w wa0 := ext_grown HE0.out hG (fun q e => by cases e; have := HLV.out; omega)
  have hza := Nat.le_trans HSZ0.out hG.size
  have hc := fun i => hB.cell i
  have hfz := fun i => hB.frozen i
  have HBa := Lib.hid hB; have HBra := Lib.hid hBr; have HEa := Lib.hid hEa; have HSa := Lib.hid hS; have HZa := Lib.hid hza
  clear hB hBr hEa hS hG hza HS0 HH0 HZ0 HE0 HSZ0
  go_upto_region 4 with fail
  have HH1 : Hid (Blk (wa0.setCell ⟨hb, 0, none⟩ (.int .i64 (z1 : Int))) hb 25 #[.int .i64 (z1 : Int), .int .i64 0, .int .i64 0, .int .u32 0, .string ⟨#[]⟩, .slice none 0 0]) := Lib.hid (HBa.out.set_ 0 (.int .i64 (z1 : Int)))
  have HZ1 := Lib.hid (HBra.out.far (p := ⟨hb, 0, none⟩) (by have := HLV.out; show rb ≠ hb; omega) (.int .i64 (z1 : Int)))
  have HE1 := Lib.hid (ext_set HEa.out (p := ⟨hb, 0, none⟩) (by have := HLV.out; show w.heap.size ≤ hb; omega) (.int .i64 (z1 : Int)))
  have HS1 := Lib.hid (HSa.out.set HR0.out (p := ⟨hb, 0, none⟩) (by have := HLV.out; show B1 ≤ hb; omega) (.int .i64 (z1 : Int)))
  have HSZ1 : Hid (hb + 1 ≤ (wa0.setCell ⟨hb, 0, none⟩ (.int .i64 (z1 : Int))).heap.size) := Lib.hid (by have := HZa.out; simpa [World.setCell] using this)
  obtain ⟨wb0, hwn⟩ : ∃ q, q = wa0.setCell ⟨hb, 0, none⟩ (.int .i64 (z1 : Int)) := ⟨_, rfl⟩
  rw [← hwn] at HH1 HZ1 HE1 HS1 HSZ1 ⊢
  clear hwn hc hfz HBa HBra HEa HSa HZa
  have HC1 := Lib.hid (show Calls Try.prog 38 #[.pointer (some ⟨g, 0, none⟩)] wb0 (fun e w' => e = .returned (.int .i64 ((va pI 0 (s1 xs) : Nat) : Int)) ∧ va pI 0 (s1 xs) ≤ 2147483647 ∧ RSt w' g A' m c' xs (s2 xs) ∧ wb0.grownBy w' (some g)) from int_st g m c' A' xs (s1 xs) wb0 HS1.out)
  go_wp2_with fail
  refine (HC1.out).mono ?_
  rintro e wa1 ⟨rfl, hz1, hS, hG⟩
  clear HC1
  generalize va pI 0 (s1 xs) = z2 at *
  have hB := blk_kept HH1.out hG (by have := HLV.out; omega)
  have hBr := blk_kept HZ1.out hG (by have := HLV.out; omega)
  have hEa : Ext w wa1 := ext_grown HE1.out hG (fun q e => by cases e; have := HLV.out; omega)
  have hza := Nat.le_trans HSZ1.out hG.size
  have hc := fun i => hB.cell i
  have hfz := fun i => hB.frozen i
  have HBa := Lib.hid hB; have HBra := Lib.hid hBr; have HEa := Lib.hid hEa; have HSa := Lib.hid hS; have HZa := Lib.hid hza
  clear hB hBr hEa hS hG hza HS1 HH1 HZ1 HE1 HSZ1
  go_upto_region 5 with fail
  have HH2 : Hid (Blk (wa1.setCell ⟨hb, 1, none⟩ (.int .i64 (z2 : Int))) hb 25 #[.int .i64 (z1 : Int), .int .i64 (z2 : Int), .int .i64 0, .int .u32 0, .string ⟨#[]⟩, .slice none 0 0]) := Lib.hid (HBa.out.set_ 1 (.int .i64 (z2 : Int)))
  have HZ2 := Lib.hid (HBra.out.far (p := ⟨hb, 1, none⟩) (by have := HLV.out; show rb ≠ hb; omega) (.int .i64 (z2 : Int)))
  have HE2 := Lib.hid (ext_set HEa.out (p := ⟨hb, 1, none⟩) (by have := HLV.out; show w.heap.size ≤ hb; omega) (.int .i64 (z2 : Int)))
  have HS2 := Lib.hid (HSa.out.set HR0.out (p := ⟨hb, 1, none⟩) (by have := HLV.out; show B1 ≤ hb; omega) (.int .i64 (z2 : Int)))
  have HSZ2 : Hid (hb + 1 ≤ (wa1.setCell ⟨hb, 1, none⟩ (.int .i64 (z2 : Int))).heap.size) := Lib.hid (by have := HZa.out; simpa [World.setCell] using this)
  obtain ⟨wb1, hwn⟩ : ∃ q, q = wa1.setCell ⟨hb, 1, none⟩ (.int .i64 (z2 : Int)) := ⟨_, rfl⟩
  rw [← hwn] at HH2 HZ2 HE2 HS2 HSZ2 ⊢
  clear hwn hc hfz HBa HBra HEa HSa HZa
  have HC2 := Lib.hid (show Calls Try.prog 38 #[.pointer (some ⟨g, 0, none⟩)] wb1 (fun e w' => e = .returned (.int .i64 ((va pI 0 (s2 xs) : Nat) : Int)) ∧ va pI 0 (s2 xs) ≤ 2147483647 ∧ RSt w' g A' m c' xs (s3 xs) ∧ wb1.grownBy w' (some g)) from int_st g m c' A' xs (s2 xs) wb1 HS2.out)
  go_wp2_with fail
  refine (HC2.out).mono ?_
  rintro e wa2 ⟨rfl, hz2, hS, hG⟩
  clear HC2
  generalize va pI 0 (s2 xs) = z3 at *
  have hB := blk_kept HH2.out hG (by have := HLV.out; omega)
  have hBr := blk_kept HZ2.out hG (by have := HLV.out; omega)
  have hEa : Ext w wa2 := ext_grown HE2.out hG (fun q e => by cases e; have := HLV.out; omega)
  have hza := Nat.le_trans HSZ2.out hG.size
  have hc := fun i => hB.cell i
  have hfz := fun i => hB.frozen i
  have HBa := Lib.hid hB; have HBra := Lib.hid hBr; have HEa := Lib.hid hEa; have HSa := Lib.hid hS; have HZa := Lib.hid hza
  clear hB hBr hEa hS hG hza HS2 HH2 HZ2 HE2 HSZ2
  go_upto_region 6 with fail
  have HH3 : Hid (Blk (wa2.setCell ⟨hb, 2, none⟩ (.int .i64 (z3 : Int))) hb 25 #[.int .i64 (z1 : Int), .int .i64 (z2 : Int), .int .i64 (z3 : Int), .int .u32 0, .string ⟨#[]⟩, .slice none 0 0]) := Lib.hid (HBa.out.set_ 2 (.int .i64 (z3 : Int)))
  have HZ3 := Lib.hid (HBra.out.far (p := ⟨hb, 2, none⟩) (by have := HLV.out; show rb ≠ hb; omega) (.int .i64 (z3 : Int)))
  have HE3 := Lib.hid (ext_set HEa.out (p := ⟨hb, 2, none⟩) (by have := HLV.out; show w.heap.size ≤ hb; omega) (.int .i64 (z3 : Int)))
  have HS3 := Lib.hid (HSa.out.set HR0.out (p := ⟨hb, 2, none⟩) (by have := HLV.out; show B1 ≤ hb; omega) (.int .i64 (z3 : Int)))
  have HSZ3 : Hid (hb + 1 ≤ (wa2.setCell ⟨hb, 2, none⟩ (.int .i64 (z3 : Int))).heap.size) := Lib.hid (by have := HZa.out; simpa [World.setCell] using this)
  obtain ⟨wb2, hwn⟩ : ∃ q, q = wa2.setCell ⟨hb, 2, none⟩ (.int .i64 (z3 : Int)) := ⟨_, rfl⟩
  rw [← hwn] at HH3 HZ3 HE3 HS3 HSZ3 ⊢
  clear hwn hc hfz HBa HBra HEa HSa HZa
  have HC3 := Lib.hid (show Calls Try.prog 39 #[.pointer (some ⟨g, 0, none⟩)] wb2 (fun e w' => e = .returned (.int .u32 ((va pF 0 (s3 xs) : Nat) : Int)) ∧ va pF 0 (s3 xs) < 4294967296 ∧ RSt w' g A' m c' xs (s4 xs) ∧ wb2.grownBy w' (some g)) from fixed_st g m c' A' xs (s3 xs) wb2 HS3.out)
  go_wp2_with fail
  refine (HC3.out).mono ?_
  rintro e wa3 ⟨rfl, hz3, hS, hG⟩
  clear HC3
  generalize va pF 0 (s3 xs) = z4 at *
  have hB := blk_kept HH3.out hG (by have := HLV.out; omega)
  have hBr := blk_kept HZ3.out hG (by have := HLV.out; omega)
  have hEa : Ext w wa3 := ext_grown HE3.out hG (fun q e => by cases e; have := HLV.out; omega)
  have hza := Nat.le_trans HSZ3.out hG.size
  have hc := fun i => hB.cell i
  have hfz := fun i => hB.frozen i
  have HBa := Lib.hid hB; have HBra := Lib.hid hBr; have HEa := Lib.hid hEa; have HSa := Lib.hid hS; have HZa := Lib.hid hza
  clear hB hBr hEa hS hG hza HS3 HH3 HZ3 HE3 HSZ3
  go_upto_region 7 with fail
  have HH4 : Hid (Blk (wa3.setCell ⟨hb, 3, none⟩ (.int .u32 (z4 : Int))) hb 25 #[.int .i64 (z1 : Int), .int .i64 (z2 : Int), .int .i64 (z3 : Int), .int .u32 (z4 : Int), .string ⟨#[]⟩, .slice none 0 0]) := Lib.hid (HBa.out.set_ 3 (.int .u32 (z4 : Int)))
  have HZ4 := Lib.hid (HBra.out.far (p := ⟨hb, 3, none⟩) (by have := HLV.out; show rb ≠ hb; omega) (.int .u32 (z4 : Int)))
  have HE4 := Lib.hid (ext_set HEa.out (p := ⟨hb, 3, none⟩) (by have := HLV.out; show w.heap.size ≤ hb; omega) (.int .u32 (z4 : Int)))
  have HS4 := Lib.hid (HSa.out.set HR0.out (p := ⟨hb, 3, none⟩) (by have := HLV.out; show B1 ≤ hb; omega) (.int .u32 (z4 : Int)))
  have HSZ4 : Hid (hb + 1 ≤ (wa3.setCell ⟨hb, 3, none⟩ (.int .u32 (z4 : Int))).heap.size) := Lib.hid (by have := HZa.out; simpa [World.setCell] using this)
  obtain ⟨wb3, hwn⟩ : ∃ q, q = wa3.setCell ⟨hb, 3, none⟩ (.int .u32 (z4 : Int)) := ⟨_, rfl⟩
  rw [← hwn] at HH4 HZ4 HE4 HS4 HSZ4 ⊢
  clear hwn hc hfz HBa HBra HEa HSa HZa
  have HC4 := Lib.hid (show Calls Try.prog 40 #[.pointer (some ⟨g, 0, none⟩), .int .i64 4096] wb3 (fun e w' => e = .returned (.string (strOf (va (pT 4096) [] (s4 xs)))) ∧ RSt w' g A' m c' xs (s5 xs) ∧ wb3.grownBy w' (some g)) from text_st g m c' 4096 (by omega) A' xs (s4 xs) wb3 HS4.out)
  go_wp2_with fail
  refine (HC4.out).mono ?_
  rintro e wa4 ⟨rfl, hS, hG⟩
  clear HC4
  generalize va (pT 4096) [] (s4 xs) = z5 at *
  have htl := tlen.out
  have hB := blk_kept HH4.out hG (by have := HLV.out; omega)
  have hBr := blk_kept HZ4.out hG (by have := HLV.out; omega)
  have hEa : Ext w wa4 := ext_grown HE4.out hG (fun q e => by cases e; have := HLV.out; omega)
  have hza := Nat.le_trans HSZ4.out hG.size
  have hc := fun i => hB.cell i
  have hfz := fun i => hB.frozen i
  have HBa := Lib.hid hB; have HBra := Lib.hid hBr; have HEa := Lib.hid hEa; have HSa := Lib.hid hS; have HZa := Lib.hid hza
  clear hB hBr hEa hS hG hza HS4 HH4 HZ4 HE4 HSZ4
  go_upto_region 8 with fail
  have HH5 : Hid (Blk (wa4.setCell ⟨hb, 4, none⟩ (.string (strOf z5))) hb 25 #[.int .i64 (z1 : Int), .int .i64 (z2 : Int), .int .i64 (z3 : Int), .int .u32 (z4 : Int), .string (strOf z5), .slice none 0 0]) := Lib.hid (HBa.out.set_ 4 (.string (strOf z5)))
  have HZ5 := Lib.hid (HBra.out.far (p := ⟨hb, 4, none⟩) (by have := HLV.out; show rb ≠ hb; omega) (.string (strOf z5)))
  have HE5 := Lib.hid (ext_set HEa.out (p := ⟨hb, 4, none⟩) (by have := HLV.out; show w.heap.size ≤ hb; omega) (.string (strOf z5)))
  have HS5 := Lib.hid (HSa.out.set HR0.out (p := ⟨hb, 4, none⟩) (by have := HLV.out; show B1 ≤ hb; omega) (.string (strOf z5)))
  have HSZ5 : Hid (hb + 1 ≤ (wa4.setCell ⟨hb, 4, none⟩ (.string (strOf z5))).heap.size) := Lib.hid (by have := HZa.out; simpa [World.setCell] using this)
  obtain ⟨wb4, hwn⟩ : ∃ q, q = wa4.setCell ⟨hb, 4, none⟩ (.string (strOf z5)) := ⟨_, rfl⟩
  rw [← hwn] at HH5 HZ5 HE5 HS5 HSZ5 ⊢
  clear hwn hc hfz HBa HBra HEa HSa HZa
  have HC5 := Lib.hid (show Calls Try.prog 41 #[.pointer (some ⟨g, 0, none⟩)] wb4 (fun e w' => e = .returned (.int .u64 ((va pN 0 (s5 xs) : Nat) : Int)) ∧ va pN 0 (s5 xs) < 18446744073709551616 ∧ RSt w' g A' m c' xs (s6 xs) ∧ wb4.grownBy w' (some g)) from num_st g m c' A' xs (s5 xs) wb4 HS5.out)
  go_wp2_with fail
  refine (HC5.out).mono ?_
  rintro e w9 ⟨rfl, hz5, hS, hG⟩
  clear HC5
  generalize va pN 0 (s5 xs) = left at *
  have HREL : Hid (HRel w g A' m c' xs rb hb (hb + 1) z1 z2 z3 z4 (strOf z5) ((s6 xs).bind (restS [] left)) left (.bool true) (.int .u64 (left : Int)) w9) := Lib.hid <| by
    refine ⟨[], [], .slice none 0 0, true, s6 xs, rfl, rfl, hz5, hS, ?_, blk_kept HH5.out hG (by have := HLV.out; omega), OwnR.nil _ _ _ _ _, by simp, (fun _ => ⟨rfl, ⟨(fun u hu => by cases hu), by simp⟩⟩), (fun h => by cases h), (fun u hu => by cases hu), HS6.out, Nat.le_trans HSZ5.out hG.size, ext_grown HE5.out hG (fun q e => by cases e; have := HLV.out; omega), rfl⟩
    exact blk_kept HZ5.out hG (by have := HLV.out; omega)
  generalize hO : (s6 xs).bind (restS [] left) = O at HREL HTH
  clear hO hS hG HS6 HS5 HE5 HZ5 HH5 HSZ5 hz5 HSM
  go_wp2_with fail
  go_step3
  go_wp2_with fail
  go_loopg [6, 7] left (fun gh fv kv wr => HRel w g A' m c' xs rb hb (hb + 1) z1 z2 z3 z4 (strOf z5) O gh fv kv wr)
  case atStart => exact HREL.out
  case round =>
    obtain ⟨done, sts, v, fits, st, rfl, rfl, hgh, hS, hZ, hH, hO, hsl, hft, hff, hsf, hst, hsz, hE, hOO⟩ := hrel
    obtain ⟨wi, rfl⟩ : ∃ wi : World, wi = wr := ⟨_, rfl⟩
    obtain ⟨gh, rfl⟩ : ∃ gh : Nat, gh = gk := ⟨_, rfl⟩
    have HS := Lib.hid hS; have HZ := Lib.hid hZ; have HH := Lib.hid hH; have HO := Lib.hid hO; have HFT := Lib.hid hft; have HFF := Lib.hid hff; have HSF := Lib.hid hsf; have HST := Lib.hid hst; have HSZ := Lib.hid hsz; have HE := Lib.hid hE; have HOO := Lib.hid hOO
    clear hS hZ hH hO hft hff hsf hst hsz hE hOO HREL
    cases gh with
    | zero =>
      have HEN := Lib.hid (end_st g m c' A' xs st wi HS.out)
      go_wp2_with fail
      refine (HEN.out).mono ?_
      rintro e w5 ⟨x, rfl, hx, hE5⟩
      have HX := Lib.hid hx
      have HEF := Lib.hid (ext_trans HE.out hE5)
      have HZF := Lib.hid (HZ.out.ext hE5)
      have HHF := Lib.hid (HH.out.ext hE5)
      have HOF := Lib.hid (HO.out.ext hE5)
      clear hE5 hx HS HZ HH HO HE
      have z0 := fun i => HZF.out.cell i
      have zf := fun i => HZF.out.frozen i
      have h0 := fun i => HHF.out.cell i
      simp only [zeroH] at z0
      by_cases hx0 : x = 0
      · have HST0 := Lib.hid (HX.out.1 hx0)
        subst hx0
        have HOD : Hid (O = some done) := Lib.hid (by rw [HOO.out, HST0.out, Option.bind_some, restS_zero, if_pos rfl])
        cases fits with
        | false =>
          have HTF : Hid (thL xs = none) := Lib.hid (by
            rw [HTH.out, HOD.out, Option.bind_some]; unfold thO; rw [if_neg (fun h => HFF.out rfl h.1)])
          go_wp2_with fail
          rw [Exit.noGoto_ret]
          have hb1 := (((((HZF.out.set_ 0 (.int .i64 0)).set_ 1 (.int .i64 0)).set_ 2 (.int .i64 0)).set_ 3 (.int .u32 0)).set_ 4 (.string ⟨#[]⟩)).set_ 5 (.slice none 0 0)
          refine bodyPost_ret (v := .tuple #[.agg zeroH, .int .i64 4]) (results_cell2 Try.results10 _ _ rb 25 _ (0, 0) _ rfl hb1 _ rfl Try.underlying25 rfl (by kernel_rfl)) rfl ?_
          have hrw : w.heap.size ≤ rb := by have := HLV.out; omega
          exact th_bad (ext_set (ext_set (ext_set (ext_set (ext_set (ext_set HEF.out hrw _) hrw _) hrw _) hrw _) hrw _) hrw _) HTF.out (by decide)
        | true =>
          obtain ⟨hsd, hgd⟩ := HFT.out rfl
          subst hsd
          obtain ⟨A5, c5, rfl, hs1, hs2, hs3, hs4⟩ := HOF.out.shape
          have hstl : (strOf z5).size ≤ 5000 := by rw [strOf_size]; omega
          have HMY := Lib.hid (may_st (Hd.hv ⟨z1, z2, z3, z4, z5, done⟩) A5 _ c5 w5 (OwnR.row cS_len HOF.out) HSF.out hstl (by omega) (by show (-9223372036854775808 : Int) ≤ (z1 : Int); omega) (by show (z1 : Int) ≤ 9223372036854775807; omega) (by show (-9223372036854775808 : Int) ≤ (z2 : Int); omega) (by show (z2 : Int) ≤ 9223372036854775807; omega))
          obtain ⟨mb, hmb⟩ : ∃ mb, mb = decide (mayH (Hd.hv ⟨z1, z2, z3, z4, z5, done⟩)) := ⟨_, rfl⟩
          rw [← hmb] at HMY
          replace hmb := Lib.hid hmb
          have HTQ : Hid (thL xs = if mayH (Hd.hv ⟨z1, z2, z3, z4, z5, done⟩) then some (Hd.hv ⟨z1, z2, z3, z4, z5, done⟩) else none) := Lib.hid (by
            rw [HTH.out, HOD.out, Option.bind_some]; unfold thO
            by_cases hq : mayH (Hd.hv ⟨z1, z2, z3, z4, z5, done⟩)
            · rw [if_pos ⟨hgd, hq⟩, if_pos hq]
            · rw [if_neg (fun h => hq h.2), if_neg hq])
          have HSH := Lib.hid (And.intro hs1 hs2)
          clear hs1 hs2 hs3 hs4 hgd
          simp only [cH, Hd.hv] at HMY
          generalize hlen : (List.map St.sv done).length = nl at *
          replace hlen := Lib.hid hlen
          go_wp2_with fail
          refine (HMY.out).mono ?_
          rintro e w6 ⟨rfl, hE6⟩
          have HEF6 := Lib.hid (ext_trans HEF.out hE6)
          have HZF6 := Lib.hid (HZF.out.ext hE6)
          have HHF6 := Lib.hid (HHF.out.ext hE6)
          have HOF6 := Lib.hid (HOF.out.ext hE6)
          clear hE6 HEF HZF HHF HOF HMY z0 zf h0
          have z0 := fun i => HZF6.out.cell i
          have zf := fun i => HZF6.out.frozen i
          have h0 := fun i => HHF6.out.cell i
          simp only [zeroH] at z0
          cases mb with
          | true =>
            have hq := of_decide_eq_true hmb.out.symm
            have HTF : Hid (thL xs = some (Hd.hv ⟨z1, z2, z3, z4, z5, done⟩)) := Lib.hid (by rw [HTQ.out, if_pos hq])
            clear hq HTQ
            go_wp2_with fail
            rw [Exit.noGoto_ret]
            have hb1 := (((((HZF6.out.set_ 0 (.int .i64 (z1 : Int))).set_ 1 (.int .i64 (z2 : Int))).set_ 2 (.int .i64 (z3 : Int))).set_ 3 (.int .u32 (z4 : Int))).set_ 4 (.string (strOf z5))).set_ 5 (.slice A5 nl c5)
            refine bodyPost_ret (v := .tuple #[.agg (cH (Hd.hv ⟨z1, z2, z3, z4, z5, done⟩) (.slice A5 nl c5)), .int .i64 0]) (results_cell2 Try.results10 _ _ rb 25 _ (0, 0) _ rfl hb1 _ rfl Try.underlying25 rfl (by kernel_rfl)) rfl ?_
            have hrw : w.heap.size ≤ rb := by have := HLV.out; omega
            have hrb : rb < hb + 1 := by have := HLV.out; omega
            have hk : ∀ (u : World) (i : Nat) (v : Value) (q : Nat), hb + 1 ≤ q → (u.setCell ⟨rb, i, none⟩ v).heap[q]? = u.heap[q]? := fun u i v q hq => Below.heap_setCell u ⟨rb, i, none⟩ v q (by show q ≠ rb; omega)
            refine th_ok (b := hb + 1) (ext_set (ext_set (ext_set (ext_set (ext_set (ext_set HEF6.out hrw _) hrw _) hrw _) hrw _) hrw _) hrw _) HTF.out ?_ (by have := HLV.out; omega)
            refine OwnR_keep HOF6.out (fun q hq _ => ?_)
            rw [hk _ _ _ _ hq, hk _ _ _ _ hq, hk _ _ _ _ hq, hk _ _ _ _ hq, hk _ _ _ _ hq, hk _ _ _ _ hq]
          | false =>
            have hq := of_decide_eq_false hmb.out.symm
            have HTF : Hid (thL xs = none) := Lib.hid (by rw [HTQ.out, if_neg hq])
            clear hq HTQ
            go_wp2_with fail
            rw [Exit.noGoto_ret]
            have hb1 := (((((HZF6.out.set_ 0 (.int .i64 0)).set_ 1 (.int .i64 0)).set_ 2 (.int .i64 0)).set_ 3 (.int .u32 0)).set_ 4 (.string ⟨#[]⟩)).set_ 5 (.slice none 0 0)
            refine bodyPost_ret (v := .tuple #[.agg zeroH, .int .i64 4]) (results_cell2 Try.results10 _ _ rb 25 _ (0, 0) _ rfl hb1 _ rfl Try.underlying25 rfl (by kernel_rfl)) rfl ?_
            have hrw : w.heap.size ≤ rb := by have := HLV.out; omega
            exact th_bad (ext_set (ext_set (ext_set (ext_set (ext_set (ext_set HEF6.out hrw _) hrw _) hrw _) hrw _) hrw _) hrw _) HTF.out (by decide)
      · have HTF : Hid (thL xs = none) := Lib.hid (by
          rw [HTH.out, HOO.out]
          cases hst : st with
          | none => rfl
          | some L =>
            rw [Option.bind_some, restS_zero, if_neg (fun h => hx0 (HX.out.2 (by rw [hst, h])))]
            rfl)
        go_wp2_with fail
        rw [Exit.noGoto_ret]
        have hb1 := (((((HZF.out.set_ 0 (.int .i64 0)).set_ 1 (.int .i64 0)).set_ 2 (.int .i64 0)).set_ 3 (.int .u32 0)).set_ 4 (.string ⟨#[]⟩)).set_ 5 (.slice none 0 0)
        refine bodyPost_ret (v := .tuple #[.agg zeroH, .int .i64 x]) (results_cell2 Try.results10 _ _ rb 25 _ (0, 0) _ rfl hb1 _ rfl Try.underlying25 rfl (by kernel_rfl)) rfl ?_
        have hrw : w.heap.size ≤ rb := by have := HLV.out; omega
        exact th_bad (ext_set (ext_set (ext_set (ext_set (ext_set (ext_set HEF.out hrw _) hrw _) hrw _) hrw _) hrw _) hrw _) HTF.out hx0
    | succ gh =>
      have hst2 : ∃ L, st = some L := by
        cases hq : st with
        | none => exact absurd (HST.out hq) (by omega)
        | some L => exact ⟨L, rfl⟩
      obtain ⟨L, rfl⟩ := hst2
      have HCH := Lib.hid (chain3 (L := L) done gh)
      have HA1 := Lib.hid (num_st g m c' A' xs (some L) wi HS.out)
      have hghi : (0 : Int) < ((gh + 1 : Nat) : Int) := by omega
      clear HST
      go_wp2_with fail
      refine (HA1.out).mono ?_
      rintro e w1 ⟨rfl, hy1, hS1, hG1⟩
      have HS1 := Lib.hid hS1; have HG1 := Lib.hid hG1; clear hS1 hG1 HA1
      have HA2 := Lib.hid (num_st g m c' A' xs _ w1 HS1.out)
      obtain ⟨o, hva⟩ : ∃ o, o = va pN 0 (some L) := ⟨_, rfl⟩
      rw [← hva] at hy1 ⊢
      replace hva := Lib.hid hva
      go_wp2_with fail
      refine (HA2.out).mono ?_
      rintro e w4 ⟨rfl, hy2, hS2, hG2⟩
      have HS2 := Lib.hid hS2; have HG2 := Lib.hid hG2; clear hS2 hG2 HA2
      have HA3 := Lib.hid (int_st g m c' A' xs _ w4 HS2.out)
      obtain ⟨kd, hvb⟩ : ∃ o, o = va pN 0 (nx pN (some L)) := ⟨_, rfl⟩
      rw [← hvb] at hy2 ⊢
      replace hvb := Lib.hid hvb
      go_wp2_with fail
      refine (HA3.out).mono ?_
      rintro e w5 ⟨rfl, hy3, hS3, hG3⟩
      have HS3 := Lib.hid hS3; have HG3 := Lib.hid hG3; clear hS3 hG3 HA3
      obtain ⟨tl, hvc⟩ : ∃ o, o = va pI 0 (nx pN (nx pN (some L))) := ⟨_, rfl⟩
      rw [← hvc] at hy3 ⊢
      replace hvc := Lib.hid hvc
      have HGG : Hid (wi.grownBy w5 (some g)) := Lib.hid (gb_trans (gb_trans HG1.out HG2.out) HG3.out)
      have HZ5 := Lib.hid (blk_kept HZ.out HGG.out (by have := HLV.out; omega))
      have HH5 := Lib.hid (blk_kept HH.out HGG.out (by have := HLV.out; omega))
      have HO5 := Lib.hid (HO.out.grown HGG.out (by have := HLV.out; omega))
      have HSZ5 := Lib.hid (Nat.le_trans HSZ.out HGG.out.size)
      have HE5 : Hid (Ext w w5) := Lib.hid (ext_grown HE.out HGG.out (fun q e => by cases e; have := HLV.out; omega))
      clear HZ HH HO HSZ HE HS HS1 HS2 HG1 HG2 HG3 HGG
      have HER := Lib.hid (err_st g m c' A' xs _ w5 HS3.out)
      go_wp2_with fail
      refine (HER.out).mono ?_
      rintro e w6 ⟨x, rfl, hx, rfl⟩
      clear HER
      rcases HCH.out with ⟨d1, d2⟩ | ⟨o', L1, k', L2, t', L3, d1, d2, d3, f1, f2, f3, d4⟩
      · have hx1 : ¬ x = 0 := hx.2 d1
        have HTF : Hid (thL xs = none) := Lib.hid (by rw [HTH.out, HOO.out, Option.bind_some, d2]; rfl)
        rw [d1] at HS3
        have HEN := Lib.hid (end_st g m c' A' xs none w5 HS3.out)
        clear hx d1 d2 HCH
        go_wp2_with fail
        refine (HEN.out).mono ?_
        rintro e w7 ⟨y, rfl, hy, hE7⟩
        have hyn : ¬ y = 0 := fun h => by have := hy.1 h; cases this
        have HEF := Lib.hid (ext_trans HE5.out hE7)
        have HZF := Lib.hid (HZ5.out.ext hE7)
        clear hy hE7
        have z0 := fun i => HZF.out.cell i
        have zf := fun i => HZF.out.frozen i
        simp only [zeroH] at z0
        go_wp2_with fail
        rw [Exit.noGoto_ret]
        have hb1 := (((((HZF.out.set_ 0 (.int .i64 0)).set_ 1 (.int .i64 0)).set_ 2 (.int .i64 0)).set_ 3 (.int .u32 0)).set_ 4 (.string ⟨#[]⟩)).set_ 5 (.slice none 0 0)
        refine bodyPost_ret (v := .tuple #[.agg zeroH, .int .i64 y]) (results_cell2 Try.results10 _ _ rb 25 _ (0, 0) _ rfl hb1 _ rfl Try.underlying25 rfl (by kernel_rfl)) rfl ?_
        have hrw : w.heap.size ≤ rb := by have := HLV.out; omega
        exact th_bad (ext_set (ext_set (ext_set (ext_set (ext_set (ext_set HEF.out hrw _) hrw _) hrw _) hrw _) hrw _) hrw _) HTF.out hyn
      · have q3 : nx pI (nx pN (nx pN (some L))) = some L3 := by rw [d1, d2, d3]
        rw [q3] at HS3 hx
        have hx1 : x = 0 := by
          by_cases h0 : x = 0
          · exact h0
          · have := hx.1 h0; cases this
        subst hx1
        have ho : o = o' := by rw [hva.out, f1]
        have hkd : kd = k' := by rw [hvb.out, d1, f2]
        have htl2 : tl = t' := by rw [hvc.out, d1, d2, f3]
        subst ho hkd htl2
        have HOO2 : Hid (O = (some L3).bind (restS (done ++ [⟨o, kd, tl⟩]) gh)) := Lib.hid (by rw [HOO.out, Option.bind_some, d4]; rfl)
        clear hx d1 d2 d3 f1 f2 f3 d4 q3 HCH HOO hva hvb hvc
        have h0 := fun i => HH5.out.cell i
        have hf0 := fun i => HH5.out.frozen i
        obtain ⟨A5, c5, rfl, hs1, hs2, hs3, hs4⟩ := HO5.out.shape
        generalize hln : sts.length = nl at *
        have HLN := Lib.hid hln
        clear hln hs3 hs4
        by_cases b1 : o ≤ 255
        · have b1' : (o : Int) ≤ 255 := by omega
          by_cases b2 : kd ≤ 255
          · have b2' : (kd : Int) ≤ 255 := by omega
            by_cases b3 : nl = 128
            · have b3' : ((nl : Int) == 128) = true := beq_iff_eq.2 (by omega)
              go_wp2_with fail
              go_roundg gh
              case measure => omega
              case rel =>
                have hng : ¬ goodS (done ++ [⟨o, kd, tl⟩]) := fun h => by
                  rw [goodS_snoc] at h
                  cases fits with
                  | true =>
                    have h2 := congrArg List.length (HFT.out rfl).1
                    rw [List.length_map, HLN.out] at h2
                    omega
                  | false => exact HFF.out rfl h.1
                refine ⟨done ++ [⟨o, kd, tl⟩], sts, .slice A5 nl c5, false, some L3, rfl, rfl, by omega, HS3.out, HZ5.out, HH5.out, HO5.out, by rw [HLN.out]; exact hsl, (fun h => by cases h), (fun _ => hng), HSF.out, (fun h => by cases h), HSZ5.out, HE5.out, HOO2.out⟩
            · have b3' : ((nl : Int) == 128) = false := beq_eq_false_iff_ne.2 (by omega)
              have HEA := Lib.hid (ext_alloc (Ext.rfl' w5) (.cells (cS ⟨o, kd, (tl : Int)⟩).toArray 80))
              have HSRC := Lib.hid (src_rec (P := Try.prog) (e' := 80) Try.underlying23 w5 (cS ⟨o, kd, (tl : Int)⟩) rfl (by intro u hu; simp [cS] at hu; rcases hu with rfl | rfl | rfl <;> rfl) 1)
              have HO8 := Lib.hid (HO5.out.ext HEA.out)
              have HSZ8 : Hid (hb + 1 ≤ (w5.alloc (.cells (cS ⟨o, kd, (tl : Int)⟩).toArray 80)).heap.size) := Lib.hid (by rw [World.size_alloc]; have := HSZ5.out; omega)
              have HDL : Hid (sts.length ≤ 100000000) := Lib.hid (by rw [HLN.out]; omega)
              go_wp2_with (at_builtin; refine wpList_rec rfl (.tmp 57) (.tmp 64) 23 80 3 16 _ cS rfl Try.underlying23 infoS rfl (by decide) (.slice A5 nl c5) _ sts ⟨o, kd, (tl : Int)⟩ rfl rfl HO8.out HSZ8.out HSRC.out HDL.out ?_; intro v9 w9 hown9 hgr9; have HO9 := Lib.hid hown9; have HG9 := Lib.hid hgr9; have HH9 := Lib.hid (own_blk1 HO8.out HG9.out (HH5.out.ext HEA.out) (by omega)); clear hown9 hgr9; obtain ⟨A9, c9, hv9, _, _, _, _⟩ := HO9.out.shape; generalize (sts ++ [(⟨o, kd, (tl : Int)⟩ : Sv)]).length = n9 at hv9; subst hv9; have hh9 := fun i => HH9.out.cell i; have hf9 := fun i => HH9.out.frozen i)
              go_roundg gh
              case measure => omega
              case rel =>
                have hob : ∀ k, (Value.slice A5 nl c5).ownBlock = some k → hb + 1 ≤ k := fun k e => (World.ownsRow.lt HO8.out k e).1
                have hkeep : ∀ k, k < hb + 1 → w9.heap[k]? = (w5.alloc (.cells (cS ⟨o, kd, (tl : Int)⟩).toArray 80)).heap[k]? := fun k hk =>
                  HG9.out.block k (Nat.lt_of_lt_of_le hk HSZ8.out) (fun e => by have := hob k e.symm; omega)
                have hlv := HLV.out
                have hE9 : Ext w w9 := ext_grown (ext_trans HE5.out HEA.out) HG9.out (fun k e => by have := hob k e; omega)
                have hS9 : RSt w9 g A' m c' xs (some L3) := (HS3.out.ext HEA.out).keep HR0.out (fun k hk => hkeep k (by omega)) HG9.out.size
                have hZ9 : Blk w9 rb 25 zeroH := (hkeep rb (by omega)).trans (HZ5.out.ext HEA.out)
                refine ⟨done ++ [⟨o, kd, tl⟩], sts ++ [⟨o, kd, (tl : Int)⟩], .slice A9 n9 c9, fits, some L3, rfl, rfl, by omega, hS9.set HR0.out (by show B1 ≤ hb; omega) _, hZ9.far (by show rb ≠ hb; omega) _, HH9.out.set_ 5 (.slice A9 n9 c9), ?_, ?_, ?_, ?_, ?_, (fun h => by cases h), ?_, ext_set hE9 (by show w.heap.size ≤ hb; omega) _, HOO2.out⟩
                · exact OwnR_keep HO9.out (fun q hq _ => Below.heap_setCell w9 ⟨hb, 5, none⟩ (.slice A9 n9 c9) q (by show q ≠ hb; omega))
                · rw [List.length_append, HLN.out, List.length_singleton]; omega
                · intro hf
                  obtain ⟨r1, r2⟩ := HFT.out hf
                  have h2 := congrArg List.length r1
                  rw [List.length_map, HLN.out] at h2
                  refine ⟨by rw [r1, List.map_append]; rfl, goodS_snoc.2 ⟨r2, b1, b2, by omega⟩⟩
                · intro hf h
                  exact HFF.out hf (goodS_left h)
                · intro u hu
                  rcases List.mem_append.1 hu with hu | hu
                  · exact HSF.out u hu
                  · rw [List.mem_singleton] at hu
                    subst hu
                    exact ⟨by show o < 256; omega, by show kd < 256; omega, by show (-9223372036854775808 : Int) ≤ (tl : Int); omega, by show (tl : Int) ≤ 9223372036854775807; omega⟩
                · have := Nat.le_trans HSZ8.out HG9.out.size
                  simpa [World.setCell] using this
          · have b2' : ¬ (kd : Int) ≤ 255 := by omega
            go_wp2_with fail
            go_roundg gh
            case measure => omega
            case rel =>
              refine ⟨done ++ [⟨o, kd, tl⟩], sts, .slice A5 nl c5, false, some L3, rfl, rfl, by omega, HS3.out, HZ5.out, HH5.out, HO5.out, by rw [HLN.out]; exact hsl, (fun h => by cases h), (fun _ => fun h => b2 (goodS_snoc.1 h).2.2.1), HSF.out, (fun h => by cases h), HSZ5.out, HE5.out, HOO2.out⟩
        · have b1' : ¬ (o : Int) ≤ 255 := by omega
          go_wp2_with fail
          go_roundg gh
          case measure => omega
          case rel =>
            refine ⟨done ++ [⟨o, kd, tl⟩], sts, .slice A5 nl c5, false, some L3, rfl, rfl, by omega, HS3.out, HZ5.out, HH5.out, HO5.out, by rw [HLN.out]; exact hsl, (fun h => by cases h), (fun _ => fun h => b1 (goodS_snoc.1 h).2.1), HSF.out, (fun h => by cases h), HSZ5.out, HE5.out, HOO2.out⟩
end Go.Proofs.Ytlldmpcamdginaa.Log
namespace Go.Proofs.Ytlldmpcamdginaa.Log
open Go.ChangeShapes Go.WideShapes Go.ChangeAt Go.RowKit
open Go.Proofs.Ytlldmpcamdginaa.Wire
open Go.Proofs.Ytlldmpcamdginaa.Rec
set_option linter.unusedVariables false

def Ev.fits (x : Ev) : Prop := x.player < 256 ∧ x.doing < 256 ∧ x.unit < 65536 ∧ x.tile < 65536 ∧ x.target < 65536 ∧ x.kind < 256
def pacedB (n : Int) : Int → Nat → List Ev → Bool
  | _, _, [] => true
  | last, each, e :: es => decide (last ≤ e.tick ∧ e.tick < n ∧ eachI last each e.tick ≤ 32) && pacedB n e.tick (eachI last each e.tick) es
def encV (last : Int) : List Ev → List Nat
  | [] => []
  | e :: es => (vb (e.tick - last).toNat ++ ([e.player, e.doing, e.kind] ++ (vb e.unit ++ (vb e.tile ++ vb e.target)))) ++ encV e.tick es
def putL (n : Int) (evs : List Ev) : Option (List Nat) :=
  if 0 ≤ n ∧ n ≤ 4096 ∧ pacedB n 0 0 evs = true then some (vb evs.length ++ encV 0 evs) else none
theorem encV_map : ∀ (es : List En) (last : Nat), encV (last : Int) (es.map En.ev) = encs last es
  | [], _ => rfl
  | e :: es, last => by
    rw [List.map_cons, encV, encs]
    show (vb ((e.tick : Int) - (last : Int)).toNat ++ _) ++ encV (e.tick : Int) (es.map En.ev) = _
    rw [encV_map es e.tick, show ((e.tick : Int) - (last : Int)).toNat = e.tick - last by omega]
    rfl
theorem pacedB_map (n : Nat) : ∀ (es : List En) (last each : Nat), pacedB n last each (es.map En.ev) = true ↔ paced n last each es
  | [], _, _ => by simp [pacedB, paced]
  | e :: es, last, each => by
    rw [List.map_cons, pacedB, Bool.and_eq_true, decide_eq_true_iff]
    show ((last : Int) ≤ (e.tick : Int) ∧ (e.tick : Int) < (n : Int) ∧ eachI last each (e.tick : Int) ≤ 32) ∧ pacedB n (e.tick : Int) (eachI last each (e.tick : Int)) (es.map En.ev) = true ↔ _
    rw [each_eq, pacedB_map n es e.tick]
    rw [paced]
    constructor
    · rintro ⟨⟨a, b, c⟩, d⟩; exact ⟨by omega, by omega, c, d⟩
    · rintro ⟨a, b, c, d⟩; exact ⟨⟨by omega, by omega, c⟩, d⟩
theorem pacedB_en (n : Int) : ∀ (evs : List Ev) (last : Nat) (each : Nat), pacedB n last each evs = true → ∃ es : List En, evs = es.map En.ev
  | [], _, _, _ => ⟨[], rfl⟩
  | x :: evs, last, each, h => by
    rw [pacedB, Bool.and_eq_true, decide_eq_true_iff] at h
    obtain ⟨⟨h1, h2, h3⟩, h4⟩ := h
    obtain ⟨t, ht⟩ : ∃ t : Nat, x.tick = (t : Int) := ⟨x.tick.toNat, by omega⟩
    rw [ht] at h4
    obtain ⟨es, rfl⟩ := pacedB_en n evs t _ h4
    exact ⟨⟨t, x.player, x.doing, x.kind, x.unit, x.tile, x.target⟩ :: es, by
      rw [List.map_cons]
      congr 1
      obtain ⟨a, b, c, d, e, f, g⟩ := x
      simp only at ht
      rw [ht]; rfl⟩
theorem En.fits_of {e : En} (h : (En.ev e).fits) : e.fits := by
  obtain ⟨h1, h2, h3, h4, h5, h6⟩ := h
  simp only [En.ev] at h1 h2 h3 h4 h5 h6
  exact ⟨h1, h2, h6, by omega, by omega, by omega⟩
theorem En.ev_fits {e : En} (h : e.fits) : (En.ev e).fits := by
  obtain ⟨h1, h2, h3, h4, h5, h6⟩ := h
  unfold Ev.fits En.ev
  exact ⟨h1, h2, by show e.unit < 65536; omega, by show e.tile < 65536; omega, by show e.target < 65536; omega, h3⟩
/-- What is put is taken as itself. -/
theorem take_put {n : Int} {evs : List Ev} {L : List Nat} (hf : ∀ x ∈ evs, x.fits) (hl : evs.length ≤ 1000000) (h : putL n evs = some L) : ∃ es : List En, evs = es.map En.ev ∧ takeL n L = some es := by
  unfold putL at h
  split at h
  · rename_i hq
    obtain ⟨h1, h2, h3⟩ := hq
    cases h
    obtain ⟨nn, rfl⟩ : ∃ nn : Nat, n = (nn : Int) := ⟨n.toNat, by omega⟩
    obtain ⟨es, rfl⟩ := pacedB_en _ evs 0 0 h3
    refine ⟨es, rfl, ?_⟩
    have hp := (pacedB_map nn es 0 0).1 h3
    unfold takeL
    rw [if_pos ⟨h1, h2⟩, List.length_map, pN_put (by rw [List.length_map] at hl; omega)]
    simp only
    have he : encV 0 (es.map En.ev) = encs 0 es := encV_map es 0
    rw [he, Int.toNat_natCast]
    have := pL_put nn (by omega) es 0 0 [] (fun e he => En.fits_of (hf _ (List.mem_map_of_mem he))) hp
    rw [List.append_nil] at this
    rw [this]
  · cases h
/-- What is taken is put as itself. -/
theorem put_take {n : Int} {L : List Nat} {es : List En} (hL : ∀ c ∈ L, c < 256) (h : takeL n L = some es) : putL n (es.map En.ev) = some L ∧ ∀ x ∈ es.map En.ev, x.fits := by
  unfold takeL at h
  split at h
  · rename_i hn
    obtain ⟨nn, rfl⟩ : ∃ nn : Nat, n = (nn : Int) := ⟨n.toNat, by omega⟩
    split at h
    · cases h
    rename_i left L1 h1
    split at h
    · rename_i es' h2
      cases h
      obtain ⟨e1, f1⟩ := pN_ok hL h1
      have hL1 : ∀ c ∈ L1, c < 256 := fun c hc => hL c (by rw [e1]; exact List.mem_append_right _ hc)
      rw [Int.toNat_natCast] at h2
      obtain ⟨e2, f2, f3, f4⟩ := pL_ok nn left 0 0 L1 es [] hL1 h2
      refine ⟨?_, fun x hx => ?_⟩
      · unfold putL
        have := (pacedB_map nn es 0 0).2 f3
        rw [if_pos ⟨hn.1, hn.2, this⟩, List.length_map, f2]
        have he : encV 0 (es.map En.ev) = encs 0 es := encV_map es 0
        rw [he, e1, e2, List.append_nil]
      · obtain ⟨e, he, rfl⟩ := List.mem_map.1 hx
        exact En.ev_fits (f4 e he)
    · cases h
  · cases h
def PtPost (w : World) (n : Int) (evs : List Ev) (e : Ending) (w' : World) : Prop :=
  Ext w w' ∧ match putL n evs with
  | none => e = .returned (.tuple #[.slice none 0 0, .int .i64 2])
  | some L => ∃ v, e = .returned (.tuple #[v, .int .i64 0]) ∧ OwnB w.heap.size w' v L
theorem pt_ok {w w' : World} {n : Int} {evs : List Ev} {L : List Nat} {v : Value} {b : Nat} (hE : Ext w w') (h : putL n evs = some L) (hO : OwnB b w' v L) (hb : w.heap.size ≤ b) : PtPost w n evs (.returned (.tuple #[v, .int .i64 0])) w' := by
  refine ⟨hE, ?_⟩; rw [h]; exact ⟨v, rfl, hO.mono hb⟩
theorem pt_bad {w w' : World} {n : Int} {evs : List Ev} (hE : Ext w w') (h : putL n evs = none) : PtPost w n evs (.returned (.tuple #[.slice none 0 0, .int .i64 2])) w' := by
  refine ⟨hE, ?_⟩; rw [h]
theorem encV_small : ∀ (evs : List Ev) (last : Int), (∀ x ∈ evs, x.fits) → ∀ c ∈ encV last evs, c < 256
  | [], _, _, c, hc => by cases hc
  | x :: evs, last, hf, c, hc => by
    obtain ⟨h1, h2, h3, h4, h5, h6⟩ := hf x (by simp)
    rw [encV] at hc
    rcases List.mem_append.1 hc with hc | hc
    · rcases List.mem_append.1 hc with hc | hc
      · exact vb_mem _ c hc
      · rcases List.mem_append.1 hc with hc | hc
        · simp only [List.mem_cons, List.not_mem_nil, or_false] at hc
          rcases hc with rfl | rfl | rfl <;> assumption
        · rcases List.mem_append.1 hc with hc | hc
          · exact vb_mem _ c hc
          · rcases List.mem_append.1 hc with hc | hc
            · exact vb_mem _ c hc
            · exact vb_mem _ c hc
    · exact encV_small evs x.tick (fun y hy => hf y (by simp [hy])) c hc
theorem putL_small {n : Int} {evs : List Ev} {L : List Nat} (hf : ∀ x ∈ evs, x.fits) (h : putL n evs = some L) : ∀ c ∈ L, c < 256 := by
  unfold putL at h
  split at h
  · cases h
    intro c hc
    rcases List.mem_append.1 hc with hc | hc
    · exact vb_mem _ c hc
    · exact encV_small evs 0 hf c hc
  · cases h
theorem putL_len {n : Int} {evs : List Ev} {L : List Nat} (hf : ∀ x ∈ evs, x.fits) (hl : evs.length ≤ 1000) (h : putL n evs = some L) : L.length ≤ 100000 := by
  have hv : ∀ (es : List En) (last : Nat), (∀ e ∈ es, e.fits ∧ e.tick ≤ 4096) → (encs last es).length ≤ 43 * es.length := by
    intro es
    induction es with
    | nil => intro _ _; simp [encs]
    | cons e es ih =>
      intro last hfe
      have h1 := ih e.tick (fun x hx => hfe x (by simp [hx]))
      obtain ⟨⟨_, _, _, a, b, c⟩, d⟩ := hfe e (by simp)
      rw [encs, List.length_append, enc1_len, List.length_cons]
      have := vb_ten (n := e.tick - last) (by omega)
      have := vb_ten (n := e.unit) (by omega)
      have := vb_ten (n := e.tile) (by omega)
      have := vb_ten (n := e.target) (by omega)
      omega
  have h0 := h
  unfold putL at h
  split at h
  · rename_i hq
    obtain ⟨h1, h2, h3⟩ := hq
    cases h
    obtain ⟨nn, rfl⟩ : ∃ nn : Nat, n = (nn : Int) := ⟨n.toNat, by omega⟩
    obtain ⟨es, rfl⟩ := pacedB_en _ evs 0 0 h3
    have hp := (pacedB_map nn es 0 0).1 h3
    have he : encV 0 (es.map En.ev) = encs 0 es := encV_map es 0
    rw [he, List.length_append]
    rw [List.length_map] at hl ⊢
    have hb : ∀ (es : List En) (last each : Nat), paced nn last each es → ∀ e ∈ es, e.tick < nn := by
      intro es
      induction es with
      | nil => intro _ _ _ e he; cases he
      | cons x es ih =>
        intro last each hp e he
        obtain ⟨p1, p2, p3, p4⟩ := hp
        rcases List.mem_cons.1 he with rfl | he
        · exact p2
        · exact ih _ _ p4 e he
    have h5 := hv es 0 (fun e he => ⟨En.fits_of (hf _ (List.mem_map_of_mem he)), by have := hb es 0 0 hp e he; omega⟩)
    have := vb_ten (n := es.length) (by omega)
    omega
  · cases h
end Go.Proofs.Ytlldmpcamdginaa.Log
namespace Go.Proofs.Ytlldmpcamdginaa.Log
open Go.ChangeShapes Go.WideShapes Go.ChangeAt Go.RowKit
open Go.Proofs.Ytlldmpcamdginaa.Wire
open Go.Proofs.Ytlldmpcamdginaa.Rec
set_option linter.unusedVariables false

theorem great_st (x : Hv) (A : Option Addr) (m c : Nat) (hs : x.tiles.size ≤ 9223372036854775807) (w : World) (hm : m ≤ 9223372036854775807) :
    Calls Try.prog 6 #[.agg (cH x (.slice A m c))] w fun e w' => e = .returned (.bool (decide (4200 < x.tiles.size ∨ 200 < m))) ∧ Ext w w' := by
  generalize hb : decide (4200 < x.tiles.size ∨ 200 < m) = b
  have HE := Lib.hid (ext_alloc (Ext.rfl' w) (.cells (cH x (.slice A m c)) 25))
  obtain ⟨xw, xh, xp, xs, xt, us⟩ := x
  simp only [cH] at *
  by_cases h1 : 4200 < xt.size
  · have hb' : Hid (b = true) := Lib.hid (by rw [← hb]; exact decide_eq_true (.inl h1))
    have h1' : (4200 : Int) < (xt.size : Int) := by omega
    clear hb
    go_enter Try.func6, Try.ntmps6
    go_wp2_with fail
    go_ret
    exact ⟨by rw [hb'.out]; rfl, HE.out⟩
  · have h1' : ¬ (4200 : Int) < (xt.size : Int) := by omega
    by_cases h2 : 200 < m
    · have hb' : Hid (b = true) := Lib.hid (by rw [← hb]; exact decide_eq_true (.inr h2))
      have h2' : (200 : Int) < (m : Int) := by omega
      clear hb
      go_enter Try.func6, Try.ntmps6
      go_wp2_with fail
      go_ret
      exact ⟨by rw [hb'.out]; rfl, HE.out⟩
    · have hb' : Hid (b = false) := Lib.hid (by rw [← hb]; exact decide_eq_false (by omega))
      have h2' : ¬ (200 : Int) < (m : Int) := by omega
      clear hb
      go_enter Try.func6, Try.ntmps6
      go_wp2_with fail
      go_ret
      exact ⟨by rw [hb'.out]; rfl, HE.out⟩
theorem hmxL : Try.prog.follows .mixedOrders = true := by kernel_rfl
def SE (w : World) : World → Prop := fun w' => Ext w w'
/-- A log, its entries put one behind the other. -/
def VRel (w : World) (evs : List Ev) (gh : Nat) (ov iv : Value) (wr : World) : Prop :=
  ∃ (k : Nat), k + gh = evs.length ∧ iv = .int .i64 (k : Int) ∧ OwnR w.heap.size wr 85 7 cV ov (evs.take k) ∧ Ext w wr
set_option maxHeartbeats 4000000 in
set_option maxRecDepth 100000 in
theorem of_law (A : Option Addr) (m c : Nat) (evs : List Ev) (w : World) (hB : RowR w A m 7 cV evs) (hm : m ≤ 1000000) :
    Calls Try.prog 13 #[.slice A m c] w fun e w' => ∃ v, e = .returned v ∧ OwnR w.heap.size w' 85 7 cV v evs ∧ Ext w w' := by
  have HB := Lib.hid hB; have HLEN := Lib.hid hB.1
  clear hB
  go_enter Try.func13, Try.ntmps13
  go_wp2_with fail
  go_loopg [3, 4] m (fun gh ov iv wr => VRel w evs gh ov iv wr)
  case atStart => exact ⟨0, by rw [HLEN.out]; omega, rfl, by simpa using OwnR.nil _ _ _ _ _, Ext.rfl' _⟩
  case round =>
    obtain ⟨k, hk, rfl, hO, hE⟩ := hrel
    obtain ⟨wi, rfl⟩ : ∃ wi : World, wi = wr := ⟨_, rfl⟩
    obtain ⟨vi, rfl⟩ : ∃ vi : Value, vi = u3 := ⟨_, rfl⟩
    obtain ⟨gh, rfl⟩ : ∃ gh : Nat, gh = gk := ⟨_, rfl⟩
    have HO := Lib.hid hO; have HE := Lib.hid hE
    have hkm : k + gh = m := by rw [hk, HLEN.out]
    clear hO hE hk
    have y1 : (0 : Int) ≤ (k : Int) := by omega
    by_cases hlt : k < m
    · have hke : k < evs.length := by rw [HLEN.out]; exact hlt
      obtain ⟨b, o, rfl, hbw, hc⟩ := HB.out.2 (by omega)
      have hcx := hc k hke
      have htk : evs.take (k + 1) = evs.take k ++ [evs[k]] := (List.take_append_getElem hke).symm
      obtain ⟨x, hx⟩ : ∃ x, x = evs[k] := ⟨_, rfl⟩
      rw [← hx] at hcx htk
      have HTK := Lib.hid htk
      obtain ⟨x0, x1, x2, x3, x4, x5, x6⟩ := x
      have HCC : Hid (∀ w', SE w w' → w'.cell? ⟨b, o + k * 7, none⟩ = some (.int .i64 x0) ∧ w'.cell? ⟨b, o + k * 7 + 1, none⟩ = some (.int .u8 (x1 : Int)) ∧ w'.cell? ⟨b, o + k * 7 + 2, none⟩ = some (.int .u8 (x2 : Int)) ∧ w'.cell? ⟨b, o + k * 7 + 3, none⟩ = some (.int .u16 (x3 : Int)) ∧ w'.cell? ⟨b, o + k * 7 + 4, none⟩ = some (.int .u16 (x4 : Int)) ∧ w'.cell? ⟨b, o + k * 7 + 5, none⟩ = some (.int .u16 (x5 : Int)) ∧ w'.cell? ⟨b, o + k * 7 + 6, none⟩ = some (.int .u8 (x6 : Int))) := Lib.hid (fun w' e =>
        ⟨(Below.cell e (p := ⟨b, o + k * 7 + 0, none⟩) hbw).trans (hcx 0 (by omega)), (Below.cell e (p := ⟨b, o + k * 7 + 1, none⟩) hbw).trans (hcx 1 (by omega)), (Below.cell e (p := ⟨b, o + k * 7 + 2, none⟩) hbw).trans (hcx 2 (by omega)), (Below.cell e (p := ⟨b, o + k * 7 + 3, none⟩) hbw).trans (hcx 3 (by omega)), (Below.cell e (p := ⟨b, o + k * 7 + 4, none⟩) hbw).trans (hcx 4 (by omega)), (Below.cell e (p := ⟨b, o + k * 7 + 5, none⟩) hbw).trans (hcx 5 (by omega)), (Below.cell e (p := ⟨b, o + k * 7 + 6, none⟩) hbw).trans (hcx 6 (by omega))⟩)
      have y2 : (k : Int) < (m : Int) := by omega
      clear hc hcx hx hke htk
      go_upto_region 5 with fail
      have HX := Lib.hid (show SE w wi.drew from ext_drew HE.out)
      have HOA := Lib.hid (HO.out.ext (ext_drew (Ext.rfl' wi)))
      have HDL : Hid ((evs.take k).length ≤ 100000000) := Lib.hid (by rw [List.length_take]; omega)
      refine wp_region_held_drew (S := SE w) hmxL HX.out (fun _ => ?_)
      generalize wi.drew = WA at *
      clear HO HE
      (refine wpAnyH_take (i := 0) (oi := { dst := some 11, op := Go.Op.move (Go.Operand.tmp 3), type := 37, pos := "law.go:27", after := #[], guard := none }) (v := ?_) rfl (by kernel_rfl) (by kernel_rfl) (by kernel_rfl) (fun _ _ _ h => h) (Or.inl ⟨by rfl, ?_⟩) HX.out ?_); rotate_left
      · (intro w' hSw; obtain ⟨c0, c1, c2, c3, c4, c5, c6⟩ := HCC.out w' hSw; go_simp; try with_reducible rfl)
      (try simp only [Act.put, List.setIfInBounds_toArray, List.set_cons_zero, List.set_cons_succ])
      (refine wpAnyH_take (i := 1) (oi := { dst := some 12, op := Go.Op.move (Go.Operand.tmp 0), type := 26, pos := "law.go:27", after := #[], guard := none }) (v := ?_) rfl (by kernel_rfl) (by kernel_rfl) (by kernel_rfl) (fun _ _ _ h => h) (Or.inl ⟨by rfl, ?_⟩) HX.out ?_); rotate_left
      · (intro w' hSw; obtain ⟨c0, c1, c2, c3, c4, c5, c6⟩ := HCC.out w' hSw; go_simp; try with_reducible rfl)
      (try simp only [Act.put, List.setIfInBounds_toArray, List.set_cons_zero, List.set_cons_succ])
      (refine wpAnyH_take (i := 2) (oi := { dst := some 13, op := Go.Op.move (Go.Operand.tmp 4), type := 3, pos := "law.go:27", after := #[], guard := none }) (v := ?_) rfl (by kernel_rfl) (by kernel_rfl) (by kernel_rfl) (fun _ _ _ h => h) (Or.inl ⟨by rfl, ?_⟩) HX.out ?_); rotate_left
      · (intro w' hSw; obtain ⟨c0, c1, c2, c3, c4, c5, c6⟩ := HCC.out w' hSw; go_simp; try with_reducible rfl)
      (try simp only [Act.put, List.setIfInBounds_toArray, List.set_cons_zero, List.set_cons_succ])
      (refine wpAnyH_take (i := 3) (oi := { dst := some 14, op := Go.Op.indexAddr 26 (Go.Operand.tmp 12) (Go.Operand.tmp 13), type := 0, pos := "law.go:27", after := #[{ on := 1, ground := Go.Ground.data }, { on := 2, ground := Go.Ground.data }], guard := none }) (v := ?_) rfl (by kernel_rfl) (by kernel_rfl) (by kernel_rfl) (fun _ _ _ h => h) (Or.inl ⟨by rfl, ?_⟩) HX.out ?_); rotate_left
      · (intro w' hSw; obtain ⟨c0, c1, c2, c3, c4, c5, c6⟩ := HCC.out w' hSw; go_simp; try with_reducible rfl)
      (try simp only [Act.put, List.setIfInBounds_toArray, List.set_cons_zero, List.set_cons_succ])
      (refine wpAnyH_take (i := 4) (oi := { dst := some 15, op := Go.Op.fieldAddr 109 (Go.Operand.tmp 14) 0, type := 0, pos := "law.go:27", after := #[{ on := 3, ground := Go.Ground.data }], guard := none }) (v := ?_) rfl (by kernel_rfl) (by kernel_rfl) (by kernel_rfl) (fun _ _ _ h => h) (Or.inl ⟨by rfl, ?_⟩) HX.out ?_); rotate_left
      · (intro w' hSw; obtain ⟨c0, c1, c2, c3, c4, c5, c6⟩ := HCC.out w' hSw; go_simp; try with_reducible rfl)
      (try simp only [Act.put, List.setIfInBounds_toArray, List.set_cons_zero, List.set_cons_succ])
      (refine wpAnyH_take (i := 5) (oi := { dst := some 16, op := Go.Op.load 3 (Go.Operand.tmp 15), type := 3, pos := "law.go:27", after := #[{ on := 4, ground := Go.Ground.data }], guard := none }) (v := ?_) rfl (by kernel_rfl) (by kernel_rfl) (by kernel_rfl) (fun _ _ _ h => h) (Or.inl ⟨by rfl, ?_⟩) HX.out ?_); rotate_left
      · (intro w' hSw; obtain ⟨c0, c1, c2, c3, c4, c5, c6⟩ := HCC.out w' hSw; go_simp; try with_reducible rfl)
      (try simp only [Act.put, List.setIfInBounds_toArray, List.set_cons_zero, List.set_cons_succ])
      (refine wpAnyH_take (i := 6) (oi := { dst := some 17, op := Go.Op.move (Go.Operand.tmp 0), type := 26, pos := "law.go:27", after := #[], guard := none }) (v := ?_) rfl (by kernel_rfl) (by kernel_rfl) (by kernel_rfl) (fun _ _ _ h => h) (Or.inl ⟨by rfl, ?_⟩) HX.out ?_); rotate_left
      · (intro w' hSw; obtain ⟨c0, c1, c2, c3, c4, c5, c6⟩ := HCC.out w' hSw; go_simp; try with_reducible rfl)
      (try simp only [Act.put, List.setIfInBounds_toArray, List.set_cons_zero, List.set_cons_succ])
      (refine wpAnyH_take (i := 7) (oi := { dst := some 18, op := Go.Op.move (Go.Operand.tmp 4), type := 3, pos := "law.go:27", after := #[], guard := none }) (v := ?_) rfl (by kernel_rfl) (by kernel_rfl) (by kernel_rfl) (fun _ _ _ h => h) (Or.inl ⟨by rfl, ?_⟩) HX.out ?_); rotate_left
      · (intro w' hSw; obtain ⟨c0, c1, c2, c3, c4, c5, c6⟩ := HCC.out w' hSw; go_simp; try with_reducible rfl)
      (try simp only [Act.put, List.setIfInBounds_toArray, List.set_cons_zero, List.set_cons_succ])
      (refine wpAnyH_take (i := 8) (oi := { dst := some 19, op := Go.Op.indexAddr 26 (Go.Operand.tmp 17) (Go.Operand.tmp 18), type := 0, pos := "law.go:27", after := #[{ on := 6, ground := Go.Ground.data }, { on := 7, ground := Go.Ground.data }], guard := none }) (v := ?_) rfl (by kernel_rfl) (by kernel_rfl) (by kernel_rfl) (fun _ _ _ h => h) (Or.inl ⟨by rfl, ?_⟩) HX.out ?_); rotate_left
      · (intro w' hSw; obtain ⟨c0, c1, c2, c3, c4, c5, c6⟩ := HCC.out w' hSw; go_simp; try with_reducible rfl)
      (try simp only [Act.put, List.setIfInBounds_toArray, List.set_cons_zero, List.set_cons_succ])
      (refine wpAnyH_take (i := 9) (oi := { dst := some 20, op := Go.Op.fieldAddr 109 (Go.Operand.tmp 19) 1, type := 0, pos := "law.go:27", after := #[{ on := 8, ground := Go.Ground.data }], guard := none }) (v := ?_) rfl (by kernel_rfl) (by kernel_rfl) (by kernel_rfl) (fun _ _ _ h => h) (Or.inl ⟨by rfl, ?_⟩) HX.out ?_); rotate_left
      · (intro w' hSw; obtain ⟨c0, c1, c2, c3, c4, c5, c6⟩ := HCC.out w' hSw; go_simp; try with_reducible rfl)
      (try simp only [Act.put, List.setIfInBounds_toArray, List.set_cons_zero, List.set_cons_succ])
      (refine wpAnyH_take (i := 10) (oi := { dst := some 21, op := Go.Op.load 83 (Go.Operand.tmp 20), type := 83, pos := "law.go:27", after := #[{ on := 9, ground := Go.Ground.data }], guard := none }) (v := ?_) rfl (by kernel_rfl) (by kernel_rfl) (by kernel_rfl) (fun _ _ _ h => h) (Or.inl ⟨by rfl, ?_⟩) HX.out ?_); rotate_left
      · (intro w' hSw; obtain ⟨c0, c1, c2, c3, c4, c5, c6⟩ := HCC.out w' hSw; go_simp; try with_reducible rfl)
      (try simp only [Act.put, List.setIfInBounds_toArray, List.set_cons_zero, List.set_cons_succ])
      (refine wpAnyH_take (i := 11) (oi := { dst := some 22, op := Go.Op.build 85 #[(0, Go.Operand.tmp 16), (1, Go.Operand.tmp 21)], type := 85, pos := "law.go:27", after := #[{ on := 5, ground := Go.Ground.data }, { on := 10, ground := Go.Ground.data }], guard := none }) (v := ?_) rfl (by kernel_rfl) (by kernel_rfl) (by kernel_rfl) (fun _ _ _ h => h) (Or.inl ⟨by rfl, ?_⟩) HX.out ?_); rotate_left
      · (intro w' hSw; obtain ⟨c0, c1, c2, c3, c4, c5, c6⟩ := HCC.out w' hSw; go_simp; try with_reducible rfl)
      (try simp only [Act.put, List.setIfInBounds_toArray, List.set_cons_zero, List.set_cons_succ])
      refine wpAnyH_ready (rs := [12]) (by kernel_rfl) (by simp) ?_
      refine AllReadyH.cons (o := { dst := some 23, op := Go.Op.buildSlice 37 1 #[(0, Go.Operand.tmp 22)], type := 37, pos := "law.go:27", after := #[{ on := 11, ground := Go.Ground.data }], guard := none }) (by kernel_rfl) (fun K hK => ?_) AllReadyH.nil
      go_simp
      have HX := Lib.hid (show SE w (WA.alloc (.cells (cV ⟨x0, x1, x2, x3, x4, x5, x6⟩).toArray 85)) from ext_alloc HX.out _)
      refine hK.out _ _ HX.out (fun _ => ?_)
      clear hK K
      (try simp only [Act.put, List.setIfInBounds_toArray, List.set_cons_zero, List.set_cons_succ])
      refine wpAnyH_ready (rs := [13]) (by kernel_rfl) (by simp) ?_
      refine AllReadyH.cons (o := { dst := some 24, op := Go.Op.call { callee := Go.Callee.builtin Go.Builtin.append, args := #[Go.Operand.tmp 11, Go.Operand.tmp 23], argTypes := #[37, 37] }, type := 37, pos := "law.go:27", after := #[{ on := 0, ground := Go.Ground.data }, { on := 12, ground := Go.Ground.data }], guard := none }) (by kernel_rfl) (fun K hK => ?_) AllReadyH.nil
      have HSRC := Lib.hid (src_rec (P := Try.prog) (e' := 85) Try.underlying37 WA (cV ⟨x0, x1, x2, x3, x4, x5, x6⟩) rfl (by intro u hu; simp [cV] at hu; rcases hu with rfl | rfl | rfl | rfl | rfl | rfl | rfl <;> rfl) 1)
      obtain ⟨v3, w3, hrun, hO3, hG3⟩ := run_rec (P := Try.prog) (base := w.heap.size) 37 85 37 7 24 _ cV Try.underlying37 infoE rfl (by decide) vi _ (evs.take k) ⟨x0, x1, x2, x3, x4, x5, x6⟩ (HOA.out.ext (ext_alloc (Ext.rfl' WA) (.cells (cV ⟨x0, x1, x2, x3, x4, x5, x6⟩).toArray 85))) HX.out.size HSRC.out HDL.out
      have HRUN := Lib.hid hrun; have HO3 := Lib.hid hO3
      have HX := Lib.hid (show SE w w3 from ext_grown HX.out hG3 (fun q e => (World.ownsRow.lt HOA.out q e).1))
      clear hrun hO3 hG3
      refine wanted_append rfl (.tmp 11) (.tmp 23) 37 37 rfl vi _ rfl rfl HRUN.out ?_
      refine hK.out _ _ HX.out (fun _ => ?_)
      clear hK K
      (try simp only [Act.put, List.setIfInBounds_toArray, List.set_cons_zero, List.set_cons_succ])
      (refine wpAnyH_take (i := 14) (oi := { dst := some 3, op := Go.Op.assign (Go.Operand.tmp 24), type := 37, pos := "law.go:27", after := #[{ on := 13, ground := Go.Ground.data }, { on := 13, ground := Go.Ground.chain }, { on := 0, ground := Go.Ground.phase }, { on := 1, ground := Go.Ground.phase }, { on := 2, ground := Go.Ground.phase }, { on := 3, ground := Go.Ground.phase }, { on := 4, ground := Go.Ground.phase }, { on := 5, ground := Go.Ground.phase }, { on := 6, ground := Go.Ground.phase }, { on := 7, ground := Go.Ground.phase }, { on := 8, ground := Go.Ground.phase }, { on := 9, ground := Go.Ground.phase }, { on := 10, ground := Go.Ground.phase }, { on := 11, ground := Go.Ground.phase }, { on := 12, ground := Go.Ground.phase }, { on := 13, ground := Go.Ground.phase }], guard := none }) (v := ?_) rfl (by kernel_rfl) (by kernel_rfl) (by kernel_rfl) (fun _ _ _ h => h) (Or.inl ⟨by rfl, ?_⟩) HX.out ?_); rotate_left
      · (intro w' hSw; obtain ⟨c0, c1, c2, c3, c4, c5, c6⟩ := HCC.out w' hSw; go_simp; try with_reducible rfl)
      (try simp only [Act.put, List.setIfInBounds_toArray, List.set_cons_zero, List.set_cons_succ])
      refine wpAnyH_done (by kernel_rfl) ?_ _
      go_wp2_with fail
      go_roundg (gh - 1)
      case measure => omega
      case rel =>
        refine ⟨k + 1, by rw [HLEN.out]; omega, by go_num, by rw [HTK.out]; exact HO3.out, HX.out⟩
    · obtain rfl : gh = 0 := by omega
      obtain rfl : k = m := by omega
      have y2 : ¬ (k : Int) < (k : Int) := by omega
      go_wp2_with fail
      go_ret
      exact ⟨_, rfl, by have := HO.out; rwa [List.take_of_length_le (by rw [HLEN.out]; omega)] at this, HE.out⟩
end Go.Proofs.Ytlldmpcamdginaa.Log
