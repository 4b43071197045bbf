/- Contracts of package grid: the iterator over the tiles around one. -/
import Derived.Test.YtdbjknljdplinaaGrdH
import Derived.Test.YtdbjknljdplinaaGrdA2
import Derived.Test.YtdbjknljdplinaaRngBox
import Derived.Shelf.Abstract
import Derived.Shelf.RegionOpen
import Derived.OwnWalkIn
import Derived.TacticsInMore
import Derived.LoopNIn
import Derived.LoopIn
import Derived.Sort.CutIn
namespace Go.Proofs.Ytdbjknljdplinaa.Grid
open Go.ChangeShapes Go.WideShapes Go.ChangeAt Go.RowKit Go.Shelf
set_option linter.unusedVariables false

/-- The two blocks that are read between rounds stay as they were. -/
def KpA (bm bf : Nat) (w w' : World) : Prop := w.heap.size ≤ w'.heap.size ∧ ∀ k, k = bm ∨ k = bf → k < w.heap.size → w'.heap[k]? = w.heap[k]?
theorem KpA.trans {x g : Nat} {a b c : World} (h : KpA x g a b) (k : KpA x g b c) : KpA x g a c := ⟨Nat.le_trans h.1 k.1, fun i hi hl => (k.2 i hi (Nat.lt_of_lt_of_le hl h.1)).trans (h.2 i hi hl)⟩
theorem Blk.kpA {bm bf : Nat} {w w' : World} {g : Nat} {t : TypeId} {cs : Array Value} (h : Blk w g t cs) (k : KpA bm bf w w') (hg : g = bm ∨ g = bf) : Blk w' g t cs := (k.2 g hg h.lt).trans h
def ORel (bm bf W H y F t : Nat) (T : ByteArray) (J : List Nat → World → Prop) (rv : Value) (wr : World) : Prop :=
  ∃ r : Nat, y - F ≤ r ∧ r ≤ min H (y + F + 1) ∧ rv = .int .i64 (r : Int) ∧ J (upto W t (F : Int) (r * W)) wr ∧ Blk wr bm 52 #[.int .i64 (W : Int), .int .i64 (H : Int), .string T] ∧ Blk wr bf 3 #[.int .i64 (F : Int)]
def CRel (bm bf W H x F L t r : Nat) (T : ByteArray) (J : List Nat → World → Prop) (cv : Value) (wr : World) : Prop :=
  ∃ c : Nat, x - L ≤ c ∧ c ≤ min W (x + L + 1) ∧ cv = .int .i64 (c : Int) ∧ J (upto W t (F : Int) (r * W + c)) wr ∧ Blk wr bm 52 #[.int .i64 (W : Int), .int .i64 (H : Int), .string T] ∧ Blk wr bf 3 #[.int .i64 (F : Int)]
set_option maxHeartbeats 8000000 in
set_option maxRecDepth 100000 in
theorem within1_in (n : Nat) (hn : 1 ≤ n) (l bm bt bf W H P t : Nat) (f : Int) (T : ByteArray) (J : List Nat → World → Prop) (hW : 4 ≤ W) (hW2 : W ≤ 64) (hH : 4 ≤ H) (hH2 : H ≤ 64) (hP : P = W * H) (hT : T.size = P) (ht : t < P)
    (hf1 : -9223372036854775808 ≤ f) (hf2 : f ≤ 9223372036854775807)
    (hY : ∀ pre x W1, J pre W1 → pre.length < P → YieldAt Fence.wide (n - 1) Try.prog l #[.int .i64 ((x : Nat) : Int)] W1 fun e W' => e = .returned (.bool true) ∧ J (pre ++ [x]) W' ∧ KpA bm bf W1 W')
    (hA : ∀ pre A B, J pre A → Ext A B → J pre B) (hSt : StoreAt bf J) (W0 : World) (hne : bm ≠ bf)
    (hm : Blk W0 bm 52 #[.int .i64 (W : Int), .int .i64 (H : Int), .string T]) (hbt : Blk W0 bt 3 #[.int .i64 (t : Int)]) (hbf : Blk W0 bf 3 #[.int .i64 f]) (hne2 : bt ≠ bf) (h0 : J [] W0) :
    CallsIn Fence.wide n Try.prog 73 #[.func (.yield l) #[] #[], .pointer (some ⟨bm, 0, none⟩), .pointer (some ⟨bt, 0, none⟩), .pointer (some ⟨bf, 0, none⟩)] W0 fun e W' => (∃ v, e = .returned v) ∧ ∃ xs, xs = upto W t f P ∧ J xs W' := by
  have hP2 : P ≤ 4096 := by rw [hP]; exact Nat.mul_le_mul hW2 hH2
  have HY := Lib.hid hY; have HA := Lib.hid hA; have HST := Lib.hid hSt
  have HM := Lib.hid hm; have HBT := Lib.hid hbt; have HBF := Lib.hid hbf
  have HP := Lib.hid hP
  have HON := Lib.hid (fun w1 => on_yes W H t T w1 hW (by omega) (by omega))
  have HXY := Lib.hid (fun w1 => xy_yes W H t T w1 hW hW2 (by omega) (by omega))
  have HTS := Lib.hid hT
  obtain ⟨m0, m1, m2⟩ := map_cells hm
  have t0 : W0.cell? ⟨bt, 0, none⟩ = some (.int .i64 (t : Int)) := hbt.cell 0
  have f0 : W0.cell? ⟨bf, 0, none⟩ = some (.int .i64 f) := hbf.cell 0
  have g0 := hbf.frozen 0
  have HJ0 := Lib.hid h0
  clear hY hA hSt hm hbt hbf hP hT h0
  have HUM : Hid (0 ≤ f → upto W t (min f ((W : Int) + (H : Int))) P = upto W t f P) := Lib.hid (fun _ => by rw [HP.out]; exact upto_min (by omega) (by rw [← HP.out]; exact ht))
  have hyx := Nat.mod_lt t (show 0 < W by omega)
  have hyy := div_lt' (W := W) (H := H) (u := t) (by omega) (by rw [← HP.out]; exact ht)
  have HR0 := Lib.hid (fun F r h => up_rows0 (W := W) (t := t) (F := F) (r := r) (by omega) h)
  have HR1 := Lib.hid (fun F r a b => up_rows1 (W := W) (H := H) (t := t) (F := F) (r := r) (by omega) a b)
  have HC0 := Lib.hid (fun F r c L a b d => up_col0 (W := W) (t := t) (F := F) (r := r) (c := c) (L := L) a b d)
  have HC1 := Lib.hid (fun F r c L a b d => up_col1 (W := W) (t := t) (F := F) (r := r) (c := c) (L := L) a b d)
  have HC2 := Lib.hid (fun F r c L a b d e => up_one (W := W) (t := t) (F := F) (r := r) (c := c) (L := L) a b d e)
  generalize t % W = x at *
  generalize t / W = y at *
  refine callsIn_of_wp Try.func73 rfl trivial ?_ rfl
  simp only [Try.ntmps73, List.size_toArray, List.length_cons, List.length_nil, Nat.reduceAdd, Nat.reduceSub, Array.replicate_succ, Array.replicate_zero, List.push_toArray, List.append_toArray, List.nil_append, List.cons_append]
  by_cases hneg : f < 0
  · have HR := Lib.hid (upto_neg (W := W) (t := t) (k := P) hneg)
    gi_wp2_with fail
    refine ⟨trivial, (callsIn_wide.2 (HON.out _)).mono ?_⟩
    rintro e w1 ⟨rfl, b1⟩
    have f1 := kc b1 f0
    have HJ1 := Lib.hid (HA.out _ _ _ HJ0.out b1)
    clear b1
    gi_wp2_with fail
    refine bodyPost_ret (results_none rfl _ _ _) rfl ?_
    exact ⟨⟨_, rfl⟩, [], HR.out.symm, HJ1.out⟩
  · have hpos : ¬ f < 0 := hneg
    gi_wp2_with fail
    refine ⟨trivial, (callsIn_wide.2 (HON.out _)).mono ?_⟩
    rintro e w1 ⟨rfl, b1⟩
    have HM1 := Lib.hid (HM.out.ext b1); have HBT1 := Lib.hid (HBT.out.ext b1); have HBF1 := Lib.hid (HBF.out.ext b1)
    have HJ1 := Lib.hid (HA.out _ _ _ HJ0.out b1)
    clear m0 m1 m2 t0 f0 g0 b1
    obtain ⟨m0, m1, m2⟩ := map_cells HM1.out
    have t0 : w1.cell? ⟨bt, 0, none⟩ = some (.int .i64 (t : Int)) := HBT1.out.cell 0
    have f0 : w1.cell? ⟨bf, 0, none⟩ = some (.int .i64 f) := HBF1.out.cell 0
    have g0 := HBF1.out.frozen 0
    obtain ⟨F, hF⟩ : ∃ F : Nat, F = (min f ((W : Int) + (H : Int))).toNat := ⟨_, rfl⟩
    have hFe : (if (W : Int) + (H : Int) < f then (W : Int) + (H : Int) else f) = (F : Int) := by split <;> omega
    have hF2 : F ≤ 128 := by omega
    have hFm : min f ((W : Int) + (H : Int)) = (F : Int) := by omega
    have HUF : Hid (upto W t (F : Int) P = upto W t f P) := Lib.hid (by rw [← hFm]; exact HUM.out (by omega))
    clear hFm hF
    have HFE := Lib.hid hFe
    have hf0 : (0 : Int) ≤ f := by omega
    have hdf : decide (f < 0) = false := decide_eq_false (by omega)
    gi_wp2_with fail
    have HM2 := Lib.hid (HM1.out.far hne (u := .int .i64 (F : Int)) (p := ⟨bf, 0, none⟩))
    have HBF2 := Lib.hid (HBF1.out.set_ 0 (.int .i64 (F : Int)))
    have HJ2 := Lib.hid (HST.out _ _ (.int .i64 (F : Int)) HJ1.out)
    obtain ⟨W2, hW2'⟩ : ∃ W2, W2 = w1.setCell ⟨bf, 0, none⟩ (.int .i64 (F : Int)) := ⟨_, rfl⟩
    rw [← hW2'] at HM2 HBF2 HJ2 ⊢
    clear hW2' m0 m1 m2 t0 f0 g0 hFe
    refine ⟨trivial, (callsIn_wide.2 (HXY.out _)).mono ?_⟩
    rintro e w3 ⟨rfl, b3⟩
    have HM3 := Lib.hid (HM2.out.ext b3)
    have HBF3 : Hid (Blk w3 bf 3 #[.int .i64 (F : Int)]) := Lib.hid (HBF2.out.ext b3)
    have HJ3 := Lib.hid (HA.out _ _ _ HJ2.out b3)
    obtain ⟨m0, m1, m2⟩ := map_cells HM3.out
    have f0 : w3.cell? ⟨bf, 0, none⟩ = some (.int .i64 (F : Int)) := HBF3.out.cell 0
    clear b3
    obtain ⟨r0, hr0⟩ : ∃ r0, r0 = y - F := ⟨_, rfl⟩
    have HR0Y := Lib.hid hr0
    have e3a : (if (0 : Int) < (y : Int) - (F : Int) then (y : Int) - (F : Int) else 0) = (r0 : Int) := by split <;> omega
    have e3b : (if (F : Int) < (y : Int) then (y : Int) - (F : Int) else 0) = (r0 : Int) := by split <;> omega
    have e3c : (if F < y then (y : Int) - (F : Int) else 0) = (r0 : Int) := by split <;> omega
    clear hr0
    gi_wp2_with fail
    clear e3a e3b e3c
    gi_loopw [7] (fun rv wr => ORel bm bf W H y F t T J rv wr) (fun rv _ => H - (intOf rv).toNat)
    case atStart => exact ⟨r0, by have := HR0Y.out; omega, by have := HR0Y.out; omega, rfl, by rw [HR0.out F r0 (by have := HR0Y.out; omega)]; exact HJ3.out, HM3.out, HBF3.out⟩
    case round =>
      clear HM1 HBT1 HBF1 HJ1 HM2 HBF2 HJ2 HM3 HBF3 HJ3 m0 m1 m2 f0 HM HBT HBF HJ0
      obtain ⟨r, hr1, hr2, rfl, hJ, hM, hB⟩ := hrel
      have HJ := Lib.hid hJ; have HM := Lib.hid hM; have HB := Lib.hid hB
      obtain ⟨m0, m1, m2⟩ := map_cells hM
      have f0 : wr.cell? ⟨bf, 0, none⟩ = some (.int .i64 (F : Int)) := hB.cell 0
      clear hJ hM hB
      obtain ⟨e4, he4⟩ : ∃ e4, e4 = min (H - 1) (y + F) := ⟨_, rfl⟩
      have e4a : (if (y : Int) + (F : Int) < (H : Int) - 1 then (y : Int) + (F : Int) else (H : Int) - 1) = (e4 : Int) := by split <;> omega
      by_cases hin : r ≤ e4
      · have y0 : (r : Int) ≤ (e4 : Int) := by omega
        obtain ⟨d, hd⟩ : ∃ d, d = (y - r) + (r - y) := ⟨_, rfl⟩
        have hdF : d ≤ F := by omega
        obtain ⟨L, hL⟩ : ∃ L, L = F - d := ⟨_, rfl⟩
        have hLe : (F : Int) - (d : Int) = (L : Int) := by omega
        have hLd : L + ((y - r) + (r - y)) = F := by omega
        have e6a : (if (r : Int) - (y : Int) < (y : Int) - (r : Int) then (y : Int) - (r : Int) else (r : Int) - (y : Int)) = (d : Int) := by split <;> omega
        obtain ⟨c0, hc0⟩ : ∃ c0, c0 = x - L := ⟨_, rfl⟩
        have e7a : (if (0 : Int) < (x : Int) - (L : Int) then (x : Int) - (L : Int) else 0) = (c0 : Int) := by split <;> omega
        have e7b : (if (L : Int) < (x : Int) then (x : Int) - (L : Int) else 0) = (c0 : Int) := by split <;> omega
        have e7c : (if L < x then (x : Int) - (L : Int) else 0) = (c0 : Int) := by split <;> omega
        have HLD := Lib.hid hLd
        have HC0s : Hid (upto W t (F : Int) (r * W + c0) = upto W t (F : Int) (r * W)) := Lib.hid (HC0.out F r c0 L (by omega) (by omega) hLd)
        have hLF : L ≤ 128 := by omega
        have hr64 : r < H := by omega
        have HC0X := Lib.hid hc0
        obtain ⟨q, hq⟩ : ∃ q, q = r * W := ⟨_, rfl⟩
        have hq1 : (r : Int) * (W : Int) = (q : Int) := by rw [hq]; exact (Int.natCast_mul r W).symm
        have hq2 : q + W ≤ P := by
          have := Nat.mul_le_mul_right W (show r + 1 ≤ H by omega)
          rw [Nat.add_mul, Nat.one_mul, ← hq, Nat.mul_comm H W, ← HP.out] at this
          exact this
        have HQ := Lib.hid hq
        have HE4 := Lib.hid (And.intro hin he4)
        clear hd hL hc0 hLd hq hin he4
        gi_wp2_with fail
        clear e4a e6a e7a e7b e7c m0 m1 m2 f0
        gi_loopw [9] (fun cv wr => CRel bm bf W H x F L t r T J cv wr) (fun cv _ => W - (intOf cv).toNat)
        case atStart => exact ⟨c0, by have := HC0X.out; omega, by have := HC0X.out; omega, rfl, by rw [HC0s.out]; exact HJ.out, HM.out, HB.out⟩
        case round =>
          clear HJ HM HB
          obtain ⟨c, hc1, hc2, rfl, hJ, hM, hB⟩ := hrel
          have HJ := Lib.hid hJ; have HM := Lib.hid hM; have HB := Lib.hid hB
          obtain ⟨m0, m1, m2⟩ := map_cells hM
          clear hJ hM hB
          obtain ⟨e8, he8⟩ : ∃ e8, e8 = min (W - 1) (x + L) := ⟨_, rfl⟩
          have e8a : (if (x : Int) + (L : Int) < (W : Int) - 1 then (x : Int) + (L : Int) else (W : Int) - 1) = (e8 : Int) := by split <;> omega
          by_cases hci : c ≤ e8
          · have y1 : (c : Int) ≤ (e8 : Int) := by omega
            have hqc : (q : Int) + (c : Int) = ((q + c : Nat) : Int) := by omega
            obtain ⟨z, hz⟩ : ∃ z, z = q + c := ⟨_, rfl⟩
            have hqz : (q : Int) + (c : Int) = (z : Int) := by omega
            have hzP : z < P := by omega
            have HONE : Hid (upto W t (F : Int) (r * W + (c + 1)) = upto W t (F : Int) (r * W + c) ++ [z]) := Lib.hid (by
              rw [HC2.out F r c L (by omega) (by omega) (by omega) HLD.out, hz, HQ.out])
            have hpl : (upto W t (F : Int) (r * W + c)).length < P := by
              have := upto_len W t (F : Int) (r * W + c)
              rw [← HQ.out] at this ⊢
              omega
            obtain ⟨fn, tmps, assign, body, hy, hR⟩ := HY.out _ z wr HJ.out hpl
            have HR := Lib.hid hR
            have HCE := Lib.hid (And.intro hci he8)
            clear hR hz hqc hpl he8 hci
            gi_wp2_with fail
            refine HR.out.mono ?_
            rintro e W3 ⟨rfl, hJ3, hk3⟩
            have HM3 := Lib.hid (Blk.kpA HM.out hk3 (.inl rfl))
            have HB3 := Lib.hid (Blk.kpA HB.out hk3 (.inr rfl))
            have HJ3 := Lib.hid hJ3
            clear hJ3 hk3 hy
            gi_wp2_with fail
            go_roundw
            case rel => exact ⟨c + 1, by omega, by have := HCE.out; omega, by go_num, by rw [HONE.out]; exact HJ3.out, HM3.out, HB3.out⟩
            case measure => simp [intOf]; omega
          · have y1 : ¬ (c : Int) ≤ (e8 : Int) := by omega
            have HNX : Hid (upto W t (F : Int) ((r + 1) * W) = upto W t (F : Int) (r * W + c)) := Lib.hid (HC1.out F r c L (by omega) (by omega) HLD.out)
            clear he8 hci
            gi_wp2_with fail
            go_roundw
            case rel => exact ⟨r + 1, by omega, by have := HE4.out; omega, by go_num, by rw [HNX.out]; exact HJ.out, HM.out, HB.out⟩
            case measure => simp [intOf]; omega
      · have y0 : ¬ (r : Int) ≤ (e4 : Int) := by omega
        have HEND : Hid (upto W t f P = upto W t (F : Int) (r * W)) := Lib.hid (by
          rw [← HUF.out, HP.out, Nat.mul_comm W H]
          exact HR1.out F r (by omega) (by omega))
        clear he4 hin
        gi_wp2_with fail
        refine bodyPost_end (results_none rfl _ _ _) rfl ?_
        rw [HEND.out]
        exact ⟨⟨_, rfl⟩, HJ.out⟩
end Go.Proofs.Ytdbjknljdplinaa.Grid
