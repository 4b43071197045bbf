/- Slices of bytes that read as a list; texts of bytes; rows of the call's own read so. -/
import Derived.Test.YtdbjknljdplinaaApp
import Derived.Laws.BytesArg
import Derived.OpenShut
namespace Go.Proofs.Ytdbjknljdplinaa
open Go.ChangeShapes Go.WideShapes Go.ChangeAt Go.RowKit
set_option linter.unusedVariables false
/-- A slice reads as these bytes. -/
def Bs (w : World) (A : Option Addr) (n : Nat) (xs : List Nat) : Prop :=
  xs.length = n ∧ (∀ j, xs.getD j 0 < 256) ∧ (0 < n → ∃ b o, A = some ⟨b, o, none⟩ ∧ b < w.heap.size ∧ ∀ j, j < n → w.cell? ⟨b, o + j, none⟩ = some (.int .u8 (xs.getD j 0 : Nat)))
def c8 (ys : List Nat) : List Value := ys.map fun (y : Nat) => Value.int .u8 (y : Int)
theorem c8_len (ys : List Nat) : (c8 ys).length = ys.length := by simp [c8]
theorem c8_app (xs ys : List Nat) : c8 (xs ++ ys) = c8 xs ++ c8 ys := by simp [c8]
theorem c8_one (ys : List Nat) : ∀ u ∈ c8 ys, u.oneCell' = true := fun u hu => by
  obtain ⟨_, _, rfl⟩ := List.mem_map.1 hu; rfl
theorem c8_get {ys : List Nat} {j : Nat} {u : Value} (h : (c8 ys)[j]? = some u) : j < ys.length ∧ u = .int .u8 (ys.getD j 0 : Nat) := by
  unfold c8 at h
  rw [List.getElem?_map, Option.map_eq_some_iff] at h
  obtain ⟨y, hy, rfl⟩ := h
  have hj := (List.getElem?_eq_some_iff.1 hy).1
  exact ⟨hj, by rw [List.getD_eq_getElem?_getD, hy]; rfl⟩
theorem c8_at {ys : List Nat} {j : Nat} (h : j < ys.length) : (c8 ys)[j]? = some (.int .u8 (ys.getD j 0 : Nat)) := by
  unfold c8
  rw [List.getElem?_map, List.getElem?_eq_getElem h, List.getD_eq_getElem?_getD, List.getElem?_eq_getElem h]; rfl
theorem small_app {xs ys : List Nat} (hx : ∀ j, xs.getD j 0 < 256) (hy : ∀ j, ys.getD j 0 < 256) : ∀ j, (xs ++ ys).getD j 0 < 256 := fun j => by
  rw [List.getD_eq_getElem?_getD, List.getElem?_append]
  split
  · rw [← List.getD_eq_getElem?_getD]; exact hx j
  · rw [← List.getD_eq_getElem?_getD]; exact hy _
theorem small_mem {xs : List Nat} (h : ∀ c ∈ xs, c < 256) : ∀ j, xs.getD j 0 < 256 := fun j => by
  rw [List.getD_eq_getElem?_getD]
  by_cases hj : j < xs.length
  · rw [List.getElem?_eq_getElem hj]; exact h _ (List.getElem_mem hj)
  · rw [List.getElem?_eq_none (by omega)]; simp
theorem mem_small {xs : List Nat} (h : ∀ j, xs.getD j 0 < 256) : ∀ c ∈ xs, c < 256 := fun c hc => by
  obtain ⟨j, hj, rfl⟩ := List.getElem_of_mem hc
  have := h j
  rwa [List.getD_eq_getElem?_getD, List.getElem?_eq_getElem hj] at this
section
variable {w w' : World} {A : Option Addr} {n : Nat} {xs : List Nat}
theorem Bs.ext (h : Bs w A n xs) (hb : Ext w w') : Bs w' A n xs :=
  ⟨h.1, h.2.1, fun hn => by
    obtain ⟨b, o, e, hl, hc⟩ := h.2.2 hn
    exact ⟨b, o, e, Nat.lt_of_lt_of_le hl hb.size, fun j hj => (hb.cell (p := ⟨b, o + j, none⟩) hl).trans (hc j hj)⟩⟩
theorem Bs.kept (h : Bs w A n xs) {row : Option Nat} (hg : w.grownBy w' row) (hne : ∀ a, A = some a → some a.block ≠ row) : Bs w' A n xs :=
  ⟨h.1, h.2.1, fun hn => by
    obtain ⟨b, o, e, hl, hc⟩ := h.2.2 hn
    exact ⟨b, o, e, Nat.lt_of_lt_of_le hl hg.size, fun j hj => hg.cell (hc j hj) (by have := hne _ e; exact this)⟩⟩
theorem Bs.none (w : World) (A : Option Addr) : Bs w A 0 [] := ⟨rfl, fun j => by simp, fun h => absurd h (by omega)⟩
theorem Bs.take (h : Bs w A n xs) {m : Nat} (hm : m ≤ n) : Bs w A m (xs.take m) := by
  have g : ∀ j, j < m → (xs.take m).getD j 0 = xs.getD j 0 := fun j hj => by simp [List.getD_eq_getElem?_getD, hj]
  refine ⟨by rw [List.length_take, h.1]; omega, fun j => ?_, fun hn => ?_⟩
  · by_cases hj : j < m
    · rw [g j hj]; exact h.2.1 j
    · rw [List.getD_eq_getElem?_getD, List.getElem?_eq_none (by rw [List.length_take]; omega)]; simp
  · obtain ⟨b, o, e, hl, hc⟩ := h.2.2 (by omega)
    exact ⟨b, o, e, hl, fun j hj => by rw [hc j (by omega), g j hj]⟩
/-- A row of the call's own, read. -/
theorem Bs.own {base : Nat} {e : TypeId} {c : Nat} (h : w.ownsRow base e 1 (.slice A n c) n (c8 xs)) (hx : ∀ j, xs.getD j 0 < 256) : Bs w A n xs := by
  have hl : xs.length = n := by have := h.1; rwa [c8_len, Nat.mul_one] at this
  refine ⟨hl, hx, fun hn => ?_⟩
  rcases h.2 with ⟨_, rfl⟩ | ⟨g, cap, cur, h1, _⟩
  · omega
  · obtain ⟨rfl, _, rfl⟩ := Value.slice.inj h1
    refine ⟨g, 0, rfl, (h.lt g rfl).2, fun j hj => ?_⟩
    have := h.cellAt j (by omega)
    rw [Nat.zero_add, this, c8_at (by omega)]
/-- What a slice yields to an append. -/
theorem Bs.src {P : Program} {tx e' : TypeId} (h : Bs w A n xs) (hk : P.underlying tx = some (.slice e')) (c : Nat) : Src P 1 tx (.slice A n c) n (c8 xs) w := by
  rcases Nat.eq_zero_or_pos n with rfl | hp
  · have : xs = [] := List.eq_nil_of_length_eq_zero h.1
    subst this
    rcases A with _ | a
    · exact Src.ofNil w hk c
    · exact Src.ofSlice w hk a 0 c [] (by simp) (fun j u hu => by simp at hu) (fun u hu => by cases hu)
  · obtain ⟨b, o, rfl, _, hc⟩ := h.2.2 hp
    refine Src.ofSlice w hk _ n c (c8 xs) (by rw [c8_len, h.1, Nat.mul_one]) (fun j u hu => ?_) (c8_one xs)
    obtain ⟨hj, rfl⟩ := c8_get hu
    have hadd : (⟨b, o, Option.none⟩ : Addr).add j = ⟨b, o + j, Option.none⟩ := by unfold Addr.add; split <;> simp_all
    rw [hadd]
    exact hc j (by rw [h.1] at hj; exact hj)
theorem Bs.first {P : Program} (h : Bs w A n xs) (c : Nat) : (Builtin.firstCells 1 n (.slice A n c)).run P w.drew = .ok (c8 xs).toArray w.drew := by
  rcases Nat.eq_zero_or_pos n with rfl | hp
  · have : xs = [] := List.eq_nil_of_length_eq_zero h.1
    subst this
    rcases A with _ | a
    · exact run_firstCells_none w.drew 1 0 0 c
    · exact run_firstCells_some w.drew 1 0 _ _ _ [] (by simp) (fun j u hu => by simp at hu)
  · obtain ⟨b, o, rfl, _, hc⟩ := h.2.2 hp
    refine run_firstCells_some w.drew 1 n _ _ _ _ (by rw [c8_len, h.1, Nat.mul_one]) (fun j u hu => ?_)
    obtain ⟨hj, rfl⟩ := c8_get hu
    have hadd : (⟨b, o, Option.none⟩ : Addr).add j = ⟨b, o + j, Option.none⟩ := by unfold Addr.add; split <;> simp_all
    rw [hadd]
    have := hc j (by rw [h.1] at hj; exact hj)
    simpa using this
/-- Bytes as a text. -/
def strOf (xs : List Nat) : ByteArray := ⟨(xs.map UInt8.ofNat).toArray⟩
theorem strOf_nums (xs : List Nat) : strOfNums (xs.map fun (x : Nat) => (x : Int)) = strOf xs := by
  unfold strOfNums strOf
  rw [List.map_map]; rfl
theorem strOf_nil : strOf [] = ByteArray.empty := rfl
theorem strOf_app (xs ys : List Nat) : strOf (xs ++ ys) = strOf xs ++ strOf ys := by
  apply ByteArray.ext
  rw [ByteArray.data_append]
  simp [strOf]
theorem strOf_size (xs : List Nat) : (strOf xs).size = xs.length := by simp [strOf, ByteArray.size]
theorem str_ne {a b : ByteArray} (h : a ≠ b) : ¬ a.toList = b.toList := fun e => h (by
  rw [ByteArray.toList_eq, ByteArray.toList_eq] at e
  exact ByteArray.ext (Array.ext' e))
theorem strOf_inj {xs ys : List Nat} (hx : ∀ j, xs.getD j 0 < 256) (hy : ∀ j, ys.getD j 0 < 256) (h : strOf xs = strOf ys) : xs = ys := by
  have h1 : xs.map UInt8.ofNat = ys.map UInt8.ofNat := by
    have := congrArg (fun s => s.data.toList) h
    simpa [strOf] using this
  have h2 := congrArg (List.map UInt8.toNat) h1
  have key : ∀ zs : List Nat, (∀ j, zs.getD j 0 < 256) → (zs.map UInt8.ofNat).map UInt8.toNat = zs := fun zs hz => by
    rw [List.map_map]
    conv => rhs; rw [← List.map_id zs]
    refine List.map_congr_left fun c hc => ?_
    have := mem_small hz c hc
    show (UInt8.ofNat c).toNat = c
    rw [UInt8.toNat_ofNat', Nat.mod_eq_of_lt this]
  rwa [key xs hx, key ys hy] at h2
theorem Bs.conv {P : Program} (h : Bs w A n xs) (src e dst : TypeId) (hs : P.underlying src = some (.slice e)) (he : P.underlying e = some (.int .u8)) (hd : P.underlying dst = some .string) (c : Nat) :
    (convert src dst (.slice A n c)).run P w = .ok (.string (strOf xs)) w := by
  rcases Nat.eq_zero_or_pos n with rfl | hp
  · have : xs = [] := List.eq_nil_of_length_eq_zero h.1
    subst this
    rcases A with _ | a
    · exact run_convert_bytes_nil w src e hs he 0 c dst hd
    · have := run_convert_bytes_back w src dst e a c [] hs he hd (fun j hj => absurd hj (by simp))
      exact this
  · obtain ⟨b, o, rfl, _, hc⟩ := h.2.2 hp
    have := run_convert_bytes_arg (P := P) w src e hs he b o n c (xs.map fun (x : Nat) => (x : Int)) (by rw [List.length_map]; exact h.1) (fun i hi => by
      have hl := h.1
      rw [hc i hi, List.getD_eq_getElem?_getD, List.getD_eq_getElem?_getD, List.getElem?_map, List.getElem?_eq_getElem (by omega)]; rfl) dst hd
    rwa [strOf_nums] at this
/-- A text's bytes. -/
def natsOf (s : ByteArray) : List Nat := s.data.toList.map UInt8.toNat
theorem natsOf_small (s : ByteArray) : ∀ j, (natsOf s).getD j 0 < 256 := small_mem fun c hc => by
  obtain ⟨b, _, rfl⟩ := List.mem_map.1 hc
  exact b.toNat_lt
theorem natsOf_len (s : ByteArray) : (natsOf s).length = s.size := by
  unfold natsOf
  rw [List.length_map, Array.length_toList]; rfl
theorem byteCells_eq (s : ByteArray) : byteCells s = c8 (natsOf s) := by
  unfold byteCells c8 natsOf
  rw [List.map_map]; rfl
theorem strOf_nats (s : ByteArray) : strOf (natsOf s) = s := by
  apply ByteArray.ext
  unfold strOf natsOf
  rw [List.map_map]
  have : (UInt8.ofNat ∘ UInt8.toNat) = id := by funext b; simp
  rw [this, List.map_id]
theorem nats_strOf {xs : List Nat} (hx : ∀ j, xs.getD j 0 < 256) : natsOf (strOf xs) = xs :=
  strOf_inj (natsOf_small _) hx (strOf_nats _)
end
/-- A slice of bytes that came in. -/
def IsRow (w : World) (a : Option Addr) (len cap : Nat) (zs : List Int) : Prop :=
  (a = none ∧ len = 0 ∧ cap = 0 ∧ zs = []) ∨
  ∃ x, a = some x ∧ len ≤ cap ∧ cap ≤ maxLen ∧ zs.length = cap ∧ (∀ i, i < zs.length → w.cell? (x.add i) = some (.int .u8 (zs.getD i 0))) ∧ ∀ n ∈ zs, (Lit.int .u8 n).wf = true
theorem bs_of_row {w : World} {a : Option Addr} {len cap : Nat} {zs : List Int} (h : IsRow w a len cap zs) : ∃ xs, Bs w a len xs := by
  rcases h with ⟨rfl, rfl, rfl, rfl⟩ | ⟨x, rfl, hl, hm, hz, hcell, hwz⟩
  · exact ⟨[], Bs.none w none⟩
  · have bd : ∀ j, 0 ≤ zs.getD j 0 ∧ zs.getD j 0 ≤ 255 := fun j => by
      rw [List.getD_eq_getElem?_getD]
      by_cases hj : j < zs.length
      · rw [List.getElem?_eq_getElem hj]
        have := bounds_u8 (hwz _ (List.getElem_mem hj))
        simp only [Option.getD_some]; omega
      · rw [List.getElem?_eq_none (by omega)]; simp
    have gd : ∀ j, j < len → ((zs.take len).map Int.toNat).getD j 0 = (zs.getD j 0).toNat := fun j hj => by
      simp [List.getD_eq_getElem?_getD, hj, List.getElem?_eq_getElem (show j < zs.length by omega)]
    refine ⟨(zs.take len).map Int.toNat, by simp; omega, fun j => ?_, fun hn => ?_⟩
    · by_cases hj : j < len
      · rw [gd j hj]; have := bd j; omega
      · rw [List.getD_eq_getElem?_getD, List.getElem?_eq_none (by simp; omega)]; simp
    · obtain ⟨b, o, spot⟩ := x
      have hspot : spot = none := by
        have := hcell 0 (by omega)
        simpa [Addr.add] using World.cell?_spot this
      subst hspot
      have hadd : ∀ j, (⟨b, o, none⟩ : Addr).add j = ⟨b, o + j, none⟩ := fun j => by unfold Addr.add; split <;> simp_all
      have c0 := hcell 0 (by omega)
      rw [hadd] at c0
      refine ⟨b, o, rfl, World.block_lt_of_cell? w _ c0, fun j hj => ?_⟩
      have := hcell j (by omega)
      rw [hadd] at this
      rw [this, gd j hj, Int.toNat_of_nonneg (bd j).1]
theorem IsRow.nil {w : World} {a : Option Addr} {len cap : Nat} {zs : List Int} (h : IsRow w a len cap zs) : a = none → len = 0 ∧ cap = 0 := fun e => by
  rcases h with ⟨_, h1, h2, _⟩ | ⟨x, hx, _⟩
  · exact ⟨h1, h2⟩
  · rw [e] at hx; cases hx
theorem IsRow.bounds {w : World} {a : Option Addr} {len cap : Nat} {zs : List Int} (h : IsRow w a len cap zs) : len ≤ cap ∧ cap ≤ 9223372036854775807 := by
  rcases h with ⟨_, rfl, rfl, _⟩ | ⟨_, _, hl, hm, _⟩
  · omega
  · unfold maxLen at hm; omega
end Go.Proofs.Ytdbjknljdplinaa
