/- The known sums. -/
import Derived.Test.YtodmjkhfckokhaaDoorCrcC
import Derived.Lib.SlBytesConst
namespace Go.Proofs.YtodmjkhfckokhaaDoor.Crc
open Go.ChangeShapes Go.WideShapes Go.ChangeAt Go.RowKit
set_option linter.unusedVariables false

theorem rd_new (w : World) (t : TypeId) (fr : Nat × Nat) (xs : List Nat) (hb : ∀ j, xs.getD j 0 < 256) : Rd (w.alloc (.cells ((xs.map fun x => Value.int .u8 (x : Nat)).toArray) t fr)) (some ⟨w.heap.size, 0, none⟩) xs.length xs :=
  ⟨rfl, hb, fun _ => ⟨w.heap.size, 0, rfl, by simp, fun j hj => by
    rw [Nat.zero_add, World.cell?_alloc_mark]
    simp [List.getD_eq_getElem?_getD, List.getElem?_eq_getElem hj]⟩⟩
theorem small_of {xs : List Nat} (h : xs.all (fun x => decide (x < 256)) = true) (j : Nat) : xs.getD j 0 < 256 := by
  rw [List.getD_eq_getElem?_getD]
  by_cases hj : j < xs.length
  · rw [List.getElem?_eq_getElem hj]
    have := List.all_eq_true.1 h _ (List.getElem_mem hj)
    simpa using this
  · rw [List.getElem?_eq_none (by omega)]; simp
theorem sum_at {A : Option Addr} {n c : Nat} {v : Int} (xs : List Nat) (w : World) (hT : Tab w) (h : Rd w A n xs) (hn : n ≤ 4000000000) (hv : ((moreW 0#32 xs).toNat : Int) = v) :
    Calls Tryd.prog 6 #[.slice A n c] w fun e w' => e = .returned (.int .u32 v) ∧ w = w' := by
  subst hv; exact sum A n c xs w hT h hn
theorem more_at {A : Option Addr} {n c : Nat} {u v : Int} (s : BitVec 32) (xs : List Nat) (w : World) (hT : Tab w) (h : Rd w A n xs) (hn : n ≤ 4000000000) (hu : (s.toNat : Int) = u) (hv : ((moreW s xs).toNat : Int) = v) :
    Calls Tryd.prog 8 #[.int .u32 u, .slice A n c] w fun e w' => e = .returned (.int .u32 v) ∧ w = w' := by
  subst hu hv; exact more s A n c xs w hT h hn
theorem rd_nil (w : World) : Rd w none 0 [] := ⟨rfl, fun j => by simp, fun h => absurd h (by omega)⟩
theorem conv1 (w : World) (o : Obj) (C : Array Value) (n c : Nat) : (convert 22 22 (.slice (some ⟨w.heap.size + 1, 0, none⟩) n c)).run Tryd.prog ((w.alloc o).alloc (.cells C 5)) = .ok (.slice (some ⟨w.heap.size + 1, 0, none⟩) n c) ((w.alloc o).alloc (.cells C 5 (C.size, C.size + 1))) := by
  have h := Lib.run_convert_bytes_const (P := Tryd.prog) (w.alloc o) 22 5 C n c Tryd.underlying22 Tryd.underlying5
  rwa [World.size_alloc] at h
theorem conv2 (w : World) (o o2 : Obj) (C : Array Value) (n c : Nat) : (convert 22 22 (.slice (some ⟨w.heap.size + 1 + 1, 0, none⟩) n c)).run Tryd.prog (((w.alloc o).alloc o2).alloc (.cells C 5)) = .ok (.slice (some ⟨w.heap.size + 1 + 1, 0, none⟩) n c) (((w.alloc o).alloc o2).alloc (.cells C 5 (C.size, C.size + 1))) := by
  have h := conv1 (w.alloc o) o2 C n c
  rwa [World.size_alloc] at h
theorem rd_new1 (w : World) (o : Obj) (t : TypeId) (fr : Nat × Nat) (xs : List Nat) (hb : ∀ j, xs.getD j 0 < 256) : Rd ((w.alloc o).alloc (.cells ((xs.map fun x => Value.int .u8 (x : Nat)).toArray) t fr)) (some ⟨w.heap.size + 1, 0, none⟩) xs.length xs := by
  have h := rd_new (w.alloc o) t fr xs hb
  rwa [World.size_alloc] at h
theorem rd_new2 (w : World) (o o2 : Obj) (t : TypeId) (fr : Nat × Nat) (xs : List Nat) (hb : ∀ j, xs.getD j 0 < 256) : Rd (((w.alloc o).alloc o2).alloc (.cells ((xs.map fun x => Value.int .u8 (x : Nat)).toArray) t fr)) (some ⟨w.heap.size + 1 + 1, 0, none⟩) xs.length xs := by
  have h := rd_new1 (w.alloc o) o2 t fr xs hb
  rwa [World.size_alloc] at h
set_option maxHeartbeats 1000000 in
theorem wakes (w : World) (h : Tab w) : Calls Tryd.prog 5 #[] w fun e w' => e = .returned (.bool true) ∧ Ext w w' := by
  have H := Lib.hid h; clear h
  have kcv := fun (w : World) (C : Array Value) (n c : Nat) => Lib.run_convert_bytes_const (P := Tryd.prog) w 22 5 C n c Tryd.underlying22 Tryd.underlying5
  have kcv1 := conv1
  have kcv2 := conv2
  go_enter Tryd.func5, Tryd.ntmps5
  go_wp2_with fail
  refine (sum_at (n := 9) (v := 3421780262) [49, 50, 51, 52, 53, 54, 55, 56, 57] _ (H.out.ext (ext_alloc (Ext.rfl' _) _)) (rd_new w 5 (9, 10) [49, 50, 51, 52, 53, 54, 55, 56, 57] (small_of (by decide))) (by omega) (by decide +kernel)).mono ?_
  rintro e w1 ⟨rfl, rfl⟩
  go_wp2_with fail
  refine (sum_at (v := 0) [] _ (H.out.ext (ext_alloc (Ext.rfl' _) _)) (rd_nil _) (by omega) (by decide +kernel)).mono ?_
  rintro e w1 ⟨rfl, rfl⟩
  go_wp2_with fail
  refine (sum_at (n := 4) (v := 2615402659) [49, 50, 51, 52] _ (H.out.ext (ext_alloc (ext_alloc (Ext.rfl' _) _) _)) (rd_new1 w _ 5 (4, 5) [49, 50, 51, 52] (small_of (by decide))) (by omega) (by decide +kernel)).mono ?_
  rintro e w1 ⟨rfl, rfl⟩
  go_wp2_with fail
  refine (more_at (n := 5) (v := 3421780262) (BitVec.ofNat 32 2615402659) [53, 54, 55, 56, 57] _ (H.out.ext (ext_alloc (ext_alloc (ext_alloc (Ext.rfl' _) _) _) _)) (rd_new2 w _ _ 5 (5, 6) [53, 54, 55, 56, 57] (small_of (by decide))) (by omega) (by decide +kernel) (by decide +kernel)).mono ?_
  rintro e w1 ⟨rfl, rfl⟩
  go_wp2_with fail
  go_ret
  exact ⟨rfl, ext_alloc (ext_alloc (ext_alloc (Ext.rfl' _) _) _) _⟩
end Go.Proofs.YtodmjkhfckokhaaDoor.Crc
