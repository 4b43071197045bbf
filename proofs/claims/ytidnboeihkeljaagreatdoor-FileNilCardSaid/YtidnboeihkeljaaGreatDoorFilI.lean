/- Contracts of package file: what stands around all chunks, and the foot. -/
import Derived.Test.YtidnboeihkeljaaGreatDoorFilH
set_option maxHeartbeats 16000000
set_option maxRecDepth 100000
set_option linter.all false
open Go.ChangeShapes Go.WideShapes Go.ChangeAt Go.RowKit
namespace Go.Proofs.YtidnboeihkeljaaGreatDoor.Fil
open Wire
open Rec
open Trk (Sl Tv Tk TkV mayT encT)
open Log (Hv Ev cH cS cV mayH putL encH RSt nx va pN pI pF)

theorem bs_drop {w : World} {b o n : Nat} {xs : List Nat} (h : Bs w (some ⟨b, o, none⟩) n xs) (p m : Nat) (hm : p + m = n) : Bs w (some ⟨b, o + p, none⟩) m (xs.drop p) := by
 refine ⟨by rw [List.length_drop, h.1]; omega, fun j => ?_, fun hp => ?_⟩
 ·rw [List.getD_eq_getElem?_getD, List.getElem?_drop, ← List.getD_eq_getElem?_getD]; exact h.2.1 _
 ·obtain ⟨b', o', e, hb, hc⟩ := h.2.2 (by omega)
  cases e
  refine ⟨b, o + p, rfl, hb, fun j hj => ?_⟩
  rw [List.getD_eq_getElem?_getD, List.getElem?_drop, ← List.getD_eq_getElem?_getD, Nat.add_assoc]
  exact hc (p + j) (by omega)
theorem fixed_any {ys : List Nat} (hl : 4 ≤ ys.length) : va pF 0 (some ys) = be (ys.take 4) := by
 simp [va, pF, hl]
theorem around_any (b D : Nat) (o : Ob5) (xs : List Nat) (cs : Array Value) (at_ : Nat) (w : World) (h : OW b D o xs w cs at_) (hm : be (xs.drop (xs.length - 4)) = Chk.crc (xs.take (xs.length - 4)) → xs.take 4 = [82, 77, 67, 72]) :
  Calls Tryz.prog 86 #[.pointer (some ⟨o.O, 0, none⟩)] w fun e w' => if be (xs.drop (xs.length - 4)) = Chk.crc (xs.take (xs.length - 4)) then Stp b D o xs cs 4 w e w' else e = .panicked [{ v := .iface 119 (.agg #[.int .i64 5]), recovered := false }] ∧ Ext w w' := by
 have HW := zh h
 have hxl : xs.length = o.n := h.bytes.1
 rw [hxl]
 obtain ⟨O, F, bo, bf, be_, q, n, c⟩ := o
 simp only at hxl ⊢
 have HNC := zh h.nc
 obtain ⟨u, hu⟩ : ∃ u, n = u + 4 := ⟨n - 4, by have := h.nc.2.2.1; simp only at this; omega⟩
 have hue : n - 4 = u := by omega
 rw [hxl, hue] at hm
 rw [hue]
 have HM := zh hm
 have hun : (n : Int) - 4 = (u : Int) := by omega
 have HU := zh hu
 have HOF := zh (fun (w' : World) (e : Ext w w') => Log.of_st (some ⟨q, u, none⟩) 4 (c - u) (xs.drop u) w' (by have := bs_drop (h.bytes.ext e) u 4 (by simp only; omega); rwa [Nat.zero_add] at this) (fun h => by cases h) (by omega))
 have HSM := zh (fun (w' : World) (e : Ext w w') => Crc.sum (some ⟨q, 0, none⟩) u c (xs.take u) w' (h.tab.ext e) ((h.bytes.ext e).take (by simp only; omega)) (by have := h.nc.2.2.2; simp only at this; omega))
 have HFV : Hid (va pF 0 (some (xs.drop u)) = be (xs.drop u) ∧ be (xs.drop u) < 4294967296) := zh (by
  have hl : (xs.drop u).length = 4 := by rw [List.length_drop, hxl]; omega
  refine ⟨?_, Chk.be_lt (fun c hc => mem_small h.bytes.2.1 c (List.mem_of_mem_drop hc)) (by omega)⟩
  rw [fixed_any (by omega), List.take_of_length_le (by omega)])
 have HCV : Hid (xs.take 4 = [82, 77, 67, 72] → ∀ (W : World) (cc : Nat), Ext w W → (convert 48 9 (.slice (some ⟨q, 0, none⟩) 4 cc)).run Tryz.prog W = .ok (.string ⟨#[82, 77, 67, 72]⟩) W) := zh (fun hm W cc e => by
  have h4 := (h.bytes.ext e).take (m := 4) (by simp only; omega)
  rw [hm] at h4
  exact h4.conv 48 5 9 Tryz.underlying48 Tryz.underlying5 Tryz.underlying9 cc)
 clear h hm hxl hue hu
 obtain ⟨hc1, hc2, hc3, hc4⟩ := HNC.out
 simp only at hc1 hc2 hc3 hc4
 have hue := HU.out
 have hwu : wrap64 (u : Int) = (u : Int) := IntWalk.wrap64_in _ (by omega)
 have hcu : ¬ c = u := by omega
 have hnu : n - u = 4 := by omega
 have y3 : (u : Int) ≤ (c : Int) := by omega
 have y4 : (4 : Int) ≤ (c : Int) := by omega
 clear hue hc1 hc2 hc3 hc4
 have y1 : (0 : Int) ≤ (u : Int) := by omega
 have y2 : (u : Int) ≤ (n : Int) := by have := HU.out; omega
 by_cases hsum : be (xs.drop u) = Chk.crc (xs.take u)
 ·simp only [if_pos hsum]
  have HM4 := zh (HM.out hsum)
  have hbt : ((be (xs.drop u) : Int) == ((Crc.moreW 0#32 (xs.take u)).toNat : Int)) = true := beq_iff_eq.2 (by rw [hsum]; rfl)
  replace hbt := zh hbt
  clear hsum
  have f0 := HW.out.op.cell 0
  have f1 := HW.out.fl.cell 0
  rw [HW.out.cell] at f1
  simp only [zzD, zzE, zzF] at f0
  go_enter Tryz.func86, Tryz.ntmps86
  go_upto_region 2 with fail
  clear f0 f1
  have HE := zh (ext_drew (Ext.rfl' w))
  have HW1 : Hid (w.heap.size = w.drew.heap.size) := zh rfl
  refine wp_region_held_drew (S := fun _ => True) hmxF trivial (fun _ => ?_)
  generalize w.drew = w1 at *
  (refine tq (i := 0) (oi := ⟨some 14, .move (.tmp 2), 48, _, _, none⟩) (v := ?_) trivial ?_ ?_); rotate_left
  ·(intro w' hSw; go_simp; try with_reducible rfl)
  (try simp only [Act.put, zzA, zzB, zzC])
  (refine tq (i := 1) (oi := ⟨some 15, .move (.tmp 3), 3, _, _, none⟩) (v := ?_) trivial ?_ ?_); rotate_left
  ·(intro w' hSw; go_simp; try with_reducible rfl)
  (try simp only [Act.put, zzA, zzB, zzC])
  (refine tq (i := 2) (oi := ⟨some 16, .slice 48 (.tmp 14) (some (.tmp 15)) none none, 48, _, _, none⟩) (v := ?_) trivial ?_ ?_); rotate_left
  ·(intro w' hSw; go_simp; try with_reducible rfl)
  (try simp only [Act.put, zzA, zzB, zzC])
  (refine tq (i := 5) (oi := ⟨some 19, .move (.tmp 2), 48, _, _, none⟩) (v := ?_) trivial ?_ ?_); rotate_left
  ·(intro w' hSw; go_simp; try with_reducible rfl)
  (try simp only [Act.put, zzA, zzB, zzC])
  (refine tq (i := 6) (oi := ⟨some 20, .move (.tmp 3), 3, _, _, none⟩) (v := ?_) trivial ?_ ?_); rotate_left
  ·(intro w' hSw; go_simp; try with_reducible rfl)
  (try simp only [Act.put, zzA, zzB, zzC])
  (refine tq (i := 7) (oi := ⟨some 21, .slice 48 (.tmp 19) none (some (.tmp 20)) none, 48, _, _, none⟩) (v := ?_) trivial ?_ ?_); rotate_left
  ·(intro w' hSw; go_simp; try with_reducible rfl)
  (try simp only [Act.put, zzA, zzB, zzC])
  refine wpAnyH_ready (rs := [3]) (by kernel_rfl) (by simp) ?_
  refine AllReadyH.cons (o := ⟨some 17, .call { callee := .value (.func 79), args := #[.tmp 16], argTypes := #[48] }, 145, "open.go:98", #[⟨2, .data⟩], none⟩) (by kernel_rfl) (fun K hK => ?_) AllReadyH.nil
  go_simp
  refine (HOF.out _ HE.out).mono ?_
  rintro e w2 ⟨g, A', c', rfl, hg, hS, hE, _⟩
  replace HE := zh (ext_trans HE.out hE)
  have HR := zh hS
  have HG := zh hg
  clear hS hE hg
  (try go_wp2_with fail)
  refine hK.out _ _ trivial (fun _ => ?_)
  clear hK K
  (try simp only [Act.put, zzA, zzB, zzC])
  refine wpAnyH_ready (rs := [4]) (by kernel_rfl) (by simp) ?_
  refine AllReadyH.cons (o := ⟨some 18, .call { callee := .value (.func 119), args := #[.tmp 17], argTypes := #[145] }, 22, "open.go:98", #[⟨3, .data⟩, ⟨3, .chain⟩], none⟩) (by kernel_rfl) (fun K hK => ?_) AllReadyH.nil
  go_simp
  refine (Log.fixed_st g 4 c' A' _ _ _ HR.out).mono ?_
  rintro e w3 ⟨rfl, _, _, hG⟩
  replace HE := zh (ext_grown HE.out hG (fun q e => by cases e; have := HG.out; have := HW1.out; omega))
  rw [HFV.out.1]
  clear hG HR
  (try go_wp2_with fail)
  refine hK.out _ _ trivial (fun _ => ?_)
  clear hK K
  (try simp only [Act.put, zzA, zzB, zzC])
  refine wpAnyH_ready (rs := [8]) (by kernel_rfl) (by simp) ?_
  refine AllReadyH.cons (o := ⟨some 22, .call { callee := .value (.func 66), args := #[.tmp 21], argTypes := #[48] }, 22, "open.go:98", #[⟨7, .data⟩, ⟨4, .chain⟩], none⟩) (by kernel_rfl) (fun K hK => ?_) AllReadyH.nil
  go_simp
  refine (HSM.out _ HE.out).mono ?_
  rintro e w4 ⟨rfl, rfl⟩
  (try go_wp2_with fail)
  refine hK.out _ _ trivial (fun _ => ?_)
  clear hK K
  (try simp only [Act.put, zzA, zzB, zzC])
  (refine tq (i := 9) (oi := ⟨some 23, .binOp .eql 22 (.tmp 18) (.tmp 22) 22, 4, _, _, none⟩) (v := ?_) trivial ?_ ?_); rotate_left
  ·(intro w' hSw; go_simp; try with_reducible rfl)
  (try simp only [Act.put, zzA, zzB, zzC])
  refine wpAnyH_ready (rs := [10]) (by kernel_rfl) (by simp) ?_
  refine AllReadyH.cons (o := ⟨some 24, .call { callee := .value (.func 52), args := #[.tmp 23, .const (.int .i64 5)], argTypes := #[4, 49] }, 0, "open.go:98", #[⟨9, .data⟩, ⟨8, .chain⟩], none⟩) (by kernel_rfl) (fun K hK => ?_) AllReadyH.nil
  go_simp
  rw [hbt.out]
  refine (must_ok _ _).mono ?_
  rintro e w5 ⟨rfl, rfl⟩
  (try go_wp2_with fail)
  refine hK.out _ _ trivial (fun _ => ?_)
  clear hK K
  (try simp only [Act.put, zzA, zzB, zzC])
  refine wpAnyH_done (by kernel_rfl) ?_ _
  have HX := zh (HW.out.ext HE.out)
  have f0 := HX.out.op.cell 1
  have f1 := HX.out.op.frozen 1
  simp only [zzD, zzE, zzF] at f0
  have hcv := fun cc => HCV.out HM4.out w3 cc HE.out
  go_wp2_with fail
  refine (must_ok _ _).mono ?_
  rintro e w5 ⟨rfl, rfl⟩
  have HMV := zh (HX.out.move 4)
  have HK := zh ((Kp.ext HE.out).trans (HX.out.kmove 1 (.int .i64 ((4 : Nat) : Int))))
  go_wp2_with fail
  go_end0
  exact ⟨rfl, HMV.out, HK.out⟩
 ·simp only [if_neg hsum]
  have hbt : ((be (xs.drop u) : Int) == ((Crc.moreW 0#32 (xs.take u)).toNat : Int)) = false := beq_eq_false_iff_ne.2 (fun h => hsum (Int.ofNat_inj.1 h))
  replace hbt := zh hbt
  clear hsum
  have f0 := HW.out.op.cell 0
  have f1 := HW.out.fl.cell 0
  rw [HW.out.cell] at f1
  simp only [zzD, zzE, zzF] at f0
  go_enter Tryz.func86, Tryz.ntmps86
  go_upto_region 2 with fail
  clear f0 f1
  have HE := zh (ext_drew (Ext.rfl' w))
  have HW1 : Hid (w.heap.size = w.drew.heap.size) := zh rfl
  refine wp_region_held_drew (S := fun _ => True) hmxF trivial (fun _ => ?_)
  generalize w.drew = w1 at *
  (refine tq (i := 0) (oi := ⟨some 14, .move (.tmp 2), 48, _, _, none⟩) (v := ?_) trivial ?_ ?_); rotate_left
  ·(intro w' hSw; go_simp; try with_reducible rfl)
  (try simp only [Act.put, zzA, zzB, zzC])
  (refine tq (i := 1) (oi := ⟨some 15, .move (.tmp 3), 3, _, _, none⟩) (v := ?_) trivial ?_ ?_); rotate_left
  ·(intro w' hSw; go_simp; try with_reducible rfl)
  (try simp only [Act.put, zzA, zzB, zzC])
  (refine tq (i := 2) (oi := ⟨some 16, .slice 48 (.tmp 14) (some (.tmp 15)) none none, 48, _, _, none⟩) (v := ?_) trivial ?_ ?_); rotate_left
  ·(intro w' hSw; go_simp; try with_reducible rfl)
  (try simp only [Act.put, zzA, zzB, zzC])
  (refine tq (i := 5) (oi := ⟨some 19, .move (.tmp 2), 48, _, _, none⟩) (v := ?_) trivial ?_ ?_); rotate_left
  ·(intro w' hSw; go_simp; try with_reducible rfl)
  (try simp only [Act.put, zzA, zzB, zzC])
  (refine tq (i := 6) (oi := ⟨some 20, .move (.tmp 3), 3, _, _, none⟩) (v := ?_) trivial ?_ ?_); rotate_left
  ·(intro w' hSw; go_simp; try with_reducible rfl)
  (try simp only [Act.put, zzA, zzB, zzC])
  (refine tq (i := 7) (oi := ⟨some 21, .slice 48 (.tmp 19) none (some (.tmp 20)) none, 48, _, _, none⟩) (v := ?_) trivial ?_ ?_); rotate_left
  ·(intro w' hSw; go_simp; try with_reducible rfl)
  (try simp only [Act.put, zzA, zzB, zzC])
  refine wpAnyH_ready (rs := [3]) (by kernel_rfl) (by simp) ?_
  refine AllReadyH.cons (o := ⟨some 17, .call { callee := .value (.func 79), args := #[.tmp 16], argTypes := #[48] }, 145, "open.go:98", #[⟨2, .data⟩], none⟩) (by kernel_rfl) (fun K hK => ?_) AllReadyH.nil
  go_simp
  refine (HOF.out _ HE.out).mono ?_
  rintro e w2 ⟨g, A', c', rfl, hg, hS, hE, _⟩
  replace HE := zh (ext_trans HE.out hE)
  have HR := zh hS
  have HG := zh hg
  clear hS hE hg
  (try go_wp2_with fail)
  refine hK.out _ _ trivial (fun _ => ?_)
  clear hK K
  (try simp only [Act.put, zzA, zzB, zzC])
  refine wpAnyH_ready (rs := [4]) (by kernel_rfl) (by simp) ?_
  refine AllReadyH.cons (o := ⟨some 18, .call { callee := .value (.func 119), args := #[.tmp 17], argTypes := #[145] }, 22, "open.go:98", #[⟨3, .data⟩, ⟨3, .chain⟩], none⟩) (by kernel_rfl) (fun K hK => ?_) AllReadyH.nil
  go_simp
  refine (Log.fixed_st g 4 c' A' _ _ _ HR.out).mono ?_
  rintro e w3 ⟨rfl, _, _, hG⟩
  replace HE := zh (ext_grown HE.out hG (fun q e => by cases e; have := HG.out; have := HW1.out; omega))
  rw [HFV.out.1]
  clear hG HR
  (try go_wp2_with fail)
  refine hK.out _ _ trivial (fun _ => ?_)
  clear hK K
  (try simp only [Act.put, zzA, zzB, zzC])
  refine wpAnyH_ready (rs := [8]) (by kernel_rfl) (by simp) ?_
  refine AllReadyH.cons (o := ⟨some 22, .call { callee := .value (.func 66), args := #[.tmp 21], argTypes := #[48] }, 22, "open.go:98", #[⟨7, .data⟩, ⟨4, .chain⟩], none⟩) (by kernel_rfl) (fun K hK => ?_) AllReadyH.nil
  go_simp
  refine (HSM.out _ HE.out).mono ?_
  rintro e w4 ⟨rfl, rfl⟩
  (try go_wp2_with fail)
  refine hK.out _ _ trivial (fun _ => ?_)
  clear hK K
  (try simp only [Act.put, zzA, zzB, zzC])
  (refine tq (i := 9) (oi := ⟨some 23, .binOp .eql 22 (.tmp 18) (.tmp 22) 22, 4, _, _, none⟩) (v := ?_) trivial ?_ ?_); rotate_left
  ·(intro w' hSw; go_simp; try with_reducible rfl)
  (try simp only [Act.put, zzA, zzB, zzC])
  refine wpAnyH_ready (rs := [10]) (by kernel_rfl) (by simp) ?_
  refine AllReadyH.cons (o := ⟨some 24, .call { callee := .value (.func 52), args := #[.tmp 23, .const (.int .i64 5)], argTypes := #[4, 49] }, 0, "open.go:98", #[⟨9, .data⟩, ⟨8, .chain⟩], none⟩) (by kernel_rfl) (fun K hK => ?_) AllReadyH.nil
  go_simp
  rw [hbt.out]
  refine (must_bad _ _).mono ?_
  rintro e w5 ⟨rfl, rfl⟩
  (try go_wp2_with fail)
  exact ⟨rfl, rfl, HE.out⟩
end Go.Proofs.YtidnboeihkeljaaGreatDoor.Fil
