/- Contracts of package file: what stands around, a chunk taken, a chunk skipped, the foot. -/
import Derived.Test.YtidnboeihkeljaaGreatDoorF23
set_option maxHeartbeats 16000000
set_option maxRecDepth 100000
set_option linter.all false
open Go.ChangeShapes Go.WideShapes Go.ChangeAt Go.RowKit
namespace Go.Proofs.YtidnboeihkeljaaGreatDoor.Fil
open Wire
open Rec
open Trk (Sl Tv Tk TkV mayT encT)
open Log (Hv Ev cH cS cV mayH putL encH RSt nx va pN pI pF)
def Stp (b D : Nat) (o : Ob5) (xs : List Nat) (cs : Array Value) (next : Nat) (w : World) (e : Ending) (w' : World) : Prop := e = .returned (.tuple #[]) ∧ OW b D o xs w' cs next ∧ Kp b D w w'
theorem take_ok (b D : Nat) (o : Ob5) (xs : List Nat) (cs : Array Value) (at_ kind : Nat) (zs : List Nat) (next : Nat) (w : World) (h : OW b D o xs w cs at_) (ht : Chk.takeAt xs (at_ : Int) 2097152 = .ok kind zs next) (hz : 0 < zs.length) :
  Calls Tryz.prog 89 #[.pointer (some ⟨o.O, 0, none⟩), .int .u8 (kind : Int)] w fun e w' => ∃ g' o' c', e = .returned (.slice (some ⟨g', o', none⟩) zs.length c') ∧ Bs w' (some ⟨g', o', none⟩) zs.length zs ∧ D ≤ g' ∧ OW b D o xs w' cs next ∧ Kp b D w w' := by
 have HT := zh (fun (w' : World) (e : Ext w w') => Chk.take (some ⟨o.q, 0, none⟩) o.n o.c xs (at_ : Int) 2097152 w' (h.tab.ext e) (h.bytes.ext e) (fun h => by cases h) h.nc.1 h.nc.2.1 (by have := h.nc.2.2.2; omega))
 rw [ht] at HT
 have HW := zh h
 have HZ := zh hz
 obtain ⟨O, F, bo, bf, be, q, n, c⟩ := o
 simp only at HT ⊢
 clear h ht hz
 go_enter Tryz.func89, Tryz.ntmps89
 go_upto_region 1 with fail
 have HX := zh (HW.out.ext (ext_drew (Ext.rfl' w)))
 have HE := zh (ext_drew (Ext.rfl' w))
 have HS := zh (And.intro (HX.out.op.cell 0) (And.intro (HX.out.op.cell 1) ((HX.out.fl.cell 0).trans HX.out.cell)))
 simp only [zzD, zzE, zzF] at HS
 refine wp_region_held_drew (S := fun W => W.cell? ⟨O, 0, none⟩ = some (.pointer (some ⟨F, 0, none⟩)) ∧ W.cell? ⟨O, 1, none⟩ = some (.int .i64 (at_ : Int)) ∧ W.cell? ⟨F, 0, none⟩ = some (.slice (some ⟨q, 0, none⟩) n c)) hmxF HS.out (fun _ => ?_)
 generalize w.drew = w1 at *
 (refine tq (i := 0) (oi := ⟨some 10, .move (.tmp 0), 121, _, _, none⟩) (v := ?_) HS.out ?_ ?_); rotate_left
 ·(intro w' hSw; obtain ⟨s0, s1, s2⟩ := hSw; go_simp; try with_reducible rfl)
 (try simp only [Act.put, zzA, zzB, zzC])
 (refine tq (i := 1) (oi := ⟨some 11, .nilCheck (.tmp 10), 0, _, _, none⟩) (v := ?_) HS.out ?_ ?_); rotate_left
 ·(intro w' hSw; obtain ⟨s0, s1, s2⟩ := hSw; go_simp; try with_reducible rfl)
 (try simp only [Act.put, zzA, zzB, zzC])
 (refine tq (i := 2) (oi := ⟨some 12, .fieldAddr 124 (.tmp 11) 0, 0, _, _, none⟩) (v := ?_) HS.out ?_ ?_); rotate_left
 ·(intro w' hSw; obtain ⟨s0, s1, s2⟩ := hSw; go_simp; try with_reducible rfl)
 (try simp only [Act.put, zzA, zzB, zzC])
 (refine tq (i := 3) (oi := ⟨some 13, .load 53 (.tmp 12), 53, _, _, none⟩) (v := ?_) HS.out ?_ ?_); rotate_left
 ·(intro w' hSw; obtain ⟨s0, s1, s2⟩ := hSw; go_simp; try with_reducible rfl)
 (try simp only [Act.put, zzA, zzB, zzC])
 (refine tq (i := 4) (oi := ⟨some 14, .nilCheck (.tmp 13), 0, _, _, none⟩) (v := ?_) HS.out ?_ ?_); rotate_left
 ·(intro w' hSw; obtain ⟨s0, s1, s2⟩ := hSw; go_simp; try with_reducible rfl)
 (try simp only [Act.put, zzA, zzB, zzC])
 (refine tq (i := 5) (oi := ⟨some 15, .fieldAddr 96 (.tmp 14) 0, 0, _, _, none⟩) (v := ?_) HS.out ?_ ?_); rotate_left
 ·(intro w' hSw; obtain ⟨s0, s1, s2⟩ := hSw; go_simp; try with_reducible rfl)
 (try simp only [Act.put, zzA, zzB, zzC])
 (refine tq (i := 6) (oi := ⟨some 16, .load 48 (.tmp 15), 48, _, _, none⟩) (v := ?_) HS.out ?_ ?_); rotate_left
 ·(intro w' hSw; obtain ⟨s0, s1, s2⟩ := hSw; go_simp; try with_reducible rfl)
 (try simp only [Act.put, zzA, zzB, zzC])
 (refine tq (i := 7) (oi := ⟨some 17, .move (.tmp 0), 121, _, _, none⟩) (v := ?_) HS.out ?_ ?_); rotate_left
 ·(intro w' hSw; obtain ⟨s0, s1, s2⟩ := hSw; go_simp; try with_reducible rfl)
 (try simp only [Act.put, zzA, zzB, zzC])
 (refine tq (i := 8) (oi := ⟨some 18, .nilCheck (.tmp 17), 0, _, _, none⟩) (v := ?_) HS.out ?_ ?_); rotate_left
 ·(intro w' hSw; obtain ⟨s0, s1, s2⟩ := hSw; go_simp; try with_reducible rfl)
 (try simp only [Act.put, zzA, zzB, zzC])
 (refine tq (i := 9) (oi := ⟨some 19, .fieldAddr 124 (.tmp 18) 1, 0, _, _, none⟩) (v := ?_) HS.out ?_ ?_); rotate_left
 ·(intro w' hSw; obtain ⟨s0, s1, s2⟩ := hSw; go_simp; try with_reducible rfl)
 (try simp only [Act.put, zzA, zzB, zzC])
 (refine tq (i := 10) (oi := ⟨some 20, .load 3 (.tmp 19), 3, _, _, none⟩) (v := ?_) HS.out ?_ ?_); rotate_left
 ·(intro w' hSw; obtain ⟨s0, s1, s2⟩ := hSw; go_simp; try with_reducible rfl)
 (try simp only [Act.put, zzA, zzB, zzC])
 refine wpAnyH_ready (rs := [11]) (by kernel_rfl) (by simp) ?_
 refine AllReadyH.cons (o := ⟨some 21, .call { callee := .value (.func 78), args := #[.tmp 16, .tmp 20, .const (.int .i64 2097152)], argTypes := #[48, 3, 3] }, 143, "open.go:105", #[⟨6, .data⟩, ⟨10, .data⟩], none⟩) (by kernel_rfl) (fun K hK => ?_) AllReadyH.nil
 go_simp
 refine (HT.out _ HE.out).mono ?_
 rintro e w2 ⟨hE, A', c', rfl, hB, hfr⟩
 have hA : ∃ g' o', A' = some ⟨g', o', none⟩ := by
  obtain ⟨g', o', e, _⟩ := hB.2.2 HZ.out
  exact ⟨g', o', e⟩
 obtain ⟨g', o', rfl⟩ := hA
 have HB := zh hB
 have HD : Hid (D ≤ g') := zh (Nat.le_trans HX.out.high.2.2.2.2.2.2 (hfr HZ.out _ rfl))
 replace HX := zh (HX.out.ext hE)
 replace HE := zh (ext_trans HE.out hE)
 clear hB hfr hE
 have HS := zh (And.intro (HX.out.op.cell 0) (And.intro (HX.out.op.cell 1) ((HX.out.fl.cell 0).trans HX.out.cell)))
 simp only [zzD, zzE, zzF] at HS
 (try go_wp2_with fail)
 refine hK.out _ _ HS.out (fun _ => ?_)
 clear hK K
 (try simp only [Act.put, zzA, zzB, zzC])
 (refine tq (i := 12) (oi := ⟨some 9, .move (.tmp 21), 143, _, _, none⟩) (v := ?_) HS.out ?_ ?_); rotate_left
 ·(intro w' hSw; obtain ⟨s0, s1, s2⟩ := hSw; go_simp; try with_reducible rfl)
 (try simp only [Act.put, zzA, zzB, zzC])
 (refine tq (i := 13) (oi := ⟨some 22, .extract (.tmp 9) 0, 5, _, _, none⟩) (v := ?_) HS.out ?_ ?_); rotate_left
 ·(intro w' hSw; obtain ⟨s0, s1, s2⟩ := hSw; go_simp; try with_reducible rfl)
 (try simp only [Act.put, zzA, zzB, zzC])
 (refine tq (i := 14) (oi := ⟨some 23, .extract (.tmp 9) 1, 48, _, _, none⟩) (v := ?_) HS.out ?_ ?_); rotate_left
 ·(intro w' hSw; obtain ⟨s0, s1, s2⟩ := hSw; go_simp; try with_reducible rfl)
 (try simp only [Act.put, zzA, zzB, zzC])
 (refine tq (i := 15) (oi := ⟨some 24, .extract (.tmp 9) 2, 3, _, _, none⟩) (v := ?_) HS.out ?_ ?_); rotate_left
 ·(intro w' hSw; obtain ⟨s0, s1, s2⟩ := hSw; go_simp; try with_reducible rfl)
 (try simp only [Act.put, zzA, zzB, zzC])
 (refine tq (i := 16) (oi := ⟨some 25, .extract (.tmp 9) 3, 49, _, _, none⟩) (v := ?_) HS.out ?_ ?_); rotate_left
 ·(intro w' hSw; obtain ⟨s0, s1, s2⟩ := hSw; go_simp; try with_reducible rfl)
 (try simp only [Act.put, zzA, zzB, zzC])
 (refine tq (i := 17) (oi := ⟨some 5, .assign (.tmp 22), 5, _, _, none⟩) (v := ?_) HS.out ?_ ?_); rotate_left
 ·(intro w' hSw; obtain ⟨s0, s1, s2⟩ := hSw; go_simp; try with_reducible rfl)
 (try simp only [Act.put, zzA, zzB, zzC])
 (refine tq (i := 18) (oi := ⟨some 6, .assign (.tmp 23), 48, _, _, none⟩) (v := ?_) HS.out ?_ ?_); rotate_left
 ·(intro w' hSw; obtain ⟨s0, s1, s2⟩ := hSw; go_simp; try with_reducible rfl)
 (try simp only [Act.put, zzA, zzB, zzC])
 (refine tq (i := 19) (oi := ⟨some 7, .assign (.tmp 24), 3, _, _, none⟩) (v := ?_) HS.out ?_ ?_); rotate_left
 ·(intro w' hSw; obtain ⟨s0, s1, s2⟩ := hSw; go_simp; try with_reducible rfl)
 (try simp only [Act.put, zzA, zzB, zzC])
 (refine tq (i := 20) (oi := ⟨some 8, .assign (.tmp 25), 49, _, _, none⟩) (v := ?_) HS.out ?_ ?_); rotate_left
 ·(intro w' hSw; obtain ⟨s0, s1, s2⟩ := hSw; go_simp; try with_reducible rfl)
 (try simp only [Act.put, zzA, zzB, zzC])
 refine wpAnyH_done (by kernel_rfl) ?_ _
 have HL : Hid (zs.length = zs.length) := zh rfl
 obtain ⟨nz, hnz⟩ : ∃ q, zs.length = q := ⟨_, rfl⟩
 rw [hnz] at HB ⊢
 clear HT HS HL
 go_wp2_with fail
 refine (must_ok _ _).mono ?_
 rintro e w3 ⟨rfl, rfl⟩
 go_wp2_with fail
 refine (must_ok _ _).mono ?_
 rintro e w3 ⟨rfl, rfl⟩
 have f0 := HX.out.op.cell 1
 have f1 := HX.out.op.frozen 1
 simp only [zzD, zzE, zzF] at f0
 have HM := zh (HX.out.move next)
 have HK := zh ((Kp.ext HE.out).trans (HX.out.kmove 1 (.int .i64 (next : Int))))
 have HB2 := zh ((HX.out.kmove 1 (.int .i64 (next : Int))).bs HB.out (fun a e => by cases e; exact HD.out))
 go_wp2_with fail
 go_ret
 subst hnz
 exact ⟨_, _, _, rfl, HB2.out, HD.out, HM.out, HK.out⟩
theorem skip_ok (b D : Nat) (o : Ob5) (xs : List Nat) (cs : Array Value) (at_ kind : Nat) (hw sz : Nat) (bd : List Nat) (next : Nat) (w : World) (h : OW b D o xs w cs at_) (ht : Chk.readAt xs (at_ : Int) = .ok kind hw sz bd next) :
  Calls Tryz.prog 97 #[.pointer (some ⟨o.O, 0, none⟩), .int .u8 (kind : Int)] w (Stp b D o xs cs next w) := by
 have HT := zh (fun (w' : World) (e : Ext w w') => Chk.skip (some ⟨o.q, 0, none⟩) o.n o.c xs (at_ : Int) w' (h.tab.ext e) (h.bytes.ext e) (fun h => by cases h) h.nc.1 h.nc.2.1 (by have := h.nc.2.2.2; omega))
 rw [ht] at HT
 have HW := zh h
 obtain ⟨O, F, bo, bf, be, q, n, c⟩ := o
 simp only at HT ⊢
 clear h ht
 go_enter Tryz.func97, Tryz.ntmps97
 go_upto_region 0 with fail
 have HX := zh (HW.out.ext (ext_drew (Ext.rfl' w)))
 have HE := zh (ext_drew (Ext.rfl' w))
 have HS := zh (And.intro (HX.out.op.cell 0) (And.intro (HX.out.op.cell 1) ((HX.out.fl.cell 0).trans HX.out.cell)))
 simp only [zzD, zzE, zzF] at HS
 refine wp_region_held_drew (S := fun W => W.cell? ⟨O, 0, none⟩ = some (.pointer (some ⟨F, 0, none⟩)) ∧ W.cell? ⟨O, 1, none⟩ = some (.int .i64 (at_ : Int)) ∧ W.cell? ⟨F, 0, none⟩ = some (.slice (some ⟨q, 0, none⟩) n c)) hmxF HS.out (fun _ => ?_)
 generalize w.drew = w1 at *
 (refine tq (i := 0) (oi := ⟨some 8, .move (.tmp 0), 121, _, _, none⟩) (v := ?_) HS.out ?_ ?_); rotate_left
 ·(intro w' hSw; obtain ⟨s0, s1, s2⟩ := hSw; go_simp; try with_reducible rfl)
 (try simp only [Act.put, zzA, zzB, zzC])
 (refine tq (i := 1) (oi := ⟨some 9, .nilCheck (.tmp 8), 0, _, _, none⟩) (v := ?_) HS.out ?_ ?_); rotate_left
 ·(intro w' hSw; obtain ⟨s0, s1, s2⟩ := hSw; go_simp; try with_reducible rfl)
 (try simp only [Act.put, zzA, zzB, zzC])
 (refine tq (i := 2) (oi := ⟨some 10, .fieldAddr 124 (.tmp 9) 0, 0, _, _, none⟩) (v := ?_) HS.out ?_ ?_); rotate_left
 ·(intro w' hSw; obtain ⟨s0, s1, s2⟩ := hSw; go_simp; try with_reducible rfl)
 (try simp only [Act.put, zzA, zzB, zzC])
 (refine tq (i := 3) (oi := ⟨some 11, .load 53 (.tmp 10), 53, _, _, none⟩) (v := ?_) HS.out ?_ ?_); rotate_left
 ·(intro w' hSw; obtain ⟨s0, s1, s2⟩ := hSw; go_simp; try with_reducible rfl)
 (try simp only [Act.put, zzA, zzB, zzC])
 (refine tq (i := 4) (oi := ⟨some 12, .nilCheck (.tmp 11), 0, _, _, none⟩) (v := ?_) HS.out ?_ ?_); rotate_left
 ·(intro w' hSw; obtain ⟨s0, s1, s2⟩ := hSw; go_simp; try with_reducible rfl)
 (try simp only [Act.put, zzA, zzB, zzC])
 (refine tq (i := 5) (oi := ⟨some 13, .fieldAddr 96 (.tmp 12) 0, 0, _, _, none⟩) (v := ?_) HS.out ?_ ?_); rotate_left
 ·(intro w' hSw; obtain ⟨s0, s1, s2⟩ := hSw; go_simp; try with_reducible rfl)
 (try simp only [Act.put, zzA, zzB, zzC])
 (refine tq (i := 6) (oi := ⟨some 14, .load 48 (.tmp 13), 48, _, _, none⟩) (v := ?_) HS.out ?_ ?_); rotate_left
 ·(intro w' hSw; obtain ⟨s0, s1, s2⟩ := hSw; go_simp; try with_reducible rfl)
 (try simp only [Act.put, zzA, zzB, zzC])
 (refine tq (i := 7) (oi := ⟨some 15, .move (.tmp 0), 121, _, _, none⟩) (v := ?_) HS.out ?_ ?_); rotate_left
 ·(intro w' hSw; obtain ⟨s0, s1, s2⟩ := hSw; go_simp; try with_reducible rfl)
 (try simp only [Act.put, zzA, zzB, zzC])
 (refine tq (i := 8) (oi := ⟨some 16, .nilCheck (.tmp 15), 0, _, _, none⟩) (v := ?_) HS.out ?_ ?_); rotate_left
 ·(intro w' hSw; obtain ⟨s0, s1, s2⟩ := hSw; go_simp; try with_reducible rfl)
 (try simp only [Act.put, zzA, zzB, zzC])
 (refine tq (i := 9) (oi := ⟨some 17, .fieldAddr 124 (.tmp 16) 1, 0, _, _, none⟩) (v := ?_) HS.out ?_ ?_); rotate_left
 ·(intro w' hSw; obtain ⟨s0, s1, s2⟩ := hSw; go_simp; try with_reducible rfl)
 (try simp only [Act.put, zzA, zzB, zzC])
 (refine tq (i := 10) (oi := ⟨some 18, .load 3 (.tmp 17), 3, _, _, none⟩) (v := ?_) HS.out ?_ ?_); rotate_left
 ·(intro w' hSw; obtain ⟨s0, s1, s2⟩ := hSw; go_simp; try with_reducible rfl)
 (try simp only [Act.put, zzA, zzB, zzC])
 refine wpAnyH_ready (rs := [11]) (by kernel_rfl) (by simp) ?_
 refine AllReadyH.cons (o := ⟨some 19, .call { callee := .value (.func 123), args := #[.tmp 14, .tmp 18], argTypes := #[48, 3] }, 194, "open.go:114", #[⟨6, .data⟩, ⟨10, .data⟩], none⟩) (by kernel_rfl) (fun K hK => ?_) AllReadyH.nil
 go_simp
 refine (HT.out _ HE.out).mono ?_
 rintro e w2 ⟨hE, rfl⟩
 replace HX := zh (HX.out.ext hE)
 replace HE := zh (ext_trans HE.out hE)
 clear hE
 have HS := zh (And.intro (HX.out.op.cell 0) (And.intro (HX.out.op.cell 1) ((HX.out.fl.cell 0).trans HX.out.cell)))
 simp only [zzD, zzE, zzF] at HS
 (try go_wp2_with fail)
 refine hK.out _ _ HS.out (fun _ => ?_)
 clear hK K
 (try simp only [Act.put, zzA, zzB, zzC])
 (refine tq (i := 12) (oi := ⟨some 7, .move (.tmp 19), 194, _, _, none⟩) (v := ?_) HS.out ?_ ?_); rotate_left
 ·(intro w' hSw; obtain ⟨s0, s1, s2⟩ := hSw; go_simp; try with_reducible rfl)
 (try simp only [Act.put, zzA, zzB, zzC])
 (refine tq (i := 13) (oi := ⟨some 20, .extract (.tmp 7) 0, 5, _, _, none⟩) (v := ?_) HS.out ?_ ?_); rotate_left
 ·(intro w' hSw; obtain ⟨s0, s1, s2⟩ := hSw; go_simp; try with_reducible rfl)
 (try simp only [Act.put, zzA, zzB, zzC])
 (refine tq (i := 14) (oi := ⟨some 21, .extract (.tmp 7) 1, 3, _, _, none⟩) (v := ?_) HS.out ?_ ?_); rotate_left
 ·(intro w' hSw; obtain ⟨s0, s1, s2⟩ := hSw; go_simp; try with_reducible rfl)
 (try simp only [Act.put, zzA, zzB, zzC])
 (refine tq (i := 15) (oi := ⟨some 22, .extract (.tmp 7) 2, 49, _, _, none⟩) (v := ?_) HS.out ?_ ?_); rotate_left
 ·(intro w' hSw; obtain ⟨s0, s1, s2⟩ := hSw; go_simp; try with_reducible rfl)
 (try simp only [Act.put, zzA, zzB, zzC])
 (refine tq (i := 16) (oi := ⟨some 4, .assign (.tmp 20), 5, _, _, none⟩) (v := ?_) HS.out ?_ ?_); rotate_left
 ·(intro w' hSw; obtain ⟨s0, s1, s2⟩ := hSw; go_simp; try with_reducible rfl)
 (try simp only [Act.put, zzA, zzB, zzC])
 (refine tq (i := 17) (oi := ⟨some 5, .assign (.tmp 21), 3, _, _, none⟩) (v := ?_) HS.out ?_ ?_); rotate_left
 ·(intro w' hSw; obtain ⟨s0, s1, s2⟩ := hSw; go_simp; try with_reducible rfl)
 (try simp only [Act.put, zzA, zzB, zzC])
 (refine tq (i := 18) (oi := ⟨some 6, .assign (.tmp 22), 49, _, _, none⟩) (v := ?_) HS.out ?_ ?_); rotate_left
 ·(intro w' hSw; obtain ⟨s0, s1, s2⟩ := hSw; go_simp; try with_reducible rfl)
 (try simp only [Act.put, zzA, zzB, zzC])
 refine wpAnyH_done (by kernel_rfl) ?_ _
 clear HT HS
 go_wp2_with fail
 refine (must_ok _ _).mono ?_
 rintro e w3 ⟨rfl, rfl⟩
 go_wp2_with fail
 refine (must_ok _ _).mono ?_
 rintro e w3 ⟨rfl, rfl⟩
 have f0 := HX.out.op.cell 1
 have f1 := HX.out.op.frozen 1
 simp only [zzD, zzE, zzF] at f0
 have HM := zh (HX.out.move next)
 have HK := zh ((Kp.ext HE.out).trans (HX.out.kmove 1 (.int .i64 (next : Int))))
 go_wp2_with fail
 go_end0
 exact ⟨rfl, HM.out, HK.out⟩
end Go.Proofs.YtidnboeihkeljaaGreatDoor.Fil
