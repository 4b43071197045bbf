
import Derived.Test.YtidnboeihkeljaaGreatDoorFilN
set_option maxHeartbeats 16000000
set_option maxRecDepth 100000
set_option linter.all false
open Go.ChangeShapes Go.WideShapes Go.ChangeAt Go.RowKit
namespace Go.Proofs.YtidnboeihkeljaaGreatDoor.Fil
open Wire
open Rec
open Trk (Sl Tv Tk TkV mayT encT takeT)
open Log (Hv Ev En cH cS cV mayH putL encH)

theorem FV.ext {w w' : World} {f : Nat} {xs : List Nat} {r : Rc} {b3 b4 iA : Nat} (h : FV w f xs r b3 b4 iA) (e : Ext w w') : FV w' f xs r b3 b4 iA := by
 obtain ⟨o, A, c, Al, cl, t, Ap, cp, h1, h2, h3, h4, h5, h6, h7, h8, h9, h10, h11, h12, h13, h14, h15, h16⟩ := h.ex
 exact ⟨⟨o, A, c, Al, cl, t, Ap, cp, h1, h2.ext e, h3.ext e, h4, h5, h6.ext e, h7, h8, h9, h10.ext e, h11, h12, h13, h14.ext e, h15.ext e, h16⟩⟩
theorem FV.rd {w : World} {f : Nat} {xs : List Nat} {r : Rc} {b3 b4 iA : Nat} (h : FV w f xs r b3 b4 iA) : ∃ q n c Ap cp, w.cell? ⟨f, 0, none⟩ = some (.slice (some ⟨q, 0, none⟩) n c) ∧ w.cell? ⟨f, 9, none⟩ = some (.int .i64 r.K) ∧ w.cell? ⟨f, 18, none⟩ = some (.slice Ap r.fs.length cp) ∧
  Bs w (some ⟨q, 0, none⟩) n xs ∧ n ≤ c ∧ c ≤ 9223372036854775807 ∧ RowR w Ap r.fs.length 1 cN (plc r.K.toNat b4 r.fs) ∧ f < w.heap.size := by
 obtain ⟨o, A, c, Al, cl, t, Ap, cp, h1, h2, h3, h4, h5, h6, h7, h8, h9, h10, h11, h12, h13, h14, h15, h16⟩ := h.ex
 exact ⟨o.q, o.n, o.c, Ap, cp, h2.cell 0, h2.cell 9, h2.cell 18, h3, h4, h5, h15, h2.lt⟩
theorem has_nil (t : Int) (w : World) : Calls Tryz.prog 45 #[.pointer none, .int .i64 t] w fun e w' => e = .returned (.int .i64 1) ∧ w = w' := by
 go_enter Tryz.func45, Tryz.ntmps45
 go_wp2_with fail
 go_ret
 exact ⟨rfl, rfl⟩
theorem has_in (f : Nat) (xs : List Nat) (r : Rc) (b3 b4 iA t : Nat) (w : World) (h : FV w f xs r b3 b4 iA) (ht : t < r.fs.length) : Calls Tryz.prog 45 #[.pointer (some ⟨f, 0, none⟩), .int .i64 (t : Int)] w fun e w' => e = .returned (.int .i64 0) ∧ w = w' := by
 obtain ⟨q, n, c, Ap, cp, c0, c9, c18, _⟩ := h.rd
 have y1 : ¬ (t : Int) < 0 := by omega
 have y2 : ¬ (r.fs.length : Int) ≤ (t : Int) := by omega
 clear h ht
 generalize r.fs.length = m at *
 go_enter Tryz.func45, Tryz.ntmps45
 go_wp2_with fail
 go_ret
 exact ⟨rfl, rfl⟩
theorem has_out (f : Nat) (xs : List Nat) (r : Rc) (b3 b4 iA t : Nat) (w : World) (h : FV w f xs r b3 b4 iA) (ht : r.fs.length ≤ t) : Calls Tryz.prog 45 #[.pointer (some ⟨f, 0, none⟩), .int .i64 (t : Int)] w fun e w' => e = .returned (.int .i64 8) ∧ w = w' := by
 obtain ⟨q, n, c, Ap, cp, c0, c9, c18, _⟩ := h.rd
 have y1 : ¬ (t : Int) < 0 := by omega
 have y2 : (r.fs.length : Int) ≤ (t : Int) := by omega
 clear h ht
 generalize r.fs.length = m at *
 go_enter Tryz.func45, Tryz.ntmps45
 go_wp2_with fail
 go_ret
 exact ⟨rfl, rfl⟩
theorem size_st (f : Nat) (xs : List Nat) (r : Rc) (b3 b4 iA : Nat) (w : World) (h : FV w f xs r b3 b4 iA) : Calls Tryz.prog 17 #[.pointer (some ⟨f, 0, none⟩)] w fun e w' => e = .returned (.int .i64 (xs.length : Int)) ∧ w = w' := by
 obtain ⟨q, n, c, Ap, cp, c0, c9, c18, hB, _⟩ := h.rd
 rw [hB.1]
 clear h hB
 go_enter Tryz.func17, Tryz.ntmps17
 go_wp2_with fail
 go_ret
 exact ⟨rfl, rfl⟩
theorem size_nil (w : World) : Calls Tryz.prog 17 #[.pointer none] w fun e w' => e = .returned (.int .i64 0) ∧ w = w' := by
 go_enter Tryz.func17, Tryz.ntmps17
 go_wp2_with fail
 go_ret
 exact ⟨rfl, rfl⟩
def DPost (w : World) (zs : List Nat) (e : Ending) (w' : World) : Prop := ∃ A' c', e = .returned (.tuple #[.slice A' zs.length c', .int .i64 0]) ∧ Bs w' A' zs.length zs ∧ Ext w w'
def NPost (w : World) (x : Int) (e : Ending) (w' : World) : Prop := e = .returned (.tuple #[.slice none 0 0, .int .i64 x]) ∧ Ext w w'
theorem data_nil (t kind most : Int) (w : World) : Calls Tryz.prog 43 #[.pointer none, .int .i64 t, .int .u8 kind, .int .i64 most] w (NPost w 1) := by
 go_enter Tryz.func43, Tryz.ntmps43
 go_wp2_with fail
 refine (has_nil _ _).mono ?_
 rintro e w1 ⟨rfl, rfl⟩
 go_wp2_with fail
 go_ret2
 exact ⟨rfl, Ext.rfl' _⟩
theorem key_nil (t : Int) (w : World) : Calls Tryz.prog 12 #[.pointer none, .int .i64 t] w (NPost w 1) := by
 go_enter Tryz.func12, Tryz.ntmps12
 go_wp2_with fail
 refine (data_nil _ _ _ _).mono ?_
 rintro e w1 ⟨rfl, hE⟩
 have HE := zh hE
 clear hE
 go_wp2_with fail
 go_ret2
 exact ⟨rfl, HE.out⟩
theorem delta_nil (t : Int) (v : Value) (w : World) : Calls Tryz.prog 13 #[.pointer none, .int .i64 t, v] w (NPost w 1) := by
 go_enter Tryz.func13, Tryz.ntmps13
 go_wp2_with fail
 refine (data_nil _ _ _ _).mono ?_
 rintro e w1 ⟨rfl, hE⟩
 have HE := zh hE
 clear hE
 go_wp2_with fail
 go_ret2
 exact ⟨rfl, HE.out⟩
theorem frame_nil (t : Int) (w : World) : Calls Tryz.prog 14 #[.pointer none, .int .i64 t] w (NPost w 1) := by
 go_enter Tryz.func14, Tryz.ntmps14
 go_wp2_with fail
 refine (has_nil _ _).mono ?_
 rintro e w1 ⟨rfl, rfl⟩
 go_wp2_with fail
 go_ret2
 exact ⟨rfl, Ext.rfl' _⟩
theorem frame_out (f : Nat) (xs : List Nat) (r : Rc) (b3 b4 iA t : Nat) (w : World) (h : FV w f xs r b3 b4 iA) (ht : r.fs.length ≤ t) : Calls Tryz.prog 14 #[.pointer (some ⟨f, 0, none⟩), .int .i64 (t : Int)] w (NPost w 8) := by
 have HH := zh (has_out f xs r b3 b4 iA t w h ht)
 clear h ht
 go_enter Tryz.func14, Tryz.ntmps14
 go_wp2_with fail
 refine (HH.out).mono ?_
 rintro e w1 ⟨rfl, rfl⟩
 go_wp2_with fail
 go_ret2
 exact ⟨rfl, Ext.rfl' _⟩
theorem data_in (f : Nat) (xs : List Nat) (r : Rc) (L : List Nat) (b3 b4 iA t kind most : Nat) (w : World) (hT : Crc.Tab w) (h : FV w f xs r b3 b4 iA) (hop : Opn xs r L b3 b4 iA) (ht : t < r.fs.length) (hkd : kd r.K.toNat t = kind)
  (hm : (dt r.K.toNat t (prv r.fs t) (r.fs.getD t [])).length ≤ most) (hm2 : most ≤ 1000000) :
  Calls Tryz.prog 43 #[.pointer (some ⟨f, 0, none⟩), .int .i64 (t : Int), .int .u8 (kind : Int), .int .i64 (most : Int)] w (DPost w (dt r.K.toNat t (prv r.fs t) (r.fs.getD t []))) := by
 have HHI := zh (has_in f xs r b3 b4 iA t w h ht)
 obtain ⟨q, n, c, Ap, cp, c0, c9, c18, hB, hn, hc, hR, _⟩ := h.rd
 have hhi := hop.rds.high
 have hxl : xs.length = n := hB.1
 have HTK := zh (fun (w' : World) (e : Ext w w') => Chk.take (some ⟨q, 0, none⟩) n c xs ((bg r.K.toNat b4 r.fs t : Nat) : Int) (most : Int) w' (hT.ext e) (hB.ext e) (fun h => by cases h) hn hc (by omega))
 rw [hop.rds.data t most ht (by omega)] at HTK
 obtain ⟨k, hk⟩ : ∃ k : Nat, r.K = (k : Int) := ⟨r.K.toNat, by have := hop.may.2.2.2.1; omega⟩
 have hkk : r.K.toNat = k := by omega
 have hk1 : 1 ≤ k ∧ k ≤ 256 := by have := hop.may.2.2.2.1; have := hop.may.2.2.2.2.1; omega
 have hfl := hop.low.frames
 rw [hkk] at hR HTK hkd ⊢
 rw [hk] at c9
 obtain ⟨b, o, hA, hbw, hcell⟩ := hR.2 (by omega)
 have hpl : t < (plc k b4 r.fs).length := by rw [plc, List.length_map, List.length_range]; exact ht
 have c10 := hcell t hpl 0 (by omega)
 have hg : (plc k b4 r.fs)[t] = bg k b4 r.fs t := by simp [plc]
 rw [hg] at c10
 simp only [cN, List.getElem?_cons_zero, Nat.mul_one, Nat.add_zero] at c10
 subst hA
 have HKD := zh (fun (W : World) => (show Calls Tryz.prog 31 #[.int .i64 (t : Int), .int .i64 (k : Int)] W (fun e w' => e = .returned (.int .u8 (kind : Int)) ∧ W = w') from by rw [← hkd]; exact kind_st t k (by omega) (by omega) (by omega) W))
 generalize dt k t (prv r.fs t) (r.fs.getD t []) = zs at *
 rw [hkd] at HTK
 generalize bg k b4 r.fs (t + 1) = nx at *
 generalize bg k b4 r.fs t = bt at *
 obtain ⟨m, hm9⟩ : ∃ m, r.fs.length = m := ⟨_, rfl⟩
 rw [hm9] at c18 ht
 have y1 : (0 : Int) ≤ (t : Int) := by omega
 have y2 : (t : Int) < (m : Int) := by omega
 obtain ⟨nz, hnz⟩ : ∃ q, zs.length = q := ⟨_, rfl⟩
 unfold Chk.TPost at HTK
 simp only [hnz] at HTK
 unfold DPost
 rw [hnz]
 have HC := zh (And.intro c0 (And.intro c18 c10))
 clear h hB hn hc hR hop hT hm hm2 hcell hbw hg hpl hkd hkk hk1 hfl hnz hm9 hhi hxl
 go_enter Tryz.func43, Tryz.ntmps43
 go_wp2_with fail
 refine (HHI.out).mono ?_
 rintro e w1 ⟨rfl, rfl⟩
 go_wp2_with fail
 refine (HKD.out _).mono ?_
 rintro e w1 ⟨rfl, rfl⟩
 clear c0 c9 c18 c10
 go_upto_region 6 with fail
 have HE := zh (ext_drew (Ext.rfl' w))
 have HS := zh (And.intro (kc HE.out HC.out.1) (And.intro (kc HE.out HC.out.2.1) (kc HE.out HC.out.2.2)))
 refine wp_region_held_drew (S := fun W => W.cell? ⟨f, 0, none⟩ = some (.slice (some ⟨q, 0, none⟩) n c) ∧ W.cell? ⟨f, 18, none⟩ = some (.slice (some ⟨b, o, none⟩) m cp) ∧ W.cell? ⟨b, o + t, none⟩ = some (.int .i64 (bt : Int))) hmxF HS.out (fun _ => ?_)
 generalize w.drew = wd at *
 (refine tq (i := 0) (oi := ⟨some 31, .move (.tmp 0), 53, _, _, none⟩) (v := ?_) HS.out ?_ ?_); rotate_left
 ·(intro w' hSw; obtain ⟨s0, s1, s2⟩ := hSw; go_simp; try with_reducible rfl)
 (try simp only [Act.put, zzA, zzB, zzC])
 (refine tq (i := 1) (oi := ⟨some 32, .nilCheck (.tmp 31), 0, _, _, none⟩) (v := ?_) HS.out ?_ ?_); rotate_left
 ·(intro w' hSw; obtain ⟨s0, s1, s2⟩ := hSw; go_simp; try with_reducible rfl)
 (try simp only [Act.put, zzA, zzB, zzC])
 (refine tq (i := 2) (oi := ⟨some 33, .fieldAddr 96 (.tmp 32) 0, 0, _, _, none⟩) (v := ?_) HS.out ?_ ?_); rotate_left
 ·(intro w' hSw; obtain ⟨s0, s1, s2⟩ := hSw; go_simp; try with_reducible rfl)
 (try simp only [Act.put, zzA, zzB, zzC])
 (refine tq (i := 3) (oi := ⟨some 34, .load 48 (.tmp 33), 48, _, _, none⟩) (v := ?_) HS.out ?_ ?_); rotate_left
 ·(intro w' hSw; obtain ⟨s0, s1, s2⟩ := hSw; go_simp; try with_reducible rfl)
 (try simp only [Act.put, zzA, zzB, zzC])
 (refine tq (i := 4) (oi := ⟨some 35, .move (.tmp 0), 53, _, _, none⟩) (v := ?_) HS.out ?_ ?_); rotate_left
 ·(intro w' hSw; obtain ⟨s0, s1, s2⟩ := hSw; go_simp; try with_reducible rfl)
 (try simp only [Act.put, zzA, zzB, zzC])
 (refine tq (i := 5) (oi := ⟨some 36, .nilCheck (.tmp 35), 0, _, _, none⟩) (v := ?_) HS.out ?_ ?_); rotate_left
 ·(intro w' hSw; obtain ⟨s0, s1, s2⟩ := hSw; go_simp; try with_reducible rfl)
 (try simp only [Act.put, zzA, zzB, zzC])
 (refine tq (i := 6) (oi := ⟨some 37, .fieldAddr 96 (.tmp 36) 4, 0, _, _, none⟩) (v := ?_) HS.out ?_ ?_); rotate_left
 ·(intro w' hSw; obtain ⟨s0, s1, s2⟩ := hSw; go_simp; try with_reducible rfl)
 (try simp only [Act.put, zzA, zzB, zzC])
 (refine tq (i := 7) (oi := ⟨some 38, .load 74 (.tmp 37), 74, _, _, none⟩) (v := ?_) HS.out ?_ ?_); rotate_left
 ·(intro w' hSw; obtain ⟨s0, s1, s2⟩ := hSw; go_simp; try with_reducible rfl)
 (try simp only [Act.put, zzA, zzB, zzC])
 (refine tq (i := 8) (oi := ⟨some 39, .move (.tmp 1), 3, _, _, none⟩) (v := ?_) HS.out ?_ ?_); rotate_left
 ·(intro w' hSw; obtain ⟨s0, s1, s2⟩ := hSw; go_simp; try with_reducible rfl)
 (try simp only [Act.put, zzA, zzB, zzC])
 (refine tq (i := 9) (oi := ⟨some 40, .indexAddr 74 (.tmp 38) (.tmp 39), 0, _, _, none⟩) (v := ?_) HS.out ?_ ?_); rotate_left
 ·(intro w' hSw; obtain ⟨s0, s1, s2⟩ := hSw; go_simp; try with_reducible rfl)
 (try simp only [Act.put, zzA, zzB, zzC])
 (refine tq (i := 10) (oi := ⟨some 41, .load 3 (.tmp 40), 3, _, _, none⟩) (v := ?_) HS.out ?_ ?_); rotate_left
 ·(intro w' hSw; obtain ⟨s0, s1, s2⟩ := hSw; go_simp; try with_reducible rfl)
 (try simp only [Act.put, zzA, zzB, zzC])
 (refine tq (i := 11) (oi := ⟨some 42, .move (.tmp 3), 3, _, _, none⟩) (v := ?_) HS.out ?_ ?_); rotate_left
 ·(intro w' hSw; obtain ⟨s0, s1, s2⟩ := hSw; go_simp; try with_reducible rfl)
 (try simp only [Act.put, zzA, zzB, zzC])
 refine wpAnyH_ready (rs := [12]) (by kernel_rfl) (by simp) ?_
 refine AllReadyH.cons (o := ⟨some 43, .call { callee := .value (.func 78), args := #[.tmp 34, .tmp 41, .tmp 42], argTypes := #[48, 3, 3] }, 143, "file.go:108", #[⟨3, .data⟩, ⟨10, .data⟩, ⟨11, .data⟩], none⟩) (by kernel_rfl) (fun K hK => ?_) AllReadyH.nil
 go_simp
 refine (HTK.out _ HE.out).mono ?_
 rintro e w2 ⟨hE, A', c', rfl, hB, _⟩
 have HB := zh hB
 replace HE := zh (ext_trans HE.out hE)
 clear hB hE
 have HS := zh (And.intro (kc HE.out HC.out.1) (And.intro (kc HE.out HC.out.2.1) (kc HE.out HC.out.2.2)))
 (try go_wp2_with fail)
 refine hK.out _ _ HS.out (fun _ => ?_)
 clear hK K
 (try simp only [Act.put, zzA, zzB, zzC])
 (refine tq (i := 13) (oi := ⟨some 30, .move (.tmp 43), 143, _, _, none⟩) (v := ?_) HS.out ?_ ?_); rotate_left
 ·(intro w' hSw; obtain ⟨s0, s1, s2⟩ := hSw; go_simp; try with_reducible rfl)
 (try simp only [Act.put, zzA, zzB, zzC])
 (refine tq (i := 14) (oi := ⟨some 44, .extract (.tmp 30) 0, 5, _, _, none⟩) (v := ?_) HS.out ?_ ?_); rotate_left
 ·(intro w' hSw; obtain ⟨s0, s1, s2⟩ := hSw; go_simp; try with_reducible rfl)
 (try simp only [Act.put, zzA, zzB, zzC])
 (refine tq (i := 15) (oi := ⟨some 45, .extract (.tmp 30) 1, 48, _, _, none⟩) (v := ?_) HS.out ?_ ?_); rotate_left
 ·(intro w' hSw; obtain ⟨s0, s1, s2⟩ := hSw; go_simp; try with_reducible rfl)
 (try simp only [Act.put, zzA, zzB, zzC])
 (refine tq (i := 16) (oi := ⟨some 46, .extract (.tmp 30) 2, 3, _, _, none⟩) (v := ?_) HS.out ?_ ?_); rotate_left
 ·(intro w' hSw; obtain ⟨s0, s1, s2⟩ := hSw; go_simp; try with_reducible rfl)
 (try simp only [Act.put, zzA, zzB, zzC])
 (refine tq (i := 17) (oi := ⟨some 47, .extract (.tmp 30) 3, 49, _, _, none⟩) (v := ?_) HS.out ?_ ?_); rotate_left
 ·(intro w' hSw; obtain ⟨s0, s1, s2⟩ := hSw; go_simp; try with_reducible rfl)
 (try simp only [Act.put, zzA, zzB, zzC])
 (refine tq (i := 18) (oi := ⟨some 11, .assign (.tmp 44), 5, _, _, none⟩) (v := ?_) HS.out ?_ ?_); rotate_left
 ·(intro w' hSw; obtain ⟨s0, s1, s2⟩ := hSw; go_simp; try with_reducible rfl)
 (try simp only [Act.put, zzA, zzB, zzC])
 (refine tq (i := 19) (oi := ⟨some 12, .assign (.tmp 45), 48, _, _, none⟩) (v := ?_) HS.out ?_ ?_); rotate_left
 ·(intro w' hSw; obtain ⟨s0, s1, s2⟩ := hSw; go_simp; try with_reducible rfl)
 (try simp only [Act.put, zzA, zzB, zzC])
 (refine tq (i := 20) (oi := ⟨some 13, .assign (.tmp 46), 3, _, _, none⟩) (v := ?_) HS.out ?_ ?_); rotate_left
 ·(intro w' hSw; obtain ⟨s0, s1, s2⟩ := hSw; go_simp; try with_reducible rfl)
 (try simp only [Act.put, zzA, zzB, zzC])
 (refine tq (i := 21) (oi := ⟨some 14, .assign (.tmp 47), 49, _, _, none⟩) (v := ?_) HS.out ?_ ?_); rotate_left
 ·(intro w' hSw; obtain ⟨s0, s1, s2⟩ := hSw; go_simp; try with_reducible rfl)
 (try simp only [Act.put, zzA, zzB, zzC])
 refine wpAnyH_done (by kernel_rfl) ?_ _
 go_wp2_with fail
 go_ret2
 exact ⟨_, _, rfl, HB.out, HE.out⟩
end Go.Proofs.YtidnboeihkeljaaGreatDoor.Fil
namespace Go.Proofs.YtidnboeihkeljaaGreatDoor.Fil
open Wire
open Rec

theorem low_dt {r : Rc} (h : Low r) (k t : Nat) (ht : t < r.fs.length) : (dt k t (prv r.fs t) (r.fs.getD t [])).length ≤ 800 ∧ (r.fs.getD t []).length ≤ 500 := by
 have h1 := h.frame _ (get_mem ht)
 have h2 := dt_len k t (prv r.fs t) (r.fs.getD t []) (by omega)
 omega
theorem key_in (f : Nat) (xs : List Nat) (r : Rc) (L : List Nat) (b3 b4 iA t : Nat) (w : World) (hT : Crc.Tab w) (h : FV w f xs r b3 b4 iA) (hop : Opn xs r L b3 b4 iA) (ht : t < r.fs.length) (hk : t % r.K.toNat = 0) :
  Calls Tryz.prog 12 #[.pointer (some ⟨f, 0, none⟩), .int .i64 (t : Int)] w (DPost w (r.fs.getD t [])) := by
 have HD := data_in f xs r L b3 b4 iA t 5 131072 w hT h hop ht (by unfold kd; rw [if_pos hk]) (by have := low_dt hop.low r.K.toNat t ht; omega) (by omega)
 have hdt : dt r.K.toNat t (prv r.fs t) (r.fs.getD t []) = r.fs.getD t [] := by unfold dt; rw [if_pos hk]
 rw [hdt] at HD
 replace HD := zh HD
 clear hT h hop ht hk hdt
 generalize r.fs.getD t [] = zs at *
 go_enter Tryz.func12, Tryz.ntmps12
 go_wp2_with fail
 refine (HD.out).mono ?_
 rintro e w1 ⟨A', c', rfl, hB, hE⟩
 have HB := zh hB; have HE := zh hE
 clear hB hE
 obtain ⟨nz, hnz⟩ : ∃ q, zs.length = q := ⟨_, rfl⟩
 rw [hnz] at HB ⊢
 go_wp2_with fail
 go_ret2
 subst hnz
 exact ⟨A', c', rfl, HB.out, HE.out⟩
theorem delta_in (f : Nat) (xs : List Nat) (r : Rc) (L : List Nat) (b3 b4 iA t : Nat) (A : Option Addr) (m c : Nat) (w : World) (hT : Crc.Tab w) (h : FV w f xs r b3 b4 iA) (hop : Opn xs r L b3 b4 iA) (ht : t < r.fs.length) (hk : ¬ t % r.K.toNat = 0)
  (hA : Bs w A m (prv r.fs t)) (hm : m ≤ 1000000) :
  Calls Tryz.prog 13 #[.pointer (some ⟨f, 0, none⟩), .int .i64 (t : Int), .slice A m c] w (DPost w (r.fs.getD t [])) := by
 have HD := data_in f xs r L b3 b4 iA t 6 262144 w hT h hop ht (by unfold kd; rw [if_neg hk]) (by have := low_dt hop.low r.K.toNat t ht; omega) (by omega)
 have hdt : dt r.K.toNat t (prv r.fs t) (r.fs.getD t []) = Delta.diff (prv r.fs t) (r.fs.getD t []) := by unfold dt; rw [if_neg hk]
 have hlo := low_dt hop.low r.K.toNat t ht
 rw [hdt] at HD hlo
 have hsm := prv_small hop.low.small t
 have hsf := hop.low.small _ (get_mem ht)
 have happ : Delta.applied (prv r.fs t) (Delta.diff (prv r.fs t) (r.fs.getD t [])) 131072 = .ok (r.fs.getD t []) := applied_most (Delta.applied_diff _ _ hsm hsf (by omega)) (by omega)
 have hpos : 0 < (Delta.diff (prv r.fs t) (r.fs.getD t [])).length := by
  show 0 < (vb _ ++ _).length
  rw [List.length_append]
  have := vb_pos (Delta.mix (prv r.fs t) (r.fs.getD t [])).length
  have h2 := vb_pos (r.fs.getD t []).length
  omega
 have HD := zh HD; have HAP := zh happ; have HA := zh hA
 have HLP := zh (And.intro hlo.1 hpos)
 have HSF := zh (small_mem hsf)
 clear hT h hop ht hk hdt hlo hsm hsf happ hpos hA
 generalize prv r.fs t = pf at *
 generalize r.fs.getD t [] = zs at *
 generalize Delta.diff pf zs = ds at *
 obtain ⟨nd, hnd⟩ : ∃ q, ds.length = q := ⟨_, rfl⟩
 unfold DPost at HD
 rw [hnd] at HD HLP
 clear hnd
 go_enter Tryz.func13, Tryz.ntmps13
 go_wp2_with fail
 refine (HD.out).mono ?_
 rintro e w1 ⟨A', c', rfl, hB, hE⟩
 have HB := zh hB; have HE := zh hE
 have HAC := zh (Delta.apply A A' m c nd c' pf ds 131072 w1 (HA.out.ext hE) hB (fun e => by
  obtain ⟨b, o, e', _⟩ := hB.2.2 HLP.out.2
  rw [e] at e'; cases e') hm (by have := HLP.out.1; omega) (by omega) (by omega))
 unfold Delta.APost at HAC
 simp only [HAP.out] at HAC
 clear hB hE
 obtain ⟨nz, hnz⟩ : ∃ q, zs.length = q := ⟨_, rfl⟩
 rw [hnz] at HAC
 replace hnz := zh hnz
 go_wp2_with fail
 refine (HAC.out).mono ?_
 rintro e w2 ⟨hE2, g, rfl, hO⟩
 have HE2 := zh (ext_trans HE.out hE2)
 have HO := zh hO
 clear hO hE2
 go_wp2_with fail
 go_ret2
 have h9 := hnz.out
 subst h9
 exact ⟨_, _, rfl, Wire.Own.bs HO.out HSF.out, HE2.out⟩
theorem mod_step {t k a : Nat} (hk : 0 < k) (h1 : t - t % k ≤ a) (h2 : a < t) : ¬ (a + 1) % k = 0 := by
 intro h
 have e1 : k * (t / k) + t % k = t := Nat.div_add_mod t k
 have e2 : k * ((a + 1) / k) + (a + 1) % k = a + 1 := Nat.div_add_mod (a + 1) k
 have e3 : t % k < k := Nat.mod_lt t hk
 rw [h, Nat.add_zero] at e2
 have e4 : k * (t / k) < k * ((a + 1) / k) := by omega
 have e5 : t / k < (a + 1) / k := Nat.lt_of_mul_lt_mul_left e4
 have e6 : k * (t / k + 1) ≤ k * ((a + 1) / k) := Nat.mul_le_mul_left k e5
 rw [Nat.mul_add, Nat.mul_one] at e6
 omega
theorem mod_base {t k : Nat} : (t - t % k) % k = 0 := by
 have e1 : k * (t / k) + t % k = t := Nat.div_add_mod t k
 rw [show t - t % k = k * (t / k) by omega]
 exact Nat.mul_mod_right k _
def FrRel (w : World) (r : Rc) (t b0 : Nat) (gh : Nat) (av fv ev : Value) (wr : World) : Prop :=
 ∃ (a m : Nat) (A : Option Addr) (c : Nat), a + gh = t ∧ b0 ≤ a ∧ av = .int .i64 (a : Int) ∧ fv = .slice A m c ∧ (r.fs.getD a []).length = m ∧ ev = .int .i64 0 ∧ Bs wr A m (r.fs.getD a []) ∧ Ext w wr
theorem frame_in (f : Nat) (xs : List Nat) (r : Rc) (L : List Nat) (b3 b4 iA t : Nat) (w : World) (hT : Crc.Tab w) (h : FV w f xs r b3 b4 iA) (hop : Opn xs r L b3 b4 iA) (ht : t < r.fs.length) :
  Calls Tryz.prog 14 #[.pointer (some ⟨f, 0, none⟩), .int .i64 (t : Int)] w (DPost w (r.fs.getD t [])) := by
 have HHI := zh (has_in f xs r b3 b4 iA t w h ht)
 obtain ⟨q, n, c, Ap, cp, c0, c9, c18, hB, _⟩ := h.rd
 obtain ⟨k, hk⟩ : ∃ k : Nat, r.K = (k : Int) := ⟨r.K.toNat, by have := hop.may.2.2.2.1; omega⟩
 have hkk : r.K.toNat = k := by omega
 have hk1 : 1 ≤ k ∧ k ≤ 256 := by have := hop.may.2.2.2.1; have := hop.may.2.2.2.2.1; omega
 rw [hk] at c9
 obtain ⟨md, hmd⟩ : ∃ q, q = t % k := ⟨_, rfl⟩
 obtain ⟨b0, hb0⟩ : ∃ q, q = t - t % k := ⟨_, rfl⟩
 have hml : md ≤ t := by rw [hmd]; exact Nat.mod_le t k
 have h1 : (t : Int).tmod (k : Int) = (md : Int) := by rw [hmd]; rfl
 have h2 : (t : Int) % (k : Int) = (md : Int) := by rw [hmd]; rfl
 have h3 : (t : Int) - (md : Int) = (b0 : Int) := by omega
 have hfl := hop.low.frames
 have htl : t ≤ 100 := by omega
 have hb0l : b0 ≤ t := by omega
 have HKY := zh (fun (w' : World) (e : Ext w w') => key_in f xs r L b3 b4 iA b0 w' (hT.ext e) (h.ext e) hop (by omega) (by rw [hkk, hb0]; exact mod_base))
 have HDL := zh (fun (w' : World) (a m : Nat) (A : Option Addr) (c : Nat) (e : Ext w w') (ha : b0 ≤ a) (hat : a < t) (hm : (r.fs.getD a []).length = m) (hB : Bs w' A m (r.fs.getD a [])) => delta_in f xs r L b3 b4 iA (a + 1) A m c w' (hT.ext e) (h.ext e) hop (by omega) (by rw [hkk]; exact mod_step (by omega) (by omega) hat) (by rw [prv_succ r.fs a (by omega)]; exact hB) (by have := hop.low.frame _ (get_mem (show a < r.fs.length by omega)); omega))
 have hk0 : ¬ (k : Int) = 0 := by omega
 replace hmd := zh hmd; replace hb0 := zh hb0
 clear h hB hop hT ht hkk hk hfl c0 c18 hk1
 go_enter Tryz.func14, Tryz.ntmps14
 go_wp2_with fail
 refine (HHI.out).mono ?_
 rintro e w1 ⟨rfl, rfl⟩
 go_wp2_with fail
 refine (HKY.out _ (Ext.rfl' _)).mono ?_
 rintro e w1 ⟨A1, c1, rfl, hB1, hE1⟩
 obtain ⟨m1, hm1⟩ : ∃ q, (r.fs.getD b0 []).length = q := ⟨_, rfl⟩
 rw [hm1] at hB1 ⊢
 have HREL : Hid (FrRel w r t b0 (t - b0) (.int .i64 (b0 : Int)) (.slice A1 m1 c1) (.int .i64 0) w1) := zh ⟨b0, m1, A1, c1, by omega, Nat.le_refl _, rfl, rfl, hm1, rfl, hB1, hE1⟩
 clear hB1 hE1 hm1 c9 h1 h2 h3
 go_wp2_with fail
 go_loopg [7, 8, 9] (t - b0) (fun gh av fv ev wr => FrRel w r t b0 gh av fv ev wr)
 case atStart => exact HREL.out
 case round =>
  obtain ⟨a, m, A, c, ha, hba, rfl, rfl, hm, rfl, hB, hE⟩ := hrel
  obtain ⟨wi, rfl⟩ : ∃ wi : World, wi = wr := ⟨_, rfl⟩
  obtain ⟨gh, rfl⟩ : ∃ gh : Nat, gh = gk := ⟨_, rfl⟩
  have HB := zh hB; have HE := zh hE; have HM := zh hm
  clear hB hE HREL hm
  by_cases hlt : a < t
  ·have y2 : (a : Int) < (t : Int) := by omega
   have HDC := zh (HDL.out wi a m A c HE.out hba hlt HM.out HB.out)
   have hcast : ((a + 1 : Nat) : Int) = (a : Int) + 1 := by omega
   rw [hcast] at HDC
   clear hcast
   go_wp2_with fail
   refine (HDC.out).mono ?_
   rintro e w3 ⟨A3, c3, rfl, hB3, hE3⟩
   obtain ⟨m3, hm3⟩ : ∃ q, (r.fs.getD (a + 1) []).length = q := ⟨_, rfl⟩
   rw [hm3] at hB3 ⊢
   have HB3 := zh hB3; have HE3 := zh (ext_trans HE.out hE3); have HM3 := zh hm3
   clear hB3 hE3 hm3 HB HE HM
   go_wp2_with fail
   go_roundg (gh - 1)
   case measure => omega
   case rel => exact ⟨a + 1, m3, A3, c3, by omega, by omega, by go_num, rfl, HM3.out, rfl, HB3.out, HE3.out⟩
  ·obtain rfl : gh = 0 := by omega
   obtain rfl : a = t := by omega
   have y2 : ¬ (a : Int) < (a : Int) := by omega
   go_wp2_with fail
   go_ret2
   have h9 := HM.out
   subst h9
   exact ⟨A, c, rfl, HB.out, HE.out⟩
end Go.Proofs.YtidnboeihkeljaaGreatDoor.Fil
