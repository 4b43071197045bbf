/- The document's chunk: Read, walked. -/
import Derived.Test.YtckjmabacibojaaDoorGK
import Derived.Test.YtckjmabacibojaaDoorGH
import Derived.Test.YtckjmabacibojaaDoorGJ
import Derived.Test.YtckjmabacibojaaDoorLzD
namespace Go.Proofs.YtckjmabacibojaaDoor.Chk
open Go.ChangeShapes Go.WideShapes Go.ChangeAt Go.RowKit
open Go.Proofs.YtckjmabacibojaaDoor.Wire Go.Proofs.YtckjmabacibojaaDoor.Ref
set_option linter.unusedVariables false

abbrev CZ : Array Value := #[.int .u8 0, .bool false, .int .i64 0, .string ⟨#[]⟩, .int .i64 0]
/-- What the document's Read comes to. -/
def QPost (w : World) (R : RD) (e : Ending) (w' : World) : Prop :=
  Ext w w' ∧ match R with
  | .bad f => e = .returned (.tuple #[.agg CZ, .int .i64 f])
  | .ok kind h size ys next => e = .returned (.tuple #[.agg #[.int .u8 (kind : Int), .bool (decide (h = 1)), .int .i64 (size : Int), .string (strOf ys), .int .i64 (next : Int)], .int .i64 0])
theorem lim_len {xs : List Nat} {v k : Nat} (h : lim (vr 0 0 xs) = .ok v k) : k ≤ xs.length := by
  have := (i1_le 0 xs).2
  unfold i1 at this
  rw [if_neg (by simp), h] at this
  exact this
theorem fx_be {ys : List Nat} (h : ∀ c ∈ ys, c < 256) (hl : ys.length = 4) : fx (be ys) = ys := by
  match ys, hl, h with
  | [a, b, c, d], _, h =>
    have h1 := h a (by simp); have h2 := h b (by simp); have h3 := h c (by simp); have h4 := h d (by simp)
    simp only [be, List.foldl_cons, List.foldl_nil, fx, List.cons.injEq, and_true]
    refine ⟨by omega, by omega, by omega, by omega⟩
/-- The result's block, and a reader's. -/
def ST (w W : World) (rb pb : Nat) (t : ByteArray) (i : Nat) (e : Int) : Prop := Blk W rb 31 CZ ∧ Blk W pb 55 #[.string t, .int .i64 (i : Int), .int .i64 e] ∧ Ext w W ∧ rb ≠ pb ∧ w.heap.size ≤ pb ∧ w.heap.size ≤ rb
theorem ST.ext {w W W' : World} {rb pb i : Nat} {t : ByteArray} {e : Int} (h : ST w W rb pb t i e) (hE : Ext W W') : ST w W' rb pb t i e := ⟨h.1.ext hE, h.2.1.ext hE, ext_trans h.2.2.1 hE, h.2.2.2⟩
theorem ST.set {w W : World} {rb pb i : Nat} {t : ByteArray} {e : Int} (h : ST w W rb pb t i e) (t' : ByteArray) (i' : Nat) (e' : Int) : ST w (((W.setCell ⟨pb, 0, none⟩ (.string t')).setCell ⟨pb, 1, none⟩ (.int .i64 (i' : Int))).setCell ⟨pb, 2, none⟩ (.int .i64 e')) rb pb t' i' e' :=
  ⟨((h.1.far h.2.2.2.1 _).far h.2.2.2.1 _).far h.2.2.2.1 _, Lz.blk_set3 h.2.1 _ _ _, ext_set3 h.2.2.1 h.2.2.2.2.1 _ _ _, h.2.2.2⟩
theorem ST.far {w W : World} {rb pb i cb : Nat} {t : ByteArray} {e : Int} (h : ST w W rb pb t i e) (h1 : cb ≠ rb) (h2 : cb ≠ pb) (h3 : w.heap.size ≤ cb) (o : Nat) (v : Value) : ST w (W.setCell ⟨cb, o, none⟩ v) rb pb t i e :=
  ⟨h.1.far h1.symm v, Blk.far h.2.1 h2.symm v, ext_set h.2.2.1 h3 v, h.2.2.2⟩
theorem ST.new {w W : World} {rb : Nat} (h : Blk W rb 31 CZ) (hE : Ext w W) (hr : w.heap.size ≤ rb) (t : ByteArray) (i : Nat) (e : Int) : ST w (W.alloc (.cells #[.string t, .int .i64 (i : Int), .int .i64 e] 55)) rb W.heap.size t i e :=
  ⟨h.alloc _, Blk.new _ _ _, ext_alloc hE _, by have := h.lt; omega, hE.size, hr⟩
theorem ST.cells {w W : World} {rb pb i : Nat} {t : ByteArray} {e : Int} (h : ST w W rb pb t i e) : W.cell? ⟨pb, 0, none⟩ = some (.string t) ∧ W.cell? ⟨pb, 1, none⟩ = some (.int .i64 (i : Int)) ∧ W.cell? ⟨pb, 2, none⟩ = some (.int .i64 e) ∧ W.frozen? ⟨pb, 0, none⟩ = false ∧ W.frozen? ⟨pb, 1, none⟩ = false ∧ W.frozen? ⟨pb, 2, none⟩ = false :=
  ⟨Blk.cell h.2.1 0, Blk.cell h.2.1 1, Blk.cell h.2.1 2, Blk.frozen h.2.1 0, Blk.frozen h.2.1 1, Blk.frozen h.2.1 2⟩
theorem ST.res {w W : World} {rb pb i : Nat} {t : ByteArray} {e : Int} (h : ST w W rb pb t i e) : W.cell? ⟨rb, 0, none⟩ = some (.int .u8 0) ∧ W.cell? ⟨rb, 1, none⟩ = some (.bool false) ∧ W.cell? ⟨rb, 2, none⟩ = some (.int .i64 0) ∧ W.cell? ⟨rb, 3, none⟩ = some (.string ⟨#[]⟩) ∧ W.cell? ⟨rb, 4, none⟩ = some (.int .i64 0) ∧
    W.frozen? ⟨rb, 0, none⟩ = false ∧ W.frozen? ⟨rb, 1, none⟩ = false ∧ W.frozen? ⟨rb, 2, none⟩ = false ∧ W.frozen? ⟨rb, 3, none⟩ = false ∧ W.frozen? ⟨rb, 4, none⟩ = false ∧ rb < W.heap.size :=
  ⟨Blk.cell h.1 0, Blk.cell h.1 1, Blk.cell h.1 2, Blk.cell h.1 3, Blk.cell h.1 4, Blk.frozen h.1 0, Blk.frozen h.1 1, Blk.frozen h.1 2, Blk.frozen h.1 3, Blk.frozen h.1 4, h.1.lt⟩
theorem ST.out {w W : World} {rb pb i : Nat} {t : ByteArray} {e : Int} (h : ST w W rb pb t i e) (a b c d f : Value) : Ext w (((((W.setCell ⟨rb, 0, none⟩ a).setCell ⟨rb, 1, none⟩ b).setCell ⟨rb, 2, none⟩ c).setCell ⟨rb, 3, none⟩ d).setCell ⟨rb, 4, none⟩ f) :=
  ext_grown h.2.2.1 (gb_set5 _ _ _ _ _ _ _) (fun k hk => by obtain rfl := Option.some.inj hk; exact h.2.2.2.2.2)
set_option maxHeartbeats 8000000 in
set_option maxRecDepth 100000 in
theorem refReadC (s : ByteArray) (at_ : Int) (w : World) (hs : s.size ≤ 1000000) :
    Calls Tryd.prog 10 #[.string s, .int .i64 at_] w (QPost w (readAt (natsOf s) at_)) := by
  have hsl := natsOf_len s
  by_cases hout : at_ < 0 ∨ (s.size : Int) < at_
  · have HR : Hid (readAt (natsOf s) at_ = .bad 2) := Lib.hid (by unfold readAt; rw [if_pos (by rw [hsl]; exact hout)])
    rcases hout with h | h
    · go_enter Tryd.func10, Tryd.ntmps10
      go_wp2_with fail
      refine bodyPost_ret (v := .tuple #[.agg CZ, .int .i64 2]) (by simp [results, Tryd.results10, go_sem]) rfl ?_
      rw [HR.out]
      exact ⟨ext_alloc (Ext.rfl' w) _, rfl⟩
    · have h0 : ¬ at_ < 0 := by omega
      go_enter Tryd.func10, Tryd.ntmps10
      go_wp2_with fail
      refine bodyPost_ret (v := .tuple #[.agg CZ, .int .i64 2]) (by simp [results, Tryd.results10, go_sem]) rfl ?_
      rw [HR.out]
      exact ⟨ext_alloc (Ext.rfl' w) _, rfl⟩
  · obtain ⟨a, rfl⟩ : ∃ a : Nat, at_ = (a : Int) := ⟨at_.toNat, by omega⟩
    have h0 : ¬ (a : Int) < 0 := by omega
    have h1 : ¬ (s.size : Int) < (a : Int) := by omega
    have ha0 : (0 : Int) ≤ (a : Int) := by omega
    have ha1 : (a : Int) ≤ (s.size : Int) := by omega
    obtain ⟨T, hT⟩ : ∃ T, T = s.extract a s.size := ⟨_, rfl⟩
    obtain ⟨L, hL⟩ : ∃ L, L = (natsOf s).drop a := ⟨_, rfl⟩
    have hTL : natsOf T = L := by rw [hT, hL, Com.nats_ext]
    have hTs : T.size = L.length := by rw [← hTL, natsOf_len]
    have hLl : L.length = s.size - a := by rw [hL, List.length_drop, hsl]
    have HRA : Hid (∀ f, Chk.read L = .bad f → readAt (natsOf s) (a : Int) = .bad f) := Lib.hid (fun f h => by
      unfold readAt
      rw [if_neg (by rw [hsl]; exact hout), Int.toNat_natCast, ← hL, h])
    have HRO : Hid (∀ k h z ys nx, Chk.read L = .ok k h z ys nx → readAt (natsOf s) (a : Int) = .ok k h z ys (a + nx)) := Lib.hid (fun k h z ys nx hr => by
      unfold readAt
      rw [if_neg (by rw [hsl]; exact hout), Int.toNat_natCast, ← hL, hr])
    obtain ⟨B1, hB1⟩ : ∃ B, B = bT T 0 1 0 := ⟨_, rfl⟩
    obtain ⟨B2, hB2⟩ : ∃ B, B = bT B1.2.1 B1.2.2.1 1 B1.2.2.2 := ⟨_, rfl⟩
    have hb1s : B1.2.1.size ≤ 1000000 ∧ B1.2.2.1 ≤ 1000000 := by
      rw [hB1]
      unfold bT
      simp only [ne_eq, not_true_eq_false, if_false]
      by_cases h : T.size < 1
      · rw [if_pos h]; exact ⟨by show T.size ≤ _; omega, by show 0 ≤ _; omega⟩
      · rw [if_neg h]; exact ⟨by show (T.extract 1 T.size).size ≤ _; rw [ByteArray.size_extract]; omega, by show 0 + 1 ≤ _; omega⟩
    have HB1 := Lib.hid hB1; have HB2 := Lib.hid hB2; have HT := Lib.hid hT; have HL := Lib.hid hL; have HTL := Lib.hid hTL
    have HTS : Hid (T.size ≤ 1000000) := Lib.hid (by omega)
    clear hB1 hB2 hL hTL hsl hout
    have HRC := Lib.hid (Blk.new w 31 #[.int .u8 0, .bool false, .int .i64 0, .string ⟨#[]⟩, .int .i64 0])
    have HE := Lib.hid (ext_alloc (Ext.rfl' w) (.cells #[.int .u8 0, .bool false, .int .i64 0, .string ⟨#[]⟩, .int .i64 0] 31))
    have HRC := Lib.hid (Blk.new w 31 #[.int .u8 0, .bool false, .int .i64 0, .string ⟨#[]⟩, .int .i64 0])
    have HE := Lib.hid (ext_alloc (Ext.rfl' w) (.cells #[.int .u8 0, .bool false, .int .i64 0, .string ⟨#[]⟩, .int .i64 0] 31))
    have HRC := Lib.hid (Blk.new w 31 #[.int .u8 0, .bool false, .int .i64 0, .string ⟨#[]⟩, .int .i64 0])
    have HE := Lib.hid (ext_alloc (Ext.rfl' w) (.cells #[.int .u8 0, .bool false, .int .i64 0, .string ⟨#[]⟩, .int .i64 0] 31))
    have HRC := Lib.hid (Blk.new w 31 #[.int .u8 0, .bool false, .int .i64 0, .string ⟨#[]⟩, .int .i64 0])
    have HE := Lib.hid (ext_alloc (Ext.rfl' w) (.cells #[.int .u8 0, .bool false, .int .i64 0, .string ⟨#[]⟩, .int .i64 0] 31))
    have HRC := Lib.hid (Blk.new w 31 #[.int .u8 0, .bool false, .int .i64 0, .string ⟨#[]⟩, .int .i64 0])
    have HE := Lib.hid (ext_alloc (Ext.rfl' w) (.cells #[.int .u8 0, .bool false, .int .i64 0, .string ⟨#[]⟩, .int .i64 0] 31))
    have HRC := Lib.hid (Blk.new w 31 #[.int .u8 0, .bool false, .int .i64 0, .string ⟨#[]⟩, .int .i64 0])
    have HE := Lib.hid (ext_alloc (Ext.rfl' w) (.cells #[.int .u8 0, .bool false, .int .i64 0, .string ⟨#[]⟩, .int .i64 0] 31))
    have HRC := Lib.hid (Blk.new w 31 #[.int .u8 0, .bool false, .int .i64 0, .string ⟨#[]⟩, .int .i64 0])
    have HE := Lib.hid (ext_alloc (Ext.rfl' w) (.cells #[.int .u8 0, .bool false, .int .i64 0, .string ⟨#[]⟩, .int .i64 0] 31))
    have HRC := Lib.hid (Blk.new w 31 #[.int .u8 0, .bool false, .int .i64 0, .string ⟨#[]⟩, .int .i64 0])
    have HE := Lib.hid (ext_alloc (Ext.rfl' w) (.cells #[.int .u8 0, .bool false, .int .i64 0, .string ⟨#[]⟩, .int .i64 0] 31))
    have HRC := Lib.hid (Blk.new w 31 #[.int .u8 0, .bool false, .int .i64 0, .string ⟨#[]⟩, .int .i64 0])
    have HE := Lib.hid (ext_alloc (Ext.rfl' w) (.cells #[.int .u8 0, .bool false, .int .i64 0, .string ⟨#[]⟩, .int .i64 0] 31))
    have HRC := Lib.hid (Blk.new w 31 #[.int .u8 0, .bool false, .int .i64 0, .string ⟨#[]⟩, .int .i64 0])
    have HE := Lib.hid (ext_alloc (Ext.rfl' w) (.cells #[.int .u8 0, .bool false, .int .i64 0, .string ⟨#[]⟩, .int .i64 0] 31))
    have HRC := Lib.hid (Blk.new w 31 #[.int .u8 0, .bool false, .int .i64 0, .string ⟨#[]⟩, .int .i64 0])
    have HE := Lib.hid (ext_alloc (Ext.rfl' w) (.cells #[.int .u8 0, .bool false, .int .i64 0, .string ⟨#[]⟩, .int .i64 0] 31))
    have HRC := Lib.hid (Blk.new w 31 #[.int .u8 0, .bool false, .int .i64 0, .string ⟨#[]⟩, .int .i64 0])
    have HE := Lib.hid (ext_alloc (Ext.rfl' w) (.cells #[.int .u8 0, .bool false, .int .i64 0, .string ⟨#[]⟩, .int .i64 0] 31))
    have HRC := Lib.hid (Blk.new w 31 #[.int .u8 0, .bool false, .int .i64 0, .string ⟨#[]⟩, .int .i64 0])
    have HE := Lib.hid (ext_alloc (Ext.rfl' w) (.cells #[.int .u8 0, .bool false, .int .i64 0, .string ⟨#[]⟩, .int .i64 0] 31))
    have HRC := Lib.hid (Blk.new w 31 #[.int .u8 0, .bool false, .int .i64 0, .string ⟨#[]⟩, .int .i64 0])
    have HE := Lib.hid (ext_alloc (Ext.rfl' w) (.cells #[.int .u8 0, .bool false, .int .i64 0, .string ⟨#[]⟩, .int .i64 0] 31))
    go_enter Tryd.func10, Tryd.ntmps10
    go_wp2_with fail
    rw [← HT.out]
    generalize w.alloc (.cells #[.int .u8 0, .bool false, .int .i64 0, .string ⟨#[]⟩, .int .i64 0] 31) = w0 at *
    refine (bytesT T 0 1 0 _ HTS.out (by omega)).mono ?_
    rw [← HB1.out]
    rintro e w1 ⟨rfl, hE⟩
    have HS := Lib.hid (ST.new (HRC.out.ext hE) (ext_trans HE.out hE) (Nat.le_refl _) B1.2.1 B1.2.2.1 B1.2.2.2)
    clear hE HRC HE
    go_wp2_with fail
    generalize w1.alloc (.cells #[.string B1.2.1, .int .i64 (B1.2.2.1 : Int), .int .i64 B1.2.2.2] 55) = w2 at *
    generalize w1.heap.size = pb at *
    generalize w.heap.size = rb at *
    refine (bytesT B1.2.1 B1.2.2.1 1 B1.2.2.2 _ hb1s.1 hb1s.2).mono ?_
    rw [← HB2.out]
    rintro e w3 ⟨rfl, hE⟩
    have HS := Lib.hid (HS.out.ext hE)
    obtain ⟨c0, c1, c2, f0, f1, f2⟩ := HS.out.cells
    clear hE
    go_upto_region 5 with fail
    have HS := Lib.hid (HS.out.set B2.2.1 B2.2.2.1 B2.2.2.2)
    clear c0 c1 c2 f0 f1 f2
    generalize ((w3.setCell ⟨pb, 0, none⟩ (.string B2.2.1)).setCell ⟨pb, 1, none⟩ (.int .i64 (B2.2.2.1 : Int))).setCell ⟨pb, 2, none⟩ (.int .i64 B2.2.2.2) = w4 at *
    by_cases hl2 : L.length < 2
    · have hE2 : B2.2.2.2 = 3 := by
        have h1 := HB1.out; have h2 := HB2.out
        by_cases hl0 : T.size < 1
        · have h3 : B1 = (⟨#[]⟩, T, 0, 3) := by rw [h1]; simp [bT, hl0]
          rw [h2, h3]; simp [bT]
        · have h3 : B1 = (T.extract 0 1, T.extract 1 T.size, 1, 0) := by rw [h1]; simp [bT, hl0]
          have h4 : (T.extract 1 T.size).size < 1 := by rw [ByteArray.size_extract]; omega
          rw [h2, h3]
          show (bT (T.extract 1 T.size) 1 1 0).2.2.2 = 3
          unfold bT
          rw [if_neg (by simp), if_pos h4]
      have HRT : Hid (readAt (natsOf s) (a : Int) = .bad 3) := Lib.hid (HRA.out 3 (by unfold Chk.read Chk.scan; rw [if_pos hl2]))
      rw [hE2] at HS
      clear hE2
      obtain ⟨c0, c1, c2, f0, f1, f2⟩ := HS.out.cells
      obtain ⟨z0, z1, z2, z3, z4, y0, y1, y2, y3, y4, hrl⟩ := HS.out.res
      have hne := HS.out.2.2.2.1
      have hne2 := hne.symm
      go_wp2_with fail
      go_region
      all_goals
        go_wp2_with fail
        refine bodyPost_ret (v := .tuple #[.agg CZ, .int .i64 3]) (by simp [results, Tryd.results10, go_sem, z0, z1, z2, z3, z4]) rfl ?_
        rw [HRT.out]
        exact ⟨(HS.out.ext (ext_drew (Ext.rfl' _))).out _ _ _ _ _, rfl⟩
    · obtain ⟨X1, Y, X2, T2, e1, e2, hx1, hx2, hy1, hy2, hT2⟩ : ∃ X1 Y X2 T2, B1 = (X1, Y, 1, 0) ∧ B2 = (X2, T2, 2, 0) ∧ X1.size = 1 ∧ X2.size = 1 ∧ (∀ h : 0 < X1.size, (X1[0]'h).toNat = L.getD 0 0) ∧ (∀ h : 0 < X2.size, (X2[0]'h).toNat = L.getD 1 0) ∧ natsOf T2 = L.drop 2 := by
        have h1 := HB1.out; have h2 := HB2.out
        have hl0 : ¬ T.size < 1 := by omega
        have h3 : B1 = (T.extract 0 1, T.extract 1 T.size, 1, 0) := by rw [h1]; simp [bT, hl0]
        have hz : (T.extract 1 T.size).size = T.size - 1 := by rw [ByteArray.size_extract]; omega
        have h4 : ¬ (T.extract 1 T.size).size < 1 := by omega
        refine ⟨_, _, _, _, h3, by rw [h2, h3]; show bT (T.extract 1 T.size) 1 1 0 = _; unfold bT; rw [if_neg (by simp), if_neg h4], by rw [ByteArray.size_extract]; omega, by rw [ByteArray.size_extract]; omega, fun h => ?_, fun h => ?_, ?_⟩
        · rw [← HTL.out, Com.natsOf_get T 0 (by omega)]; exact congrArg UInt8.toNat (by simp [ByteArray.getElem_extract])
        · rw [← HTL.out, Com.natsOf_get T 1 (by omega)]; exact congrArg UInt8.toNat (by simp [ByteArray.getElem_extract])
        · rw [Com.nats_ext, Com.nats_ext, HTL.out, List.drop_drop]
      subst e1 e2
      have hT2s : T2.size = L.length - 2 := by rw [← natsOf_len, hT2, List.length_drop]
      obtain ⟨c8, hc8⟩ : ∃ c, c = L.getD 0 0 := ⟨_, rfl⟩
      obtain ⟨c9, hc9⟩ : ∃ c, c = L.getD 1 0 := ⟨_, rfl⟩
      rw [← hc8] at hy1
      rw [← hc9] at hy2
      have HC8 := Lib.hid hc8; have HC9 := Lib.hid hc9; have HT2 := Lib.hid hT2
      have HSC : Hid (Chk.scan L = if 1 < c9 then .bad 4 else match lim (vr 0 0 (L.drop 2)) with
        | .short => .bad 3
        | .form => .bad 4
        | .ok size j => match lim (vr 0 0 (L.drop (2 + j))) with
          | .short => .bad 3
          | .form => .bad 4
          | .ok n i => if (c9 = 0 ∧ n ≠ size) ∨ (c9 = 1 ∧ size ≤ n) then .bad 4 else .ok c9 size n (2 + j + i)) := Lib.hid (by unfold Chk.scan; rw [if_neg hl2, ← hc9]; rfl)
      have p0 : (0 : Int) < (X2.size : Int) := by omega
      have p1 : (0 : Int) < (X1.size : Int) := by omega
      clear hT2 hc8 hc9 HB1 HB2 hb1s
      simp only at HS
      by_cases hh : 1 < c9
      · have hh2 : (1 : Int) < (c9 : Int) := by omega
        have HRT : Hid (readAt (natsOf s) (a : Int) = .bad 4) := Lib.hid (HRA.out 4 (by unfold Chk.read; rw [HSC.out, if_pos hh]))
        clear hh
        obtain ⟨c0, c1, c2, f0, f1, f2⟩ := HS.out.cells
        obtain ⟨z0, z1, z2, z3, z4, y0, y1, y2, y3, y4, hrl⟩ := HS.out.res
        go_wp2_with fail
        refine bodyPost_ret (v := .tuple #[.agg CZ, .int .i64 4]) (by simp [results, Tryd.results10, go_sem, z0, z1, z2, z3, z4]) rfl ?_
        rw [HRT.out]
        exact ⟨HS.out.out _ _ _ _ _, rfl⟩
      · have hh2 : ¬ (1 : Int) < (c9 : Int) := by omega
        obtain ⟨c0, c1, c2, f0, f1, f2⟩ := HS.out.cells
        go_upto_region 9 with fail
        have hb1 : (((c9 : Int) == 1) : Bool) = decide (c9 = 1) := by
          by_cases h : c9 = 1
          · subst h; rfl
          · rw [decide_eq_false h]; exact beq_eq_false_iff_ne.2 (by omega)
        go_cut [9] from 47 to 130 (fun cv wx => ∃ cb, cv = .pointer (some ⟨cb, 0, none⟩) ∧ Blk wx cb 31 #[.int .u8 (c8 : Int), .bool (decide (c9 = 1)), .int .i64 0, .string ⟨#[]⟩, .int .i64 0] ∧ ST w wx rb pb T2 2 0 ∧ cb ≠ rb ∧ cb ≠ pb ∧ w.heap.size ≤ cb)
        case first =>
          clear c0 c1 c2 f0 f1 f2
          go_region
          go_wp2_with fail
          go_meet
          have hlt := HS.out.1.lt
          have hlt2 := HS.out.2.1.lt
          exact ⟨w4.heap.size, rfl, Blk.new w4 _ _, HS.out.ext (ext_drew (ext_alloc (Ext.rfl' _) _)), by omega, by omega, HS.out.2.2.1.size⟩
        case rest =>
          obtain ⟨cb, rfl, hCB, hS, hcr, hcp, hcw⟩ := hcut
          have HCB := Lib.hid hCB
          have HS := Lib.hid hS
          clear hCB hS c0 c1 c2 f0 f1 f2
          have hT2z : T2.size ≤ 1000000 := by omega
          have HR4 : Hid (∀ e : Int, Chk.scan L = .bad e → readAt (natsOf s) (a : Int) = .bad e) := Lib.hid (fun e h => HRA.out e (by unfold Chk.read; rw [h]))
          cases hv1 : lim (vr 0 0 (L.drop 2)) with
          | short =>
            have N1 : nT T2 2 0 = (0, T2, 2, 3) := by unfold nT; rw [if_neg (by simp), HT2.out, hv1]
            have N2 : nT T2 2 3 = (0, T2, 2, 3) := by unfold nT; rw [if_pos (by decide)]
            have HRT : Hid (readAt (natsOf s) (a : Int) = .bad 3) := Lib.hid (HR4.out 3 (by rw [HSC.out, if_neg (by omega), hv1]))
            clear hv1
            obtain ⟨c0, c1, c2, f0, f1, f2⟩ := HS.out.cells
            go_wp2_with fail
            refine (numT T2 2 0 _ hT2z (by omega)).mono ?_
            rw [N1]
            rintro e w5 ⟨rfl, hE⟩
            have HS := Lib.hid (HS.out.ext hE)
            have HCB := Lib.hid (Blk.ext HCB.out hE)
            clear c0 c1 c2 f0 f1 f2 hE
            obtain ⟨c0, c1, c2, f0, f1, f2⟩ := HS.out.cells
            go_upto_region 11 with fail
            have HS := Lib.hid (HS.out.set T2 2 3)
            have HCB := Lib.hid (show Blk (((w5.setCell ⟨pb, 0, none⟩ (.string T2)).setCell ⟨pb, 1, none⟩ (.int .i64 ((2 : Nat) : Int))).setCell ⟨pb, 2, none⟩ (.int .i64 3)) cb _ _ from ((Blk.far HCB.out hcp _).far hcp _).far hcp _)
            clear c0 c1 c2 f0 f1 f2
            generalize ((w5.setCell ⟨pb, 0, none⟩ (.string T2)).setCell ⟨pb, 1, none⟩ (.int .i64 ((2 : Nat) : Int))).setCell ⟨pb, 2, none⟩ (.int .i64 3) = w6 at *
            obtain ⟨c0, c1, c2, f0, f1, f2⟩ := HS.out.cells
            go_wp2_with fail
            refine (numT T2 2 3 _ hT2z (by omega)).mono ?_
            rw [N2]
            rintro e w5 ⟨rfl, hE⟩
            have HS := Lib.hid (HS.out.ext hE)
            have HCB := Lib.hid (Blk.ext HCB.out hE)
            clear c0 c1 c2 f0 f1 f2 hE
            obtain ⟨c0, c1, c2, f0, f1, f2⟩ := HS.out.cells
            go_upto_region 12 with fail
            have HS := Lib.hid (HS.out.set T2 2 3)
            have HCB := Lib.hid (show Blk (((w5.setCell ⟨pb, 0, none⟩ (.string T2)).setCell ⟨pb, 1, none⟩ (.int .i64 ((2 : Nat) : Int))).setCell ⟨pb, 2, none⟩ (.int .i64 3)) cb _ _ from ((Blk.far HCB.out hcp _).far hcp _).far hcp _)
            clear c0 c1 c2 f0 f1 f2
            generalize ((w5.setCell ⟨pb, 0, none⟩ (.string T2)).setCell ⟨pb, 1, none⟩ (.int .i64 ((2 : Nat) : Int))).setCell ⟨pb, 2, none⟩ (.int .i64 3) = w6 at *
            obtain ⟨c0, c1, c2, f0, f1, f2⟩ := HS.out.cells
            obtain ⟨z0, z1, z2, z3, z4, y0, y1, y2, y3, y4, hrl⟩ := HS.out.res
            have hne := HS.out.2.2.2.1
            have hne2 := hne.symm
            go_wp2_with fail
            go_region
            all_goals
              go_wp2_with fail
              refine bodyPost_ret (v := .tuple #[.agg CZ, .int .i64 3]) (by simp [results, Tryd.results10, go_sem, z0, z1, z2, z3, z4]) rfl ?_
              rw [HRT.out]
              exact ⟨(HS.out.ext (ext_drew (Ext.rfl' _))).out _ _ _ _ _, rfl⟩
          | form =>
            have N1 : nT T2 2 0 = (0, T2, 2, 4) := by unfold nT; rw [if_neg (by simp), HT2.out, hv1]
            have N2 : nT T2 2 4 = (0, T2, 2, 4) := by unfold nT; rw [if_pos (by decide)]
            have HRT : Hid (readAt (natsOf s) (a : Int) = .bad 4) := Lib.hid (HR4.out 4 (by rw [HSC.out, if_neg (by omega), hv1]))
            clear hv1
            obtain ⟨c0, c1, c2, f0, f1, f2⟩ := HS.out.cells
            go_wp2_with fail
            refine (numT T2 2 0 _ hT2z (by omega)).mono ?_
            rw [N1]
            rintro e w5 ⟨rfl, hE⟩
            have HS := Lib.hid (HS.out.ext hE)
            have HCB := Lib.hid (Blk.ext HCB.out hE)
            clear c0 c1 c2 f0 f1 f2 hE
            obtain ⟨c0, c1, c2, f0, f1, f2⟩ := HS.out.cells
            go_upto_region 11 with fail
            have HS := Lib.hid (HS.out.set T2 2 4)
            have HCB := Lib.hid (show Blk (((w5.setCell ⟨pb, 0, none⟩ (.string T2)).setCell ⟨pb, 1, none⟩ (.int .i64 ((2 : Nat) : Int))).setCell ⟨pb, 2, none⟩ (.int .i64 4)) cb _ _ from ((Blk.far HCB.out hcp _).far hcp _).far hcp _)
            clear c0 c1 c2 f0 f1 f2
            generalize ((w5.setCell ⟨pb, 0, none⟩ (.string T2)).setCell ⟨pb, 1, none⟩ (.int .i64 ((2 : Nat) : Int))).setCell ⟨pb, 2, none⟩ (.int .i64 4) = w6 at *
            obtain ⟨c0, c1, c2, f0, f1, f2⟩ := HS.out.cells
            go_wp2_with fail
            refine (numT T2 2 4 _ hT2z (by omega)).mono ?_
            rw [N2]
            rintro e w5 ⟨rfl, hE⟩
            have HS := Lib.hid (HS.out.ext hE)
            have HCB := Lib.hid (Blk.ext HCB.out hE)
            clear c0 c1 c2 f0 f1 f2 hE
            obtain ⟨c0, c1, c2, f0, f1, f2⟩ := HS.out.cells
            go_upto_region 12 with fail
            have HS := Lib.hid (HS.out.set T2 2 4)
            have HCB := Lib.hid (show Blk (((w5.setCell ⟨pb, 0, none⟩ (.string T2)).setCell ⟨pb, 1, none⟩ (.int .i64 ((2 : Nat) : Int))).setCell ⟨pb, 2, none⟩ (.int .i64 4)) cb _ _ from ((Blk.far HCB.out hcp _).far hcp _).far hcp _)
            clear c0 c1 c2 f0 f1 f2
            generalize ((w5.setCell ⟨pb, 0, none⟩ (.string T2)).setCell ⟨pb, 1, none⟩ (.int .i64 ((2 : Nat) : Int))).setCell ⟨pb, 2, none⟩ (.int .i64 4) = w6 at *
            obtain ⟨c0, c1, c2, f0, f1, f2⟩ := HS.out.cells
            obtain ⟨z0, z1, z2, z3, z4, y0, y1, y2, y3, y4, hrl⟩ := HS.out.res
            have hne := HS.out.2.2.2.1
            have hne2 := hne.symm
            go_wp2_with fail
            go_region
            all_goals
              go_wp2_with fail
              refine bodyPost_ret (v := .tuple #[.agg CZ, .int .i64 4]) (by simp [results, Tryd.results10, go_sem, z0, z1, z2, z3, z4]) rfl ?_
              rw [HRT.out]
              exact ⟨(HS.out.ext (ext_drew (Ext.rfl' _))).out _ _ _ _ _, rfl⟩
          | ok size j =>
            have hsz := lim_le hv1
            obtain ⟨q, hq⟩ : ∃ q, q = 2 + j := ⟨_, rfl⟩
            obtain ⟨T3, hT3⟩ : ∃ T3, T3 = T2.extract j T2.size := ⟨_, rfl⟩
            have N1 : nT T2 2 0 = (size, T3, q, 0) := by unfold nT; rw [if_neg (by simp), HT2.out, hv1, hT3, hq]
            have HT3 : Hid (natsOf T3 = L.drop q) := Lib.hid (by rw [hT3, Com.nats_ext, HT2.out, List.drop_drop, hq])
            have hT3z : T3.size ≤ 1000000 := by rw [hT3, ByteArray.size_extract]; omega
            have hj := (lim_low hv1).1
            have hq20 : q ≤ 12 := by omega
            have hqL : q ≤ L.length := by have := lim_len hv1; rw [List.length_drop] at this; omega
            rw [hv1] at HSC
            simp only at HSC
            rw [← hq] at HSC
            clear hT3 hv1 hq
            obtain ⟨c0, c1, c2, f0, f1, f2⟩ := HS.out.cells
            go_wp2_with fail
            refine (numT T2 2 0 _ hT2z (by omega)).mono ?_
            rw [N1]
            rintro e w5 ⟨rfl, hE⟩
            have HS := Lib.hid (HS.out.ext hE)
            have HCB := Lib.hid (Blk.ext HCB.out hE)
            clear c0 c1 c2 f0 f1 f2 hE
            obtain ⟨c0, c1, c2, f0, f1, f2⟩ := HS.out.cells
            go_upto_region 11 with fail
            have HS := Lib.hid (HS.out.set T3 q 0)
            have HCB := Lib.hid (show Blk (((w5.setCell ⟨pb, 0, none⟩ (.string T3)).setCell ⟨pb, 1, none⟩ (.int .i64 ((q : Nat) : Int))).setCell ⟨pb, 2, none⟩ (.int .i64 0)) cb _ _ from ((Blk.far HCB.out hcp _).far hcp _).far hcp _)
            clear c0 c1 c2 f0 f1 f2
            generalize ((w5.setCell ⟨pb, 0, none⟩ (.string T3)).setCell ⟨pb, 1, none⟩ (.int .i64 ((q : Nat) : Int))).setCell ⟨pb, 2, none⟩ (.int .i64 0) = w6 at *
            clear N1
            cases hv2 : lim (vr 0 0 (L.drop q)) with
            | short =>
              have N2 : nT T3 q 0 = (0, T3, q, 3) := by unfold nT; rw [if_neg (by simp), HT3.out, hv2]
              have HRT : Hid (readAt (natsOf s) (a : Int) = .bad 3) := Lib.hid (HR4.out 3 (by rw [HSC.out, if_neg (by omega), hv2]))
              clear hv2
              obtain ⟨c0, c1, c2, f0, f1, f2⟩ := HS.out.cells
              go_wp2_with fail
              refine (numT T3 q 0 _ hT3z (by omega)).mono ?_
              rw [N2]
              rintro e w5 ⟨rfl, hE⟩
              have HS := Lib.hid (HS.out.ext hE)
              have HCB := Lib.hid (Blk.ext HCB.out hE)
              clear c0 c1 c2 f0 f1 f2 hE
              obtain ⟨c0, c1, c2, f0, f1, f2⟩ := HS.out.cells
              go_upto_region 12 with fail
              have HS := Lib.hid (HS.out.set T3 q 3)
              have HCB := Lib.hid (show Blk (((w5.setCell ⟨pb, 0, none⟩ (.string T3)).setCell ⟨pb, 1, none⟩ (.int .i64 ((q : Nat) : Int))).setCell ⟨pb, 2, none⟩ (.int .i64 3)) cb _ _ from ((Blk.far HCB.out hcp _).far hcp _).far hcp _)
              clear c0 c1 c2 f0 f1 f2
              generalize ((w5.setCell ⟨pb, 0, none⟩ (.string T3)).setCell ⟨pb, 1, none⟩ (.int .i64 ((q : Nat) : Int))).setCell ⟨pb, 2, none⟩ (.int .i64 3) = w6 at *
              obtain ⟨c0, c1, c2, f0, f1, f2⟩ := HS.out.cells
              obtain ⟨z0, z1, z2, z3, z4, y0, y1, y2, y3, y4, hrl⟩ := HS.out.res
              have hne := HS.out.2.2.2.1
              have hne2 := hne.symm
              go_wp2_with fail
              go_region
              all_goals
                go_wp2_with fail
                refine bodyPost_ret (v := .tuple #[.agg CZ, .int .i64 3]) (by simp [results, Tryd.results10, go_sem, z0, z1, z2, z3, z4]) rfl ?_
                rw [HRT.out]
                exact ⟨(HS.out.ext (ext_drew (Ext.rfl' _))).out _ _ _ _ _, rfl⟩
            | form =>
              have N2 : nT T3 q 0 = (0, T3, q, 4) := by unfold nT; rw [if_neg (by simp), HT3.out, hv2]
              have HRT : Hid (readAt (natsOf s) (a : Int) = .bad 4) := Lib.hid (HR4.out 4 (by rw [HSC.out, if_neg (by omega), hv2]))
              clear hv2
              obtain ⟨c0, c1, c2, f0, f1, f2⟩ := HS.out.cells
              go_wp2_with fail
              refine (numT T3 q 0 _ hT3z (by omega)).mono ?_
              rw [N2]
              rintro e w5 ⟨rfl, hE⟩
              have HS := Lib.hid (HS.out.ext hE)
              have HCB := Lib.hid (Blk.ext HCB.out hE)
              clear c0 c1 c2 f0 f1 f2 hE
              obtain ⟨c0, c1, c2, f0, f1, f2⟩ := HS.out.cells
              go_upto_region 12 with fail
              have HS := Lib.hid (HS.out.set T3 q 4)
              have HCB := Lib.hid (show Blk (((w5.setCell ⟨pb, 0, none⟩ (.string T3)).setCell ⟨pb, 1, none⟩ (.int .i64 ((q : Nat) : Int))).setCell ⟨pb, 2, none⟩ (.int .i64 4)) cb _ _ from ((Blk.far HCB.out hcp _).far hcp _).far hcp _)
              clear c0 c1 c2 f0 f1 f2
              generalize ((w5.setCell ⟨pb, 0, none⟩ (.string T3)).setCell ⟨pb, 1, none⟩ (.int .i64 ((q : Nat) : Int))).setCell ⟨pb, 2, none⟩ (.int .i64 4) = w6 at *
              obtain ⟨c0, c1, c2, f0, f1, f2⟩ := HS.out.cells
              obtain ⟨z0, z1, z2, z3, z4, y0, y1, y2, y3, y4, hrl⟩ := HS.out.res
              have hne := HS.out.2.2.2.1
              have hne2 := hne.symm
              go_wp2_with fail
              go_region
              all_goals
                go_wp2_with fail
                refine bodyPost_ret (v := .tuple #[.agg CZ, .int .i64 4]) (by simp [results, Tryd.results10, go_sem, z0, z1, z2, z3, z4]) rfl ?_
                rw [HRT.out]
                exact ⟨(HS.out.ext (ext_drew (Ext.rfl' _))).out _ _ _ _ _, rfl⟩
            | ok n i =>
              have hnz := lim_le hv2
              obtain ⟨T4, hT4⟩ : ∃ T4, T4 = T3.extract i T3.size := ⟨_, rfl⟩
              obtain ⟨k, hk⟩ : ∃ k, k = q + i := ⟨_, rfl⟩
              have N2 : nT T3 q 0 = (n, T4, k, 0) := by unfold nT; rw [if_neg (by simp), HT3.out, hv2, hT4, hk]
              have HT4 : Hid (natsOf T4 = L.drop k) := Lib.hid (by rw [hT4, Com.nats_ext, HT3.out, List.drop_drop, hk])
              have hT4l : T4.size = L.length - k := by rw [← natsOf_len, HT4.out, List.length_drop]
              have hT4z : T4.size ≤ 1000000 := by omega
              have hi := (lim_low hv2).1
              have hk30 : k ≤ 30 := by omega
              have hkL : k ≤ L.length := by have := lim_len hv2; rw [List.length_drop] at this; omega
              rw [hv2] at HSC
              simp only at HSC
              rw [if_neg (by omega), ← hk] at HSC
              obtain ⟨MIS, hMIS⟩ : ∃ M : Prop, M = ((c9 = 0 ∧ n ≠ size) ∨ (c9 = 1 ∧ size ≤ n)) := ⟨_, rfl⟩
              have hdm : Decidable MIS := by rw [hMIS]; infer_instance
              have HMIS := Lib.hid hMIS
              clear hT4 hv2 hMIS hk
              obtain ⟨c0, c1, c2, f0, f1, f2⟩ := HS.out.cells
              go_wp2_with fail
              refine (numT T3 q 0 _ hT3z (by omega)).mono ?_
              rw [N2]
              rintro e w5 ⟨rfl, hE⟩
              have HS := Lib.hid (HS.out.ext hE)
              have HCB := Lib.hid (Blk.ext HCB.out hE)
              clear c0 c1 c2 f0 f1 f2 hE
              obtain ⟨c0, c1, c2, f0, f1, f2⟩ := HS.out.cells
              go_upto_region 12 with fail
              have HS := Lib.hid (HS.out.set T4 k 0)
              have HCB := Lib.hid (show Blk (((w5.setCell ⟨pb, 0, none⟩ (.string T4)).setCell ⟨pb, 1, none⟩ (.int .i64 ((k : Nat) : Int))).setCell ⟨pb, 2, none⟩ (.int .i64 0)) cb _ _ from ((Blk.far HCB.out hcp _).far hcp _).far hcp _)
              clear c0 c1 c2 f0 f1 f2
              generalize ((w5.setCell ⟨pb, 0, none⟩ (.string T4)).setCell ⟨pb, 1, none⟩ (.int .i64 ((k : Nat) : Int))).setCell ⟨pb, 2, none⟩ (.int .i64 0) = w6 at *
              clear N2
              have q1 := Blk.cell HCB.out 1
              simp only [List.getElem?_toArray, List.getElem?_cons_zero, List.getElem?_cons_succ] at q1
              obtain ⟨c0, c1, c2, f0, f1, f2⟩ := HS.out.cells
              go_upto_region 14 with fail
              go_cut [85] from 69 to 130 (fun bv wx => bv = .bool (@decide MIS hdm) ∧ wx = w6)
              case first =>
                rcases (by omega : c9 = 0 ∨ c9 = 1) with h9 | h9
                · subst h9
                  have hpk : (decide ((0 : Nat) = 1)) = false := rfl
                  by_cases hns : n = size
                  · have hD : @decide MIS hdm = false := decide_eq_false (by rw [HMIS.out]; omega)
                    have hb : ((n : Int) != (size : Int)) = false := by simp; omega
                    have HD := Lib.hid hD
                    clear hD hns
                    go_wp2_with fail
                    go_meet
                    exact ⟨by rw [HD.out], rfl⟩
                  · have hD : @decide MIS hdm = true := decide_eq_true (by rw [HMIS.out]; omega)
                    have hb : ((n : Int) != (size : Int)) = true := by simp; omega
                    have HD := Lib.hid hD
                    clear hD hns
                    go_wp2_with fail
                    go_meet
                    exact ⟨by rw [HD.out], rfl⟩
                · subst h9
                  have hpk : (decide ((1 : Nat) = 1)) = true := rfl
                  by_cases hns : size ≤ n
                  · have hD : @decide MIS hdm = true := decide_eq_true (by rw [HMIS.out]; omega)
                    have hb : (size : Int) ≤ (n : Int) := by omega
                    have HD := Lib.hid hD
                    clear hD hns
                    go_wp2_with fail
                    go_meet
                    exact ⟨by rw [HD.out], rfl⟩
                  · have hD : @decide MIS hdm = false := decide_eq_false (by rw [HMIS.out]; omega)
                    have hb : ¬ (size : Int) ≤ (n : Int) := by omega
                    have HD := Lib.hid hD
                    clear hD hns
                    go_wp2_with fail
                    go_meet
                    exact ⟨by rw [HD.out], rfl⟩
              case rest =>
                obtain ⟨rfl, rfl⟩ := hcut
                clear c0 c1 c2 f0 f1 f2 q1
                by_cases hmis : MIS
                · have hD : @decide MIS hdm = true := decide_eq_true hmis
                  rw [hD]
                  have HRT : Hid (readAt (natsOf s) (a : Int) = .bad 4) := Lib.hid (HR4.out 4 (by rw [HSC.out, if_pos (by rw [← HMIS.out]; exact hmis)]))
                  clear hD hmis
                  obtain ⟨c0, c1, c2, f0, f1, f2⟩ := HS.out.cells
                  obtain ⟨z0, z1, z2, z3, z4, y0, y1, y2, y3, y4, hrl⟩ := HS.out.res
                  go_wp2_with fail
                  refine bodyPost_ret (v := .tuple #[.agg CZ, .int .i64 4]) (by simp [results, Tryd.results10, go_sem, z0, z1, z2, z3, z4]) rfl ?_
                  rw [HRT.out]
                  exact ⟨HS.out.out _ _ _ _ _, rfl⟩
                · have hD : @decide MIS hdm = false := decide_eq_false hmis
                  rw [hD]
                  have HS2 : Hid (Chk.scan L = .ok c9 size n k) := Lib.hid (by rw [HSC.out, if_neg (by rw [← HMIS.out]; exact hmis)])
                  have HRN : Hid (readAt (natsOf s) (a : Int) = if L.length < k + n + 4 then .bad 3 else if be ((L.drop (k + n)).take 4) ≠ crc (L.take (k + n)) then .bad 5 else .ok c8 c9 size ((L.drop k).take n) (a + (k + n + 4))) := Lib.hid (by
                    have hr : Chk.read L = if L.length < k + n + 4 then .bad 3 else if be ((L.drop (k + n)).take 4) ≠ crc (L.take (k + n)) then .bad 5 else .ok c8 c9 size ((L.drop k).take n) (k + n + 4) := by
                      unfold Chk.read; rw [HS2.out, HC8.out]
                    by_cases g1 : L.length < k + n + 4
                    · rw [if_pos g1] at hr ⊢; exact HRA.out 3 hr
                    · rw [if_neg g1] at hr ⊢
                      by_cases g2 : be ((L.drop (k + n)).take 4) ≠ crc (L.take (k + n))
                      · rw [if_pos g2] at hr ⊢; exact HRA.out 5 hr
                      · rw [if_neg g2] at hr ⊢; exact HRO.out _ _ _ _ _ hr)
                  clear hD hmis HSC HMIS HR4 HRA HRO HC8 HC9
                  have hwn : IntKind.i64.wrap (n : Int) = (n : Int) := IntWalk.i64_in _ (by omega)
                  obtain ⟨c0, c1, c2, f0, f1, f2⟩ := HS.out.cells
                  go_wp2_with fail
                  by_cases hbl : T4.size < n
                  · have BB : bT T4 k n 0 = (⟨#[]⟩, T4, k, 3) := by unfold bT; rw [if_neg (by simp), if_pos hbl]
                    have B2 : bT T4 k 4 3 = (⟨#[]⟩, T4, k, 3) := by unfold bT; rw [if_pos (by decide)]
                    have HRT : Hid (readAt (natsOf s) (a : Int) = .bad 3) := Lib.hid (by rw [HRN.out, if_pos (by omega)])
                    refine (bytesT T4 k n 0 _ hT4z (by omega)).mono ?_
                    rw [BB]
                    rintro e w5 ⟨rfl, hE⟩
                    have HS := Lib.hid (HS.out.ext hE)
                    have HCB := Lib.hid (Blk.ext HCB.out hE)
                    clear c0 c1 c2 f0 f1 f2 hE
                    obtain ⟨c0, c1, c2, f0, f1, f2⟩ := HS.out.cells
                    go_upto_region 17 with fail
                    have HS := Lib.hid (HS.out.set T4 k 3)
                    have HCB := Lib.hid (show Blk (((w5.setCell ⟨pb, 0, none⟩ (.string T4)).setCell ⟨pb, 1, none⟩ (.int .i64 ((k : Nat) : Int))).setCell ⟨pb, 2, none⟩ (.int .i64 3)) cb _ _ from ((Blk.far HCB.out hcp _).far hcp _).far hcp _)
                    clear c0 c1 c2 f0 f1 f2
                    generalize ((w5.setCell ⟨pb, 0, none⟩ (.string T4)).setCell ⟨pb, 1, none⟩ (.int .i64 ((k : Nat) : Int))).setCell ⟨pb, 2, none⟩ (.int .i64 3) = w6 at *
                    obtain ⟨c0, c1, c2, f0, f1, f2⟩ := HS.out.cells
                    go_wp2_with fail
                    refine (bytesT T4 k 4 3 _ hT4z (by omega)).mono ?_
                    rw [B2]
                    rintro e w5 ⟨rfl, hE⟩
                    have HS := Lib.hid (HS.out.ext hE)
                    have HCB := Lib.hid (Blk.ext HCB.out hE)
                    clear c0 c1 c2 f0 f1 f2 hE
                    obtain ⟨c0, c1, c2, f0, f1, f2⟩ := HS.out.cells
                    go_upto_region 19 with fail
                    have HS := Lib.hid (HS.out.set T4 k 3)
                    have HCB := Lib.hid (show Blk (((w5.setCell ⟨pb, 0, none⟩ (.string T4)).setCell ⟨pb, 1, none⟩ (.int .i64 ((k : Nat) : Int))).setCell ⟨pb, 2, none⟩ (.int .i64 3)) cb _ _ from ((Blk.far HCB.out hcp _).far hcp _).far hcp _)
                    clear c0 c1 c2 f0 f1 f2
                    generalize ((w5.setCell ⟨pb, 0, none⟩ (.string T4)).setCell ⟨pb, 1, none⟩ (.int .i64 ((k : Nat) : Int))).setCell ⟨pb, 2, none⟩ (.int .i64 3) = w6 at *
                    obtain ⟨c0, c1, c2, f0, f1, f2⟩ := HS.out.cells
                    obtain ⟨z0, z1, z2, z3, z4, y0, y1, y2, y3, y4, hrl⟩ := HS.out.res
                    have hne := HS.out.2.2.2.1
                    have hne2 := hne.symm
                    go_wp2_with fail
                    go_region
                    all_goals
                      go_wp2_with fail
                      refine bodyPost_ret (v := .tuple #[.agg CZ, .int .i64 3]) (by simp [results, Tryd.results10, go_sem, z0, z1, z2, z3, z4]) rfl ?_
                      rw [HRT.out]
                      exact ⟨(HS.out.ext (ext_drew (Ext.rfl' _))).out _ _ _ _ _, rfl⟩
                  · obtain ⟨T5, hT5⟩ : ∃ T5, T5 = T4.extract n T4.size := ⟨_, rfl⟩
                    obtain ⟨Y4, hY4⟩ : ∃ Y4, Y4 = T4.extract 0 n := ⟨_, rfl⟩
                    obtain ⟨k2, hk2⟩ : ∃ k2, k2 = k + n := ⟨_, rfl⟩
                    have BB : bT T4 k n 0 = (Y4, T5, k2, 0) := by unfold bT; rw [if_neg (by simp), if_neg hbl, hT5, hY4, hk2]
                    have HT5 : Hid (natsOf T5 = L.drop k2) := Lib.hid (by rw [hT5, Com.nats_ext, HT4.out, List.drop_drop, hk2])
                    have hT5l : T5.size = L.length - k2 := by rw [← natsOf_len, HT5.out, List.length_drop]
                    have hT5z : T5.size ≤ 1000000 := by omega
                    have HY4 : Hid (Y4 = strOf ((L.drop k).take n)) := Lib.hid (by rw [hY4, Com.str_ext, HT4.out]; simp)
                    have hk2z : k2 ≤ 1000030 := by omega
                    have hk2L : k2 ≤ L.length := by omega
                    have hknk : k + n = k2 := hk2.symm
                    have HRN : Hid (readAt (natsOf s) (a : Int) = if L.length < k2 + 4 then .bad 3 else if be ((L.drop k2).take 4) ≠ crc (L.take k2) then .bad 5 else .ok c8 c9 size ((L.drop k).take n) (a + (k2 + 4))) := Lib.hid (by rw [HRN.out, hknk])
                    clear hT5 hY4 hk2 hknk hbl
                    refine (bytesT T4 k n 0 _ hT4z (by omega)).mono ?_
                    rw [BB]
                    rintro e w5 ⟨rfl, hE⟩
                    have HS := Lib.hid (HS.out.ext hE)
                    have HCB := Lib.hid (Blk.ext HCB.out hE)
                    clear c0 c1 c2 f0 f1 f2 hE
                    obtain ⟨c0, c1, c2, f0, f1, f2⟩ := HS.out.cells
                    go_upto_region 17 with fail
                    have HS := Lib.hid (HS.out.set T5 k2 0)
                    have HCB := Lib.hid (show Blk (((w5.setCell ⟨pb, 0, none⟩ (.string T5)).setCell ⟨pb, 1, none⟩ (.int .i64 ((k2 : Nat) : Int))).setCell ⟨pb, 2, none⟩ (.int .i64 0)) cb _ _ from ((Blk.far HCB.out hcp _).far hcp _).far hcp _)
                    clear c0 c1 c2 f0 f1 f2
                    generalize ((w5.setCell ⟨pb, 0, none⟩ (.string T5)).setCell ⟨pb, 1, none⟩ (.int .i64 ((k2 : Nat) : Int))).setCell ⟨pb, 2, none⟩ (.int .i64 0) = w6 at *
                    obtain ⟨c0, c1, c2, f0, f1, f2⟩ := HS.out.cells
                    clear BB
                    by_cases hbl : T5.size < 4
                    · have BB : bT T5 k2 4 0 = (⟨#[]⟩, T5, k2, 3) := by unfold bT; rw [if_neg (by simp), if_pos hbl]
                      have HRT : Hid (readAt (natsOf s) (a : Int) = .bad 3) := Lib.hid (by rw [HRN.out, if_pos (by omega)])
                      go_wp2_with fail
                      refine (bytesT T5 k2 4 0 _ hT5z (by omega)).mono ?_
                      rw [BB]
                      rintro e w5 ⟨rfl, hE⟩
                      have HS := Lib.hid (HS.out.ext hE)
                      have HCB := Lib.hid (Blk.ext HCB.out hE)
                      clear c0 c1 c2 f0 f1 f2 hE
                      obtain ⟨c0, c1, c2, f0, f1, f2⟩ := HS.out.cells
                      go_upto_region 19 with fail
                      have HS := Lib.hid (HS.out.set T5 k2 3)
                      have HCB := Lib.hid (show Blk (((w5.setCell ⟨pb, 0, none⟩ (.string T5)).setCell ⟨pb, 1, none⟩ (.int .i64 ((k2 : Nat) : Int))).setCell ⟨pb, 2, none⟩ (.int .i64 3)) cb _ _ from ((Blk.far HCB.out hcp _).far hcp _).far hcp _)
                      clear c0 c1 c2 f0 f1 f2
                      generalize ((w5.setCell ⟨pb, 0, none⟩ (.string T5)).setCell ⟨pb, 1, none⟩ (.int .i64 ((k2 : Nat) : Int))).setCell ⟨pb, 2, none⟩ (.int .i64 3) = w6 at *
                      obtain ⟨c0, c1, c2, f0, f1, f2⟩ := HS.out.cells
                      obtain ⟨z0, z1, z2, z3, z4, y0, y1, y2, y3, y4, hrl⟩ := HS.out.res
                      have hne := HS.out.2.2.2.1
                      have hne2 := hne.symm
                      go_wp2_with fail
                      go_region
                      all_goals
                        go_wp2_with fail
                        refine bodyPost_ret (v := .tuple #[.agg CZ, .int .i64 3]) (by simp [results, Tryd.results10, go_sem, z0, z1, z2, z3, z4]) rfl ?_
                        rw [HRT.out]
                        exact ⟨(HS.out.ext (ext_drew (Ext.rfl' _))).out _ _ _ _ _, rfl⟩
                    · obtain ⟨T6, hT6⟩ : ∃ T6, T6 = T5.extract 4 T5.size := ⟨_, rfl⟩
                      obtain ⟨S9, hS9⟩ : ∃ S9, S9 = T5.extract 0 4 := ⟨_, rfl⟩
                      obtain ⟨k3, hk3⟩ : ∃ k3, k3 = k2 + 4 := ⟨_, rfl⟩
                      have BB : bT T5 k2 4 0 = (S9, T6, k3, 0) := by unfold bT; rw [if_neg (by simp), if_neg hbl, hT6, hS9, hk3]
                      have HS9 : Hid (S9 = strOf ((L.drop k2).take 4)) := Lib.hid (by rw [hS9, Com.str_ext, HT5.out]; simp)
                      have hLk : k2 + 4 ≤ L.length := by omega
                      have hk3z : k3 ≤ 1000034 := by omega
                      have HK3 := Lib.hid hk3
                      have HRN : Hid (readAt (natsOf s) (a : Int) = if be ((L.drop k2).take 4) ≠ crc (L.take k2) then .bad 5 else .ok c8 c9 size ((L.drop k).take n) (a + k3)) := Lib.hid (by rw [HRN.out, if_neg (by omega), hk3])
                      clear hT6 hS9 hk3 hbl
                      go_wp2_with fail
                      refine (bytesT T5 k2 4 0 _ hT5z (by omega)).mono ?_
                      rw [BB]
                      rintro e w5 ⟨rfl, hE⟩
                      have HS := Lib.hid (HS.out.ext hE)
                      have HCB := Lib.hid (Blk.ext HCB.out hE)
                      clear c0 c1 c2 f0 f1 f2 hE
                      obtain ⟨c0, c1, c2, f0, f1, f2⟩ := HS.out.cells
                      go_upto_region 19 with fail
                      have HS := Lib.hid (HS.out.set T6 k3 0)
                      have HCB := Lib.hid (show Blk (((w5.setCell ⟨pb, 0, none⟩ (.string T6)).setCell ⟨pb, 1, none⟩ (.int .i64 ((k3 : Nat) : Int))).setCell ⟨pb, 2, none⟩ (.int .i64 0)) cb _ _ from ((Blk.far HCB.out hcp _).far hcp _).far hcp _)
                      clear c0 c1 c2 f0 f1 f2
                      generalize ((w5.setCell ⟨pb, 0, none⟩ (.string T6)).setCell ⟨pb, 1, none⟩ (.int .i64 ((k3 : Nat) : Int))).setCell ⟨pb, 2, none⟩ (.int .i64 0) = w6 at *
                      obtain ⟨c0, c1, c2, f0, f1, f2⟩ := HS.out.cells
                      clear BB
                      go_upto_region 21 with fail
                      have e1 : ((a : Int) + (k2 : Int)).toNat = a + k2 := by omega
                      have g1 : (a : Int) ≤ (a : Int) + (k2 : Int) := by omega
                      have g2 : (a : Int) + (k2 : Int) ≤ (s.size : Int) := by omega
                      obtain ⟨P, hP⟩ : ∃ P, P = s.extract a (a + k2) := ⟨_, rfl⟩
                      have HPN : Hid (natsOf P = L.take k2) := Lib.hid (by rw [hP, Com.str_ext, nats_strOf (small_mem (fun c hc => mem_small (natsOf_small s) c (List.mem_of_mem_drop (List.mem_of_mem_take hc)))), HL.out]; congr 1; omega)
                      have hPz : P.size = k2 := by rw [← natsOf_len, HPN.out, List.length_take]; omega
                      obtain ⟨c7, w7, hcv, hc1, hc2, hB7, hE7⟩ := Com.conv_text w6 P (by omega)
                      rw [HPN.out] at hB7
                      have HCS := Lib.hid (Crc.rsum (some ⟨w6.heap.size, 0, none⟩) P.size c7 (L.take k2) w7 hB7 (by omega))
                      have HRF := Lib.hid (fun W => Wire.refFixed (crc (L.take k2)) (crc_lt _) W)
                      have HS := Lib.hid (HS.out.ext hE7)
                      have HCB := Lib.hid (Blk.ext HCB.out hE7)
                      have hcrl := crc_lt (L.take k2)
                      obtain ⟨cr, hcr2⟩ : ∃ cr, cr = crc (L.take k2) := ⟨_, rfl⟩
                      change Hid (Calls Tryd.prog 21 #[.slice (some ⟨w6.heap.size, 0, none⟩) P.size c7] w7 fun e w' => e = .returned (.int .u32 (crc (L.take k2) : Int)) ∧ w7 = w') at HCS
                      rw [← hcr2] at HRN HCS HRF hcrl
                      have hfs : S9 = strOf (fx cr) ↔ be ((L.drop k2).take 4) = cr := by
                        have hm4 : ∀ c ∈ (L.drop k2).take 4, c < 256 := fun c hc => by
                          rw [HL.out] at hc
                          exact mem_small (natsOf_small s) c (List.mem_of_mem_drop (List.mem_of_mem_drop (List.mem_of_mem_take hc)))
                        have hl4 : ((L.drop k2).take 4).length = 4 := by rw [List.length_take, List.length_drop]; omega
                        rw [HS9.out]
                        constructor
                        · intro h
                          have := strOf_inj (small_mem hm4) (small_mem (fx_mem hcrl)) h
                          rw [this, be_fx hcrl]
                        · intro h
                          rw [← h, fx_be hm4 hl4]
                      obtain ⟨FX, hFX⟩ : ∃ FX, FX = strOf (fx cr) := ⟨_, rfl⟩
                      rw [← hFX] at hfs HRF
                      have HFS := Lib.hid hfs
                      clear hfs hFX hB7 hE7 hcr2 c0 c1 c2 f0 f1 f2
                      generalize w6.heap.size = g7 at *
                      rw [hPz] at hcv HCS
                      rw [hP] at hcv
                      go_wp2_with fail
                      clear hcv
                      refine (HCS.out).mono ?_
                      rintro e w9 ⟨rfl, rfl⟩
                      go_wp2_with fail
                      refine (HRF.out _).mono ?_
                      rintro e w9 ⟨rfl, hE9⟩
                      have HS := Lib.hid (HS.out.ext hE9)
                      have HCB := Lib.hid (Blk.ext HCB.out hE9)
                      clear hE9
                      by_cases heq : FX = S9
                      · have HRT : Hid (readAt (natsOf s) (a : Int) = .ok c8 c9 size ((L.drop k).take n) (a + k3)) := Lib.hid (by rw [HRN.out, if_neg (by rw [(HFS.out.1 heq.symm)]; simp)])
                        subst heq
                        obtain ⟨c0, c1, c2, f0, f1, f2⟩ := HS.out.cells
                        have q0 := Blk.cell HCB.out 0; have q1 := Blk.cell HCB.out 1; have q2 := Blk.cell HCB.out 2; have q3 := Blk.cell HCB.out 3; have q4 := Blk.cell HCB.out 4
                        simp only [List.getElem?_toArray, List.getElem?_cons_zero, List.getElem?_cons_succ] at q0 q1 q2 q3 q4
                        have r2 := Blk.frozen HCB.out 2; have r3 := Blk.frozen HCB.out 3; have r4 := Blk.frozen HCB.out 4
                        have hws : IntKind.i64.wrap (size : Int) = (size : Int) := IntWalk.i64_in _ (by omega)
                        go_upto_region 26 with fail
                        have HCB := Lib.hid (((Blk.set_ HCB.out 2 (.int .i64 (size : Int))).set_ 3 (.string Y4)).set_ 4 (.int .i64 ((a : Int) + (k3 : Int))))
                        have HS := Lib.hid (((HS.out.far hcr hcp hcw 2 (.int .i64 (size : Int))).far hcr hcp hcw 3 (.string Y4)).far hcr hcp hcw 4 (.int .i64 ((a : Int) + (k3 : Int))))
                        clear c0 c1 c2 f0 f1 f2 q0 q1 q2 q3 q4 r2 r3 r4
                        generalize ((w9.setCell ⟨cb, 2, none⟩ (.int .i64 (size : Int))).setCell ⟨cb, 3, none⟩ (.string Y4)).setCell ⟨cb, 4, none⟩ (.int .i64 ((a : Int) + (k3 : Int))) = w10 at *
                        have q0 := Blk.cell HCB.out 0; have q1 := Blk.cell HCB.out 1; have q2 := Blk.cell HCB.out 2; have q3 := Blk.cell HCB.out 3; have q4 := Blk.cell HCB.out 4
                        simp only [List.setIfInBounds_toArray, List.set_cons_zero, List.set_cons_succ, List.getElem?_toArray, List.getElem?_cons_zero, List.getElem?_cons_succ] at q0 q1 q2 q3 q4
                        obtain ⟨z0, z1, z2, z3, z4, y0, y1, y2, y3, y4, hrl⟩ := HS.out.res
                        go_wp2_with fail
                        refine bodyPost_ret (v := .tuple #[.agg #[.int .u8 (c8 : Int), .bool (decide (c9 = 1)), .int .i64 (size : Int), .string Y4, .int .i64 ((a : Int) + (k3 : Int))], .int .i64 0]) (by simp [results, Tryd.results10, go_sem, z0, z1, z2, z3, z4]) rfl ?_
                        rw [HRT.out]
                        exact ⟨HS.out.out _ _ _ _ _, by rw [HY4.out]; simp only [Int.natCast_add]⟩
                      · have hns : (FX.toList == S9.toList) = false := beq_eq_false_iff_ne.2 (str_ne heq)
                        have HRT : Hid (readAt (natsOf s) (a : Int) = .bad 5) := Lib.hid (by rw [HRN.out, if_pos (fun h => heq (HFS.out.2 h).symm)])
                        clear heq
                        obtain ⟨c0, c1, c2, f0, f1, f2⟩ := HS.out.cells
                        obtain ⟨z0, z1, z2, z3, z4, y0, y1, y2, y3, y4, hrl⟩ := HS.out.res
                        go_wp2_with fail
                        refine bodyPost_ret (v := .tuple #[.agg CZ, .int .i64 5]) (by simp [results, Tryd.results10, go_sem, z0, z1, z2, z3, z4]) rfl ?_
                        rw [HRT.out]
                        exact ⟨HS.out.out _ _ _ _ _, rfl⟩
end Go.Proofs.YtckjmabacibojaaDoor.Chk
