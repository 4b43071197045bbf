/- The known arena. -/
import Derived.Test.YtdbjknljdplinaaAreF
namespace Go.Proofs.Ytdbjknljdplinaa.Arena
open Go.ChangeShapes Go.WideShapes Go.ChangeAt Go.RowKit
set_option linter.unusedVariables false

def G0 : Nat → Nat := fun _ => 0
def G1 : Nat → Nat := up G0 0 1
def T0 : Nat → Bool := fun _ => false
def T1 : Nat → Bool := up T0 0 true
def T2 : Nat → Bool := up T1 1 true
def T3 : Nat → Bool := up T2 0 false
def T4 : Nat → Bool := up T3 0 true
def X0 : Nat → Int := fun _ => 0
def X1 : Nat → Int := up X0 0 7
def X2 : Nat → Int := up X1 1 8
def X3 : Nat → Int := up X2 0 0
def X4 : Nat → Int := up X3 0 9
theorem g0b : ∀ i, i < 128 → G0 i ≤ 512 := by decide
theorem g1b : ∀ i, i < 128 → G1 i ≤ 512 := by decide
theorem g1t : ∀ i, i < 128 → T4 i = true → G1 i ≤ 511 := by decide
theorem add_of {g : Nat → Nat} {t : Nat → Bool} {x : Nat → Int} {v : Int} {i n : Nat} (hg : ∀ i, i < 128 → g i ≤ 512) (h : fnd g t = some i) (hn : i + 128 * g i = n) (w : World) :
    Calls Try.prog 54 #[.agg (cA g t x), .int .i64 v] w fun e w' => e = .returned (.tuple #[.agg (cA g (up t i true) (up x i v)), .int .u16 (n : Int), .bool true]) ∧ Ext w w' := by
  have h1 := add g t x v w hg
  unfold addR at h1
  rw [h] at h1
  subst hn
  exact h1
theorem get_of {g : Nat → Nat} {t : Nat → Bool} {x : Nat → Int} {id : Nat} {v : Int} {b : Bool} (hi : id < 65536) (hg : g (id % 128) < 65536) (h : hs g t id = b) (hv : (if b then x (id % 128) else 0) = v) (w : World) :
    Calls Try.prog 56 #[.agg (cA g t x), .int .u16 (id : Int)] w fun e w' => e = .returned (.tuple #[.int .i64 v, .bool b]) ∧ Ext w w' := by
  have h1 := get g t x id w hi hg
  rw [h, hv] at h1
  exact h1
theorem drop_of {g : Nat → Nat} {t : Nat → Bool} {x : Nat → Int} {id : Nat} (hi : id < 65536) (hg : g (id % 128) ≤ 512) (h : hs g t id = true) (w : World) :
    Calls Try.prog 50 #[.agg (cA g t x), .int .u16 (id : Int)] w fun e w' => e = .returned (.agg (cA (up g (id % 128) (g (id % 128) + 1)) (up t (id % 128) false) (up x (id % 128) 0))) ∧ Ext w w' := by
  have h1 := drop g t x id w hi hg
  unfold eA at h1
  rw [if_pos h] at h1
  exact h1
def Kn (A0 A1 A2 A3 A4 : Array Value) : Prop :=
  (∀ w, Calls Try.prog 54 #[.agg A0, .int .i64 7] w fun e w' => e = .returned (.tuple #[.agg A1, .int .u16 0, .bool true]) ∧ Ext w w') ∧
  (∀ w, Calls Try.prog 54 #[.agg A1, .int .i64 8] w fun e w' => e = .returned (.tuple #[.agg A2, .int .u16 1, .bool true]) ∧ Ext w w') ∧
  (∀ w, Calls Try.prog 50 #[.agg A2, .int .u16 0] w fun e w' => e = .returned (.agg A3) ∧ Ext w w') ∧
  (∀ w, Calls Try.prog 54 #[.agg A3, .int .i64 9] w fun e w' => e = .returned (.tuple #[.agg A4, .int .u16 128, .bool true]) ∧ Ext w w') ∧
  (∀ w, Calls Try.prog 56 #[.agg A4, .int .u16 128] w fun e w' => e = .returned (.tuple #[.int .i64 9, .bool true]) ∧ Ext w w') ∧
  (∀ w, Calls Try.prog 56 #[.agg A4, .int .u16 0] w fun e w' => e = .returned (.tuple #[.int .i64 0, .bool false]) ∧ Ext w w') ∧
  (∀ w, Calls Try.prog 56 #[.agg A2, .int .u16 0] w fun e w' => e = .returned (.tuple #[.int .i64 7, .bool true]) ∧ Ext w w') ∧
  (∀ w, Calls Try.prog 59 #[.agg A4] w fun e w' => (∃ A c, e = .returned (.slice A 2 c)) ∧ Ext w w') ∧
  (∀ w, Calls Try.prog 69 #[.agg A4, .int .i64 0] w fun e w' => e = .returned (.int .i64 1) ∧ Ext w w') ∧
  (∀ w, Calls Try.prog 70 #[.agg A4, .int .i64 5] w fun e w' => e = .returned (.bool true) ∧ Ext w w') ∧
  (∀ w, Calls Try.prog 70 #[.agg A4, .int .i64 128] w fun e w' => e = .returned (.bool false) ∧ Ext w w') ∧
  (A0.size = 384 ∧ A1.size = 384 ∧ A2.size = 384 ∧ A3.size = 384 ∧ A4.size = 384) ∧
  (A1.all (·.oneCell') = true ∧ A2.all (·.oneCell') = true ∧ A3.all (·.oneCell') = true ∧ A4.all (·.oneCell') = true)
theorem kn : Kn (cA G0 T0 X0) (cA G0 T1 X1) (cA G0 T2 X2) (cA G1 T3 X3) (cA G1 T4 X4) :=
  ⟨fun w => add_of g0b (i := 0) (n := 0) (by decide) (by decide) w, fun w => add_of g0b (i := 1) (n := 1) (by decide) (by decide) w,
   fun w => drop_of (id := 0) (by decide) (by decide) (by decide) w, fun w => add_of g1b (i := 0) (n := 128) (by decide) (by decide) w,
   fun w => get_of (id := 128) (by decide) (by decide) (by decide) (by decide) w, fun w => get_of (id := 0) (by decide) (by decide) (by decide) (by decide) w, fun w => get_of (id := 0) (by decide) (by decide) (by decide) (by decide) w,
   fun w => (ids G1 T4 X4 w g1t).mono (fun e w' ⟨v, he, hr, hb⟩ => by
     obtain ⟨A, c, rfl, _⟩ := own_shape hr
     exact ⟨⟨A, c, he⟩, hb⟩),
   fun w => generation G1 T4 X4 0 w (by decide) (by decide), fun w => free G1 T4 X4 5 w (by decide), fun w => free_no _ 128 w (by decide),
   ⟨cA_size, cA_size, cA_size, cA_size, cA_size⟩, ⟨cA_one, cA_one, cA_one, cA_one⟩⟩
set_option maxHeartbeats 8000000 in
set_option maxRecDepth 100000 in
theorem wakes (w : World) : Calls Try.prog 49 #[] w fun e w' => e = .returned (.bool true) ∧ Ext w w' := by
  have HK := Lib.hid kn
  have HZ : Hid (zA = cA G0 T0 X0) := Lib.hid rfl
  generalize cA G0 T0 X0 = A0 at HK HZ
  generalize cA G0 T1 X1 = A1 at HK
  generalize cA G0 T2 X2 = A2 at HK
  generalize cA G1 T3 X3 = A3 at HK
  generalize cA G1 T4 X4 = A4 at HK
  unfold Kn at HK
  obtain ⟨k1, k2, k3, k4, k5, k6, k7, k8, k9, k10, k11, ⟨z0, z1, z2, z3, z4⟩, ⟨o1, o2, o3, o4⟩⟩ := HK.out
  have K1 := Lib.hid k1; have K2 := Lib.hid k2; have K3 := Lib.hid k3; have K4 := Lib.hid k4; have K5 := Lib.hid k5; have K6 := Lib.hid k6; have K7 := Lib.hid k7; have K8 := Lib.hid k8; have K9 := Lib.hid k9; have K10 := Lib.hid k10; have K11 := Lib.hid k11
  have Z0 := Lib.hid z0; have Z1 := Lib.hid z1; have Z2 := Lib.hid z2; have Z3 := Lib.hid z3; have Z4 := Lib.hid z4
  have O1 := Lib.hid o1; have O2 := Lib.hid o2; have O3 := Lib.hid o3; have O4 := Lib.hid o4
  clear HK k1 k2 k3 k4 k5 k6 k7 k8 k9 k10 k11 z0 z1 z2 z3 z4 o1 o2 o3 o4
  have HZA : Hid ((Try.prog.info? 78).bind (·.zero) = some (.agg A0)) := Lib.hid (by rw [← HZ.out]; exact zeroA)
  go_enter Try.func49, Try.ntmps49
  go_upto_region 2 with (refine wpList_allocZ rfl 78 rfl A0 HZA.out ?_)
  try simp only [Act.put, List.setIfInBounds_toArray, List.set_cons_zero, List.set_cons_succ, World.size_alloc]
  obtain ⟨v0, hv0⟩ : ∃ W9 : World, W9 = w.alloc (.cells A0 78) := ⟨_, rfl⟩
  have BA := Lib.hid (Blk.new w 78 A0)
  have HE := Lib.hid (ext_alloc (Ext.rfl' w) (.cells A0 78))
  rw [← hv0] at BA HE ⊢
  obtain ⟨ba, hba⟩ : ∃ n, n = w.heap.size := ⟨_, rfl⟩
  rw [← hba] at BA ⊢
  have hba1 : w.heap.size ≤ ba := by omega
  clear hv0 hba
  go_wp2_with (refine wpList_load_row rfl 78 (.tmp 1) rfl ba rfl 78 A0 (0, 0) _ BA.out Try.underlying78 rfl (by rw [Z0.out]; exact sizeA) ?_)
  refine (K1.out _).mono ?_
  rintro e v1 ⟨rfl, b1⟩
  have BA := Lib.hid (BA.out.ext b1)
  have HE := Lib.hid (ext_trans HE.out b1)
  clear b1
  go_upto_region 3 with (refine wpList_store_row rfl 78 (.tmp 1) (.tmp 18) rfl ba A1 rfl rfl 78 A0 BA.out (by rw [Z1.out]; exact sizeA) (by rw [Z0.out, Z1.out]) O1.out ?_)
  try simp only [Act.put, List.setIfInBounds_toArray, List.set_cons_zero, List.set_cons_succ]
  obtain ⟨u1, hu1⟩ : ∃ W9 : World, W9 = v1.setRow ba A1 := ⟨_, rfl⟩
  have N1 := Lib.hid (show Blk u1 ba 78 A1 from by rw [hu1]; exact setRow_blk BA.out)
  have HE := Lib.hid (show Ext w u1 from by rw [hu1]; exact ext_setRow HE.out (by omega) _)
  rw [← hu1]
  clear hu1 BA
  have BA := N1
  go_wp2_with (refine wpList_load_row rfl 78 (.tmp 1) rfl ba rfl 78 A1 (0, 0) _ BA.out Try.underlying78 rfl (by rw [Z1.out]; exact sizeA) ?_)
  refine (K2.out _).mono ?_
  rintro e v2 ⟨rfl, b2⟩
  have BA := Lib.hid (BA.out.ext b2)
  have HE := Lib.hid (ext_trans HE.out b2)
  clear b2
  go_upto_region 4 with (refine wpList_store_row rfl 78 (.tmp 1) (.tmp 24) rfl ba A2 rfl rfl 78 A1 BA.out (by rw [Z2.out]; exact sizeA) (by rw [Z1.out, Z2.out]) O2.out ?_)
  try simp only [Act.put, List.setIfInBounds_toArray, List.set_cons_zero, List.set_cons_succ]
  obtain ⟨u2, hu2⟩ : ∃ W9 : World, W9 = v2.setRow ba A2 := ⟨_, rfl⟩
  have N2 := Lib.hid (show Blk u2 ba 78 A2 from by rw [hu2]; exact setRow_blk BA.out)
  have HE := Lib.hid (show Ext w u2 from by rw [hu2]; exact ext_setRow HE.out (by omega) _)
  rw [← hu2]
  clear hu2 BA
  have BA := N2
  go_wp2_with (refine wpList_load_row rfl 78 (.tmp 1) rfl ba rfl 78 A2 (0, 0) _ BA.out Try.underlying78 rfl (by rw [Z2.out]; exact sizeA) ?_)
  refine (K3.out _).mono ?_
  rintro e v3 ⟨rfl, b3⟩
  have BA := Lib.hid (BA.out.ext b3)
  have HE := Lib.hid (ext_trans HE.out b3)
  clear b3
  have hba3 := BA.out.lt
  have BB := Lib.hid (Blk.new v3 78 A0)
  have BA := Lib.hid (BA.out.alloc (.cells A0 78))
  have HE := Lib.hid (ext_alloc HE.out (.cells A0 78))
  obtain ⟨bb, hbb2⟩ : ∃ n, n = v3.heap.size := ⟨_, rfl⟩
  have hab : ba < bb := by omega
  go_upto_region 5 with (first | (refine wpList_allocZ rfl 78 rfl A0 HZA.out ?_) | (refine wpList_store_row rfl 78 (.tmp 6) (.tmp 28) rfl v3.heap.size A3 rfl rfl 78 A0 BB.out (by rw [Z3.out]; exact sizeA) (by rw [Z0.out, Z3.out]) O3.out ?_))
  try simp only [Act.put, List.setIfInBounds_toArray, List.set_cons_zero, List.set_cons_succ]
  rw [← hbb2] at BB ⊢
  obtain ⟨u3, hu3⟩ : ∃ W9 : World, W9 = (v3.alloc (.cells A0 78)).setRow bb A3 := ⟨_, rfl⟩
  have N3 := Lib.hid (show Blk u3 bb 78 A3 from by rw [hu3]; exact setRow_blk BB.out)
  have M3 := Lib.hid (show Blk u3 ba 78 A2 from by rw [hu3]; exact setRow_far BA.out (by omega))
  have HE := Lib.hid (show Ext w u3 from by rw [hu3]; exact ext_setRow HE.out (by omega) _)
  rw [← hu3]
  clear hu3 BA BB hbb2 hba3
  have BB := N3; have BA := M3
  go_wp2_with (refine wpList_load_row rfl 78 (.tmp 6) rfl bb rfl 78 A3 (0, 0) _ BB.out Try.underlying78 rfl (by rw [Z3.out]; exact sizeA) ?_)
  refine (K4.out _).mono ?_
  rintro e v4 ⟨rfl, b4⟩
  have BA := Lib.hid (BA.out.ext b4)
  have BB := Lib.hid (BB.out.ext b4)
  have HE := Lib.hid (ext_trans HE.out b4)
  clear b4
  go_upto_region 6 with (refine wpList_store_row rfl 78 (.tmp 6) (.tmp 32) rfl bb A4 rfl rfl 78 A3 BB.out (by rw [Z4.out]; exact sizeA) (by rw [Z3.out, Z4.out]) O4.out ?_)
  try simp only [Act.put, List.setIfInBounds_toArray, List.set_cons_zero, List.set_cons_succ]
  obtain ⟨u4, hu4⟩ : ∃ W9 : World, W9 = v4.setRow bb A4 := ⟨_, rfl⟩
  have N4 := Lib.hid (show Blk u4 bb 78 A4 from by rw [hu4]; exact setRow_blk BB.out)
  have M4 := Lib.hid (show Blk u4 ba 78 A2 from by rw [hu4]; exact setRow_far BA.out (by omega))
  have HE := Lib.hid (show Ext w u4 from by rw [hu4]; exact ext_setRow HE.out (by omega) _)
  rw [← hu4]
  clear hu4 BA BB
  have BB := N4
  have BA := M4
  go_wp2_with (refine wpList_load_row rfl 78 (.tmp 6) rfl bb rfl 78 A4 (0, 0) _ BB.out Try.underlying78 rfl (by rw [Z4.out]; exact sizeA) ?_)
  refine (K5.out _).mono ?_
  rintro e v5 ⟨rfl, b5⟩
  have BA := Lib.hid (BA.out.ext b5)
  have BB := Lib.hid (BB.out.ext b5)
  have HE := Lib.hid (ext_trans HE.out b5)
  clear b5
  go_wp2_with (refine wpList_load_row rfl 78 (.tmp 6) rfl bb rfl 78 A4 (0, 0) _ BB.out Try.underlying78 rfl (by rw [Z4.out]; exact sizeA) ?_)
  refine (K6.out _).mono ?_
  rintro e v6 ⟨rfl, b6⟩
  have BA := Lib.hid (BA.out.ext b6)
  have BB := Lib.hid (BB.out.ext b6)
  have HE := Lib.hid (ext_trans HE.out b6)
  clear b6
  go_wp2_with (refine wpList_load_row rfl 78 (.tmp 1) rfl ba rfl 78 A2 (0, 0) _ BA.out Try.underlying78 rfl (by rw [Z2.out]; exact sizeA) ?_)
  refine (K7.out _).mono ?_
  rintro e v7 ⟨rfl, b7⟩
  have BA := Lib.hid (BA.out.ext b7)
  have BB := Lib.hid (BB.out.ext b7)
  have HE := Lib.hid (ext_trans HE.out b7)
  clear b7
  go_wp2_with (refine wpList_load_rowW (by rfl) 78 (.tmp 6) rfl bb rfl 78 A4 (0, 0) _ BB.out Try.underlying78 rfl (by rw [Z4.out]; exact sizeA) ?_)
  refine (K8.out _).mono ?_
  rintro e v8 ⟨⟨A8, c8, rfl⟩, b8⟩
  have BB := Lib.hid (BB.out.ext b8)
  have HE := Lib.hid (ext_trans HE.out b8)
  clear b8
  go_wp2_with (refine wpList_load_rowW (by rfl) 78 (.tmp 6) rfl bb rfl 78 A4 (0, 0) _ BB.out Try.underlying78 rfl (by rw [Z4.out]; exact sizeA) ?_)
  refine (K9.out _).mono ?_
  rintro e v9 ⟨rfl, b9⟩
  have BB := Lib.hid (BB.out.ext b9)
  have HE := Lib.hid (ext_trans HE.out b9)
  clear b9
  go_wp2_with (refine wpList_load_rowW (by rfl) 78 (.tmp 6) rfl bb rfl 78 A4 (0, 0) _ BB.out Try.underlying78 rfl (by rw [Z4.out]; exact sizeA) ?_)
  refine (K10.out _).mono ?_
  rintro e v10 ⟨rfl, b10⟩
  have BB := Lib.hid (BB.out.ext b10)
  have HE := Lib.hid (ext_trans HE.out b10)
  clear b10
  go_wp2_with (refine wpList_load_rowW (by rfl) 78 (.tmp 6) rfl bb rfl 78 A4 (0, 0) _ BB.out Try.underlying78 rfl (by rw [Z4.out]; exact sizeA) ?_)
  refine (K11.out _).mono ?_
  rintro e v11 ⟨rfl, b11⟩
  have BB := Lib.hid (BB.out.ext b11)
  have HE := Lib.hid (ext_trans HE.out b11)
  clear b11
  go_wp2_with fail
  go_ret
  exact ⟨rfl, HE.out⟩
end Go.Proofs.Ytdbjknljdplinaa.Arena
