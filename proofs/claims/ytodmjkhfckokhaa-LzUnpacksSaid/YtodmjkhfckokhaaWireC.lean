/- Contracts of package wire: readers; a varint that stands next. -/
import Derived.Test.YtodmjkhfckokhaaWireB
import Derived.WalkLawsBesides
import Derived.Deep.QuietTactic
import Derived.BigQuiet
import Derived.RegionTactic
import Derived.StillTailTactics
import Derived.WalkMore
namespace Go.Proofs.Ytodmjkhfckokhaa.Wire
open Go.ChangeShapes Go.WideShapes Go.ChangeAt Go.RowKit
set_option linter.unusedVariables false

theorem wp_still {P : Program} {id : Nat} {Q : Exit → Act → World → Prop} {a : Act} {w : World} {l : List Oper} (hm : P.follows .mixedOrders = true) (hB : Region.lexB .any l.toArray = true)
    (h : wpStill P l.toArray w.drew (fun a' => Q .normal a' w.drew) l a) : (Code.region id l.toArray true).wp P Q a w := wp_region_still_lit hm hB h
theorem wp_still_tail {P : Program} {id : Nat} {Q : Exit → Act → World → Prop} {a : Act} {w : World} {l : List Oper} (n : Nat) (hm : P.follows .mixedOrders = true) (hB : Region.lexTailB .any l.toArray n = true)
    (h : wpStill P l.toArray w.drew (fun a' => wpList P l.toArray Q (l.drop n) a' w.drew) (l.take n) a) : (Code.region id l.toArray true).wp P Q a w := wp_region_still_tail n hm hB h
theorem gb_refl (w : World) (row : Option Nat) : w.grownBy w row := ⟨rfl, rfl, rfl, Nat.le_refl _, fun _ _ _ => rfl⟩
theorem gb_trans {a b c : World} {row : Option Nat} (h : a.grownBy b row) (k : b.grownBy c row) : a.grownBy c row :=
  ⟨k.os.trans h.os, k.tape.trans h.tape, k.output.trans h.output, Nat.le_trans h.size k.size, fun i hi hne => (k.block i (Nat.lt_of_lt_of_le hi h.size) hne).trans (h.block i hi hne)⟩
theorem gb_ext {a b : World} (h : Ext a b) (row : Option Nat) : a.grownBy b row := ⟨h.os, h.tape, h.output, h.size, fun k hk _ => h.block k hk⟩
theorem gb_set (w : World) (g i : Nat) (v : Value) : w.grownBy (w.setCell ⟨g, i, none⟩ v) (some g) :=
  ⟨rfl, rfl, rfl, by simp [World.setCell], fun k _ hk => Below.heap_setCell w ⟨g, i, none⟩ v k (fun e => hk (by rw [e]))⟩
/-- A reader's block: its bytes, its place, its error. -/
def Rdr (w : World) (g : Nat) (s : Value) (at_ : Nat) (e : Int) : Prop := Blk w g 71 #[s, .int .i64 (at_ : Int), .int .i64 e]
/-- Only the reader has changed. -/
def Eff (w w' : World) (g : Nat) (s : Value) (at_ : Nat) (e : Int) : Prop := Rdr w' g s at_ e ∧ w.grownBy w' (some g)
theorem Eff.trans {a b c : World} {g : Nat} {s s' : Value} {i j : Nat} {e f : Int} (h : Eff a b g s i e) (k : Eff b c g s' j f) : Eff a c g s' j f := ⟨k.1, gb_trans h.2 k.2⟩
theorem Rdr.ext {w w' : World} {g : Nat} {s : Value} {i : Nat} {e : Int} (h : Rdr w g s i e) (hb : Ext w w') : Rdr w' g s i e := Blk.ext h hb
theorem Rdr.eff {w w' : World} {g : Nat} {s : Value} {i : Nat} {e : Int} (h : Rdr w g s i e) (hb : Ext w w') : Eff w w' g s i e := ⟨h.ext hb, gb_ext hb _⟩
theorem Eff.ext {a b c : World} {g : Nat} {s : Value} {i : Nat} {e : Int} (h : Eff a b g s i e) (hb : Ext b c) : Eff a c g s i e := h.trans (h.1.eff hb)
theorem Rdr.cells {w : World} {g : Nat} {s : Value} {i : Nat} {e : Int} (h : Rdr w g s i e) : w.cell? ⟨g, 0, none⟩ = some s ∧ w.cell? ⟨g, 1, none⟩ = some (.int .i64 (i : Int)) ∧ w.cell? ⟨g, 2, none⟩ = some (.int .i64 e) ∧ w.frozen? ⟨g, 1, none⟩ = false ∧ w.frozen? ⟨g, 2, none⟩ = false :=
  ⟨Blk.cell h 0, Blk.cell h 1, Blk.cell h 2, Blk.frozen h 1, Blk.frozen h 2⟩
theorem Rdr.setErr {w : World} {g : Nat} {s : Value} {i : Nat} {e : Int} (h : Rdr w g s i e) (f : Int) : Eff w (w.setCell ⟨g, 2, none⟩ (.int .i64 f)) g s i f :=
  ⟨Blk.set_ h 2 _, gb_set w g 2 _⟩
theorem Rdr.setAt {w : World} {g : Nat} {s : Value} {i : Nat} {e : Int} (h : Rdr w g s i e) (j : Nat) : Eff w (w.setCell ⟨g, 1, none⟩ (.int .i64 (j : Int))) g s j e :=
  ⟨Blk.set_ h 1 _, gb_set w g 1 _⟩
theorem Eff.bs {w w' : World} {g : Nat} {s : Value} {i : Nat} {e : Int} {A : Option Addr} {n : Nat} {xs : List Nat} (h : Eff w w' g s i e) (hB : Bs w A n xs) (hne : ∀ a, A = some a → a.block ≠ g) : Bs w' A n xs :=
  hB.kept h.2 (fun a ha => by have := hne a ha; simpa using this)
theorem and127 : ∀ x : Nat, x < 256 → bits BinOp.and IntKind.u8 (x : Int) 127 = ((x % 128 : Nat) : Int) := by decide +kernel
theorem or64 (a b : Nat) : bits .or .u64 (a : Int) (b : Int) = ((BitVec.ofNat 64 a ||| BitVec.ofNat 64 b).toNat : Int) := by
  show IntKind.u64.wrap ((BitVec.ofInt 64 (a : Int) ||| BitVec.ofInt 64 (b : Int)).toNat : Int) = _
  rw [BitVec.ofInt_natCast, BitVec.ofInt_natCast]
  have := (BitVec.ofNat 64 a ||| BitVec.ofNat 64 b).isLt
  rw [IntKind.wrap_u64]
  omega
theorem pow128 (s : Nat) : 2 ^ (7 * s) = 128 ^ s := by rw [Nat.pow_mul]
theorem pow128_le {s : Nat} (h : s ≤ 8) : 128 ^ s ≤ 72057594037927936 := by
  have : 128 ^ s ≤ 128 ^ 8 := Nat.pow_le_pow_right (by omega) h
  simpa using this
/-- Seven bits more. -/
theorem or_val (acc size cb : Nat) (hs : size ≤ 9) (hacc : acc < 128 ^ size) (hcb : cb < 256) :
    ∃ z : Nat, z < 18446744073709551616 ∧ bits BinOp.or IntKind.u64 (acc : Int) (IntKind.u64.wrap (IntKind.u64.wrap (bits BinOp.and IntKind.u8 (cb : Int) 127) * 2 ^ (7 * size))) = (z : Int) ∧
      (size ≤ 8 ∨ cb ≤ 1 → z = acc + (cb % 128) * 128 ^ size) := by
  have e1 : IntKind.u64.wrap (bits BinOp.and IntKind.u8 (cb : Int) 127) = ((cb % 128 : Nat) : Int) := by rw [and127 cb hcb, IntKind.wrap_u64]; omega
  have e2 : (((cb % 128 : Nat) : Int) * 2 ^ (7 * size)) = (((cb % 128) * 128 ^ size : Nat) : Int) := by
    rw [Int.natCast_mul, ← pow128, Int.natCast_pow]; rfl
  have e3 : IntKind.u64.wrap ((((cb % 128) * 128 ^ size : Nat)) : Int) = ((((cb % 128) * 128 ^ size) % 18446744073709551616 : Nat) : Int) := by rw [IntKind.wrap_u64]; omega
  rw [e1, e2, e3, or64]
  have hl : 128 ^ size ≤ 128 ^ 9 := Nat.pow_le_pow_right (by omega) hs
  have hl2 : (128 : Nat) ^ 9 = 9223372036854775808 := by decide
  refine ⟨_, (BitVec.ofNat 64 acc ||| BitVec.ofNat 64 ((cb % 128) * 128 ^ size % 18446744073709551616)).isLt, rfl, fun h => ?_⟩
  have hsm : (cb % 128) * 128 ^ size < 18446744073709551616 := by
    rcases h with h | h
    · have h8 := pow128_le h
      have : (cb % 128) * 128 ^ size ≤ 127 * 72057594037927936 := Nat.mul_le_mul (by omega) h8
      omega
    · have : (cb % 128) * 128 ^ size ≤ 1 * 9223372036854775808 := Nat.mul_le_mul (by omega) (by omega)
      omega
  rw [BitVec.toNat_or, BitVec.toNat_ofNat, BitVec.toNat_ofNat, Nat.mod_eq_of_lt hsm, Nat.mod_eq_of_lt (show acc < 2 ^ 64 by omega), Nat.mod_eq_of_lt (show (cb % 128) * 128 ^ size < 2 ^ 64 by omega)]
  have := Nat.shiftLeft_add_eq_or_of_lt (i := 7 * size) (b := acc) (by rw [pow128]; exact hacc) (cb % 128)
  rw [Nat.shiftLeft_eq, pow128] at this
  rw [Nat.or_comm, ← this, Nat.add_comm]
theorem Rdr.setAt' {w : World} {g : Nat} {s : Value} {i : Nat} {e : Int} (h : Rdr w g s i e) (j : Nat) {z : Int} (hz : z = (j : Int)) : Eff w (w.setCell ⟨g, 1, none⟩ (.int .i64 z)) g s j e := by subst hz; exact h.setAt j
/-- What a varint's reading comes to. -/
def VPost (w : World) (g : Nat) (s : Value) (at_ : Nat) (R : VR) (e : Ending) (w' : World) : Prop :=
  ∃ (z j : Nat) (err : Int), e = .returned (.int .u64 (z : Int)) ∧ z < 18446744073709551616 ∧ Eff w w' g s (at_ + j) err ∧
    (match R with | .short => err = 3 | .form => err = 4 | .ok v k => z = v ∧ j = k ∧ err = 0)
def VRel (w : World) (xs : List Nat) (at_ : Nat) (R : VR) (nv sv : Value) (wr : World) : Prop :=
  ∃ (size acc : Nat), size ≤ 9 ∧ at_ + size ≤ xs.length ∧ nv = .int .u64 (acc : Int) ∧ sv = .int .i64 (size : Int) ∧ acc < 128 ^ size ∧ vr size acc (xs.drop (at_ + size)) = R ∧ Ext w wr
end Go.Proofs.Ytodmjkhfckokhaa.Wire
