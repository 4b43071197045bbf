/- An append onto a row of one's own: which blocks it leaves alone. -/
import Derived.Test.YtlldmpcamdginaaG1
import Derived.WalkLawsBesides
import Derived.Deep.QuietTactic
import Derived.BigQuiet
import Derived.RegionTactic
import Derived.StillTailTactics
import Derived.WalkMore
namespace Go.Proofs.Ytlldmpcamdginaa.Wire
open Go.ChangeShapes Go.WideShapes Go.ChangeAt Go.RowKit
set_option linter.unusedVariables false
section
variable {P : Program} {w : World}
/-- Only the row's own block has changed; the row stands there still, or in a new block. -/
def Grew (w w' : World) (v v' : Value) : Prop := w.grownBy w' v.ownBlock ∧ (v'.ownBlock = v.ownBlock ∨ ∀ k, v'.ownBlock = some k → w.heap.size ≤ k)
def Off (v : Value) (b : Nat) : Prop := v.ownBlock ≠ some b
theorem Grew.off {w w' : World} {v v' : Value} {b : Nat} (h : Grew w w' v v') (ho : Off v b) (hb : b < w.heap.size) : Off v' b := by
  rcases h.2 with h1 | h1
  · unfold Off; rw [h1]; exact ho
  · intro e; have := h1 b e; omega
theorem Grew.blk {w w' : World} {v v' : Value} {b : Nat} {t : TypeId} {cs : Array Value} (h : Grew w w' v v') (ho : Off v b) (hb : Blk w b t cs) : Blk w' b t cs := (h.1.block b hb.lt (Ne.symm ho)).trans hb
theorem Grew.heap {w w' : World} {v v' : Value} {b : Nat} (h : Grew w w' v v') (ho : Off v b) (hb : b < w.heap.size) : w'.heap[b]? = w.heap[b]? := h.1.block b hb (Ne.symm ho)
theorem off_new {base : Nat} {e : TypeId} {size n : Nat} {v : Value} {xs : List Value} (h : w.ownsRow base e size v n xs) {b : Nat} (hb : w.heap.size ≤ b ∨ b < base) : Off v b := by
  intro e; have := World.ownsRow.lt h b e; omega
theorem run_app_own2 (t tx ty e : TypeId) (i : TypeInfo) (z : Value) (size bytes : Nat) (ht : P.underlying t = some (.slice e)) (hi : P.info? e = some i) (hz : i.zero = some z) (hsize : i.size = size) (hby : i.bytes = bytes) (hzs : z.cells.size = size)
    (base : Nat) (v : Value) (n : Nat) (xs : List Value) (hown : w.ownsRow base e size v n xs)
    (x : Value) (m : Nat) (news : List Value) (hs : Src P size tx x m news w) (h63 : n + m ≤ maxLen) (hb : (n + m) * bytes ≤ 140737488355328) (hbase : base ≤ w.heap.size) :
    ∃ v' w', (Builtin.append_ #[t, tx] ty #[v, x]).run P w = .ok v' w' ∧ w'.ownsRow base e size v' (n + m) (xs ++ news) ∧ Grew w w' v v' := by
  rcases hown.2 with ⟨rfl, rfl⟩ | ⟨g, cap, cur, rfl, hbg, hgg, hnc, hcm, hcs, htake⟩
  · by_cases hm : m = 0
    · subst hm
      have hn : news = [] := List.eq_nil_of_length_eq_zero (by simpa using hs.newsLen)
      have hx : xs = [] := List.eq_nil_of_length_eq_zero (by simpa using hown.1)
      subst hn hx
      refine ⟨.slice none 0 0, w, ?_, World.ownsRow_nil w base e size, ⟨rfl, rfl, rfl, Nat.le_refl _, fun _ _ _ => rfl⟩, .inl rfl⟩
      subst hsize
      rcases hs.kind with ⟨e', hk⟩ | hk <;> simp [Builtin.append_, run_underlying ht, run_underlying hk, sizeOf, typeInfo, hi, hs.len, hs.cells]
    · obtain ⟨v', w', h1, h2, h3, h4⟩ := run_app_grow t tx ty e i z size bytes ht hi hz hsize hby hzs none 0 0 xs hown.1 (run_firstCells_own hown) x m news hs (by omega) h63 hb base hbase
      exact ⟨v', w', h1, h2, h4 _, .inr (own_ge h3)⟩
  · by_cases hroom : n + m ≤ cap
    · subst hsize
      have hfit : n * i.size + news.length ≤ cur.size := by rw [hs.newsLen, hcs, ← Nat.add_mul]; exact Nat.mul_le_mul_right _ hroom
      have hlen : (xs ++ news).length = (n + m) * i.size := by rw [List.length_append, hown.1, hs.newsLen, Nat.add_mul]
      have hst := run_storeCells_at P g (n * i.size) e news 0 cur w hgg (by simpa using hfit) hs.one
      simp only [Nat.add_zero] at hst
      have hr : (Builtin.append_ #[t, tx] ty #[.slice (some ⟨g, 0, none⟩) n cap, x]).run P w =
          .ok (.slice (some ⟨g, 0, none⟩) (n + m) cap) (w.setRow g (cur.toList.take (n * i.size) ++ news ++ cur.toList.drop (n * i.size + news.length)).toArray) := by
        rcases hs.kind with ⟨e', hk⟩ | hk <;> simp [Builtin.append_, run_underlying ht, run_underlying hk, sizeOf, typeInfo, hi, hs.len, hroom, hs.cells, Addr.add_lit, hst]
      refine ⟨_, _, hr, ⟨hlen, .inr ⟨g, cap, _, rfl, hbg, setRow_heap w g cur _ e _ hgg, hroom, hcm, ?_, ?_⟩⟩, ⟨rfl, rfl, rfl, by simp, fun k _ hk => setRow_other w g k _ (fun e => hk (by simp [Value.ownBlock, e]))⟩, .inl rfl⟩
      · simp only [List.size_toArray, List.length_append, List.length_take, List.length_drop, Array.length_toList]
        omega
      · rw [htake, ← hlen]
        exact List.take_left
    · obtain ⟨v', w', h1, h2, h3, h4⟩ := run_app_grow t tx ty e i z size bytes ht hi hz hsize hby hzs _ n cap xs hown.1 (run_firstCells_own hown) x m news hs (by omega) h63 hb base hbase
      exact ⟨v', w', h1, h2, h4 _, .inr (own_ge h3)⟩
end
/-- Bytes of one's own. -/
def OwnB (base : Nat) (w : World) (v : Value) (zs : List Nat) : Prop := w.ownsRow base 5 1 v zs.length (c8 zs)
theorem OwnB.nil (base : Nat) (w : World) : OwnB base w (.slice none 0 0) [] := World.ownsRow_nil w base 5 1
theorem OwnB.ext {base : Nat} {w w' : World} {v : Value} {zs : List Nat} (h : OwnB base w v zs) (hE : Ext w w') : OwnB base w' v zs := own_ext h hE
theorem OwnB.mono {b b' : Nat} {w : World} {v : Value} {zs : List Nat} (h : OwnB b w v zs) (hb : b' ≤ b) : OwnB b' w v zs := by
  rcases h with ⟨h1, h2 | ⟨g, cap, cur, r1, r2, r3⟩⟩
  · exact ⟨h1, .inl h2⟩
  · exact ⟨h1, .inr ⟨g, cap, cur, r1, Nat.le_trans hb r2, r3⟩⟩
theorem OwnB.keep {base : Nat} {w w' : World} {v : Value} {zs : List Nat} (h : OwnB base w v zs) (hk : ∀ k, base ≤ k → k < w.heap.size → w'.heap[k]? = w.heap[k]?) : OwnB base w' v zs := by
  rcases h with ⟨h1, h2 | ⟨g, cap, cur, r1, r2, r3, r4⟩⟩
  · exact ⟨h1, .inl h2⟩
  · exact ⟨h1, .inr ⟨g, cap, cur, r1, r2, (hk g r2 (Array.getElem?_eq_some_iff.1 r3).1).trans r3, r4⟩⟩
theorem OwnB.shape {base : Nat} {w : World} {v : Value} {zs : List Nat} (h : OwnB base w v zs) : ∃ A c, v = .slice A zs.length c ∧ zs.length ≤ c ∧ c ≤ maxLen ∧ (A = none → zs.length = 0 ∧ c = 0) ∧ (∀ a, A = some a → base ≤ a.block) := by
  rcases h.2 with ⟨rfl, hn⟩ | ⟨g, cap, cur, rfl, hb, _, h1, h2, _⟩
  · exact ⟨none, 0, by rw [hn], by omega, by unfold maxLen; omega, (fun _ => ⟨hn, rfl⟩), (fun a ha => by cases ha)⟩
  · exact ⟨_, cap, rfl, h1, h2, (fun ha => by cases ha), (fun a ha => by cases ha; exact hb)⟩
theorem OwnB.bs {base : Nat} {w : World} {A : Option Addr} {c n : Nat} {zs : List Nat} (h : OwnB base w (.slice A n c) zs) (hz : ∀ j, zs.getD j 0 < 256) : n = zs.length ∧ Bs w A n zs := by
  have hn : n = zs.length := by
    rcases h.2 with ⟨h1, hn⟩ | ⟨g, cap, cur, h1, _⟩
    · rw [(Value.slice.inj h1).2.1, hn]
    · exact (Value.slice.inj h1).2.1
  subst hn
  exact ⟨rfl, Bs.own h hz⟩
theorem OwnB.of_own {W w : World} {v : Value} {zs : List Nat} {base : Nat} (h : Own W w v zs) (hb : base ≤ W.heap.size) : OwnB base w v zs := OwnB.mono (b := W.heap.size) h hb
theorem wpList_b {base : Nat} {w : World} {ops : Array Oper} {rest : List Oper} {o : Oper} {a : Act} {Q : Exit → Act → World → Prop} (hgd : o.guard = none) (s x : Operand) (tx : TypeId)
    (ho : o.op = .call { callee := .builtin .append, args := #[s, x], argTypes := #[29, tx] }) (v vx : Value) (zs ys : List Nat) (hs : a.eval s = v) (hx : a.eval x = vx) (hO : OwnB base w v zs) (hE : base ≤ w.heap.size)
    (hsrc : Src Try.prog 1 tx vx ys.length (c8 ys) w) (hb : zs.length + ys.length ≤ 140737488355328)
    (h : ∀ v' w', OwnB base w' v' (zs ++ ys) → Grew w w' v v' → wpList Try.prog ops Q rest (a.put o.dst v') w') : wpList Try.prog ops Q (o :: rest) a w := by
  obtain ⟨i0, hi0, hz0, hz1, hz2⟩ := info_parts info8
  have h1 : zs.length + ys.length ≤ maxLen := by unfold maxLen; omega
  obtain ⟨v', w', r1, r2, r3⟩ := run_app_own2 (P := Try.prog) 29 tx o.type 5 i0 (.int .u8 0) 1 1 Try.underlying29 hi0 hz0 hz1 hz2 rfl base v zs.length (c8 zs) hO vx ys.length (c8 ys) hsrc h1 (by omega) hE
  exact wpList_of_append hgd s x 29 tx ho v vx hs hx r1 (h v' w' (by unfold OwnB; rw [List.length_append, c8_app]; exact r2) r3)
theorem Grew.ext {a w w' : World} {v v' : Value} {base : Nat} {zs : List Nat} (h : Grew w w' v v') (hE : Ext a w) (hO : OwnB base w v zs) (hb : a.heap.size ≤ base) : Ext a w' :=
  ext_grown hE h.1 (fun k e => Nat.le_trans hb (World.ownsRow.lt hO k e).1)
theorem own_src {W w : World} {v : Value} {zs : List Nat} (h : Own W w v zs) (hz : ∀ j, zs.getD j 0 < 256) : Src Try.prog 1 29 v zs.length (c8 zs) w := by
  obtain ⟨A, c, rfl, _⟩ := own_shape h
  exact (Bs.own h hz).src Try.underlying29 c
/-- A number put behind nothing. -/
theorem put_nil (d : Nat) (hd : d < 18446744073709551616) (w : World) : Calls Try.prog 32 #[.slice none 0 0, .int .u64 (d : Int)] w fun e w' => ∃ v, e = .returned v ∧ Src Try.prog 1 29 v (vb d).length (c8 (vb d)) w' ∧ OwnB w.heap.size w' v (vb d) ∧ Ext w w' := by
  refine (put none 0 0 [] d hd w (Bs.none _ _) (fun _ => ⟨rfl, rfl⟩) (by omega) (by omega) (by omega)).mono ?_
  rintro e w' ⟨g, c, rfl, h1, h2, h3, hO, hE⟩
  rw [List.nil_append] at *
  exact ⟨_, rfl, own_src hO (vb_byte d), hO, hE⟩
end Go.Proofs.Ytlldmpcamdginaa.Wire
namespace Go.Proofs.Ytlldmpcamdginaa.Wire
open Go.ChangeShapes Go.WideShapes Go.ChangeAt Go.RowKit
set_option linter.unusedVariables false

theorem wp_still {P : Program} {id : Nat} {Q : Exit → Act → World → Prop} {a : Act} {w : World} {l : List Oper} (hm : P.follows .mixedOrders = true) (hB : Region.lexB .any l.toArray = true)
    (h : wpStill P l.toArray w.drew (fun a' => Q .normal a' w.drew) l a) : (Code.region id l.toArray true).wp P Q a w := wp_region_still_lit hm hB h
theorem wp_still_tail {P : Program} {id : Nat} {Q : Exit → Act → World → Prop} {a : Act} {w : World} {l : List Oper} (n : Nat) (hm : P.follows .mixedOrders = true) (hB : Region.lexTailB .any l.toArray n = true)
    (h : wpStill P l.toArray w.drew (fun a' => wpList P l.toArray Q (l.drop n) a' w.drew) (l.take n) a) : (Code.region id l.toArray true).wp P Q a w := wp_region_still_tail n hm hB h
theorem gb_refl (w : World) (row : Option Nat) : w.grownBy w row := ⟨rfl, rfl, rfl, Nat.le_refl _, fun _ _ _ => rfl⟩
theorem gb_trans {a b c : World} {row : Option Nat} (h : a.grownBy b row) (k : b.grownBy c row) : a.grownBy c row :=
  ⟨k.os.trans h.os, k.tape.trans h.tape, k.output.trans h.output, Nat.le_trans h.size k.size, fun i hi hne => (k.block i (Nat.lt_of_lt_of_le hi h.size) hne).trans (h.block i hi hne)⟩
theorem gb_ext {a b : World} (h : Ext a b) (row : Option Nat) : a.grownBy b row := ⟨h.os, h.tape, h.output, h.size, fun k hk _ => h.block k hk⟩
theorem gb_set (w : World) (g i : Nat) (v : Value) : w.grownBy (w.setCell ⟨g, i, none⟩ v) (some g) :=
  ⟨rfl, rfl, rfl, by simp [World.setCell], fun k _ hk => Below.heap_setCell w ⟨g, i, none⟩ v k (fun e => hk (by rw [e]))⟩
/-- A reader's block: its bytes, its place, its error. -/
def Rdr (w : World) (g : Nat) (s : Value) (at_ : Nat) (e : Int) : Prop := Blk w g 135 #[s, .int .i64 (at_ : Int), .int .i64 e]
/-- Only the reader has changed. -/
def Eff (w w' : World) (g : Nat) (s : Value) (at_ : Nat) (e : Int) : Prop := Rdr w' g s at_ e ∧ w.grownBy w' (some g)
theorem Eff.trans {a b c : World} {g : Nat} {s s' : Value} {i j : Nat} {e f : Int} (h : Eff a b g s i e) (k : Eff b c g s' j f) : Eff a c g s' j f := ⟨k.1, gb_trans h.2 k.2⟩
theorem Rdr.ext {w w' : World} {g : Nat} {s : Value} {i : Nat} {e : Int} (h : Rdr w g s i e) (hb : Ext w w') : Rdr w' g s i e := Blk.ext h hb
theorem Rdr.eff {w w' : World} {g : Nat} {s : Value} {i : Nat} {e : Int} (h : Rdr w g s i e) (hb : Ext w w') : Eff w w' g s i e := ⟨h.ext hb, gb_ext hb _⟩
theorem Eff.ext {a b c : World} {g : Nat} {s : Value} {i : Nat} {e : Int} (h : Eff a b g s i e) (hb : Ext b c) : Eff a c g s i e := h.trans (h.1.eff hb)
theorem Rdr.cells {w : World} {g : Nat} {s : Value} {i : Nat} {e : Int} (h : Rdr w g s i e) : w.cell? ⟨g, 0, none⟩ = some s ∧ w.cell? ⟨g, 1, none⟩ = some (.int .i64 (i : Int)) ∧ w.cell? ⟨g, 2, none⟩ = some (.int .i64 e) ∧ w.frozen? ⟨g, 1, none⟩ = false ∧ w.frozen? ⟨g, 2, none⟩ = false :=
  ⟨Blk.cell h 0, Blk.cell h 1, Blk.cell h 2, Blk.frozen h 1, Blk.frozen h 2⟩
theorem Rdr.setErr {w : World} {g : Nat} {s : Value} {i : Nat} {e : Int} (h : Rdr w g s i e) (f : Int) : Eff w (w.setCell ⟨g, 2, none⟩ (.int .i64 f)) g s i f :=
  ⟨Blk.set_ h 2 _, gb_set w g 2 _⟩
theorem Rdr.setAt {w : World} {g : Nat} {s : Value} {i : Nat} {e : Int} (h : Rdr w g s i e) (j : Nat) : Eff w (w.setCell ⟨g, 1, none⟩ (.int .i64 (j : Int))) g s j e :=
  ⟨Blk.set_ h 1 _, gb_set w g 1 _⟩
theorem Eff.bs {w w' : World} {g : Nat} {s : Value} {i : Nat} {e : Int} {A : Option Addr} {n : Nat} {xs : List Nat} (h : Eff w w' g s i e) (hB : Bs w A n xs) (hne : ∀ a, A = some a → a.block ≠ g) : Bs w' A n xs :=
  hB.kept h.2 (fun a ha => by have := hne a ha; simpa using this)
theorem and127 : ∀ x : Nat, x < 256 → bits BinOp.and IntKind.u8 (x : Int) 127 = ((x % 128 : Nat) : Int) := by decide +kernel
theorem or64 (a b : Nat) : bits .or .u64 (a : Int) (b : Int) = ((BitVec.ofNat 64 a ||| BitVec.ofNat 64 b).toNat : Int) := by
  show IntKind.u64.wrap ((BitVec.ofInt 64 (a : Int) ||| BitVec.ofInt 64 (b : Int)).toNat : Int) = _
  rw [BitVec.ofInt_natCast, BitVec.ofInt_natCast]
  have := (BitVec.ofNat 64 a ||| BitVec.ofNat 64 b).isLt
  rw [IntKind.wrap_u64]
  omega
theorem pow128 (s : Nat) : 2 ^ (7 * s) = 128 ^ s := by rw [Nat.pow_mul]
theorem pow128_le {s : Nat} (h : s ≤ 8) : 128 ^ s ≤ 72057594037927936 := by
  have : 128 ^ s ≤ 128 ^ 8 := Nat.pow_le_pow_right (by omega) h
  simpa using this
/-- Seven bits more. -/
theorem or_val (acc size cb : Nat) (hs : size ≤ 9) (hacc : acc < 128 ^ size) (hcb : cb < 256) :
    ∃ z : Nat, z < 18446744073709551616 ∧ bits BinOp.or IntKind.u64 (acc : Int) (IntKind.u64.wrap (IntKind.u64.wrap (bits BinOp.and IntKind.u8 (cb : Int) 127) * 2 ^ (7 * size))) = (z : Int) ∧
      (size ≤ 8 ∨ cb ≤ 1 → z = acc + (cb % 128) * 128 ^ size) := by
  have e1 : IntKind.u64.wrap (bits BinOp.and IntKind.u8 (cb : Int) 127) = ((cb % 128 : Nat) : Int) := by rw [and127 cb hcb, IntKind.wrap_u64]; omega
  have e2 : (((cb % 128 : Nat) : Int) * 2 ^ (7 * size)) = (((cb % 128) * 128 ^ size : Nat) : Int) := by
    rw [Int.natCast_mul, ← pow128, Int.natCast_pow]; rfl
  have e3 : IntKind.u64.wrap ((((cb % 128) * 128 ^ size : Nat)) : Int) = ((((cb % 128) * 128 ^ size) % 18446744073709551616 : Nat) : Int) := by rw [IntKind.wrap_u64]; omega
  rw [e1, e2, e3, or64]
  have hl : 128 ^ size ≤ 128 ^ 9 := Nat.pow_le_pow_right (by omega) hs
  have hl2 : (128 : Nat) ^ 9 = 9223372036854775808 := by decide
  refine ⟨_, (BitVec.ofNat 64 acc ||| BitVec.ofNat 64 ((cb % 128) * 128 ^ size % 18446744073709551616)).isLt, rfl, fun h => ?_⟩
  have hsm : (cb % 128) * 128 ^ size < 18446744073709551616 := by
    rcases h with h | h
    · have h8 := pow128_le h
      have : (cb % 128) * 128 ^ size ≤ 127 * 72057594037927936 := Nat.mul_le_mul (by omega) h8
      omega
    · have : (cb % 128) * 128 ^ size ≤ 1 * 9223372036854775808 := Nat.mul_le_mul (by omega) (by omega)
      omega
  rw [BitVec.toNat_or, BitVec.toNat_ofNat, BitVec.toNat_ofNat, Nat.mod_eq_of_lt hsm, Nat.mod_eq_of_lt (show acc < 2 ^ 64 by omega), Nat.mod_eq_of_lt (show (cb % 128) * 128 ^ size < 2 ^ 64 by omega)]
  have := Nat.shiftLeft_add_eq_or_of_lt (i := 7 * size) (b := acc) (by rw [pow128]; exact hacc) (cb % 128)
  rw [Nat.shiftLeft_eq, pow128] at this
  rw [Nat.or_comm, ← this, Nat.add_comm]
theorem Rdr.setAt' {w : World} {g : Nat} {s : Value} {i : Nat} {e : Int} (h : Rdr w g s i e) (j : Nat) {z : Int} (hz : z = (j : Int)) : Eff w (w.setCell ⟨g, 1, none⟩ (.int .i64 z)) g s j e := by subst hz; exact h.setAt j
/-- What a varint's reading comes to. -/
def VPost (w : World) (g : Nat) (s : Value) (at_ : Nat) (R : VR) (e : Ending) (w' : World) : Prop :=
  ∃ (z j : Nat) (err : Int), e = .returned (.int .u64 (z : Int)) ∧ z < 18446744073709551616 ∧ Eff w w' g s (at_ + j) err ∧
    (match R with | .short => err = 3 | .form => err = 4 | .ok v k => z = v ∧ j = k ∧ err = 0)
def VRel (w : World) (xs : List Nat) (at_ : Nat) (R : VR) (nv sv : Value) (wr : World) : Prop :=
  ∃ (size acc : Nat), size ≤ 9 ∧ at_ + size ≤ xs.length ∧ nv = .int .u64 (acc : Int) ∧ sv = .int .i64 (size : Int) ∧ acc < 128 ^ size ∧ vr size acc (xs.drop (at_ + size)) = R ∧ Ext w wr
end Go.Proofs.Ytlldmpcamdginaa.Wire
namespace Go.Proofs.Ytlldmpcamdginaa.Wire
open Go.ChangeShapes Go.WideShapes Go.ChangeAt Go.RowKit
set_option linter.unusedVariables false

/-- What is told of a reader's bytes. -/
def RB (w : World) (g : Nat) (A : Option Addr) (n c : Nat) (xs : List Nat) : Prop := Bs w A n xs ∧ n ≤ c ∧ c ≤ 9223372036854775807 ∧ (A = none → n = 0 ∧ c = 0) ∧ (0 < n → ∀ a, A = some a → a.block ≠ g)
theorem RB.eff {w w' : World} {g : Nat} {A : Option Addr} {n c : Nat} {xs : List Nat} (hB : RB w g A n c xs) (h : w.grownBy w' (some g)) : RB w' g A n c xs := by
  refine ⟨?_, hB.2⟩
  rcases Nat.eq_zero_or_pos n with h0 | hp
  · subst h0
    have : xs = [] := List.eq_nil_of_length_eq_zero hB.1.1
    subst this
    exact Bs.none _ _
  · exact hB.1.kept h (fun a ha => by have := hB.2.2.2.2 hp a ha; simpa using this)
theorem Bs.drop {w : World} {b o n : Nat} {xs : List Nat} (h : Bs w (some ⟨b, o, none⟩) n xs) (m : Nat) (hm : m ≤ n) : Bs w (some ⟨b, o + m, none⟩) (n - m) (xs.drop m) := by
  refine ⟨by rw [List.length_drop, h.1], fun j => ?_, fun hn => ?_⟩
  · rw [List.getD_eq_getElem?_getD, List.getElem?_drop, ← List.getD_eq_getElem?_getD]; exact h.2.1 _
  · obtain ⟨b', o', e, hl, hcell⟩ := h.2.2 (by omega)
    simp only [Option.some.injEq, Addr.mk.injEq, and_true] at e
    obtain ⟨rfl, rfl⟩ := e
    refine ⟨b, o + m, rfl, hl, fun j hj => ?_⟩
    rw [Nat.add_assoc, hcell (m + j) (by omega)]
    simp [List.getD_eq_getElem?_getD, List.getElem?_drop]
theorem Bs.zero {w : World} {A B : Option Addr} {n : Nat} {xs : List Nat} (h : Bs w A n xs) (hn : n = 0) : Bs w B 0 [] := Bs.none _ _
def PPost (w : World) (g : Nat) (s : Value) (at_ m : Nat) (ys : List Nat) (e : Ending) (w' : World) : Prop :=
  ∃ (A' : Option Addr) (c' : Nat), e = .returned (.slice A' m c') ∧ m ≤ c' ∧ c' ≤ 9223372036854775807 ∧ (A' = none → m = 0 ∧ c' = 0) ∧ Bs w' A' m ys ∧ Eff w w' g s (at_ + m) 0
set_option maxHeartbeats 4000000 in
set_option maxRecDepth 100000 in
theorem piece_nil (g : Nat) (F : Value) (w : World) (h : Rdr w g (.slice none 0 0) 0 0) :
    Calls Try.prog 70 #[.pointer (some ⟨g, 0, none⟩), .int .u64 0, F] w fun e w' => e = .returned (.slice none 0 0) ∧ Eff w w' g (.slice none 0 0) 0 0 := by
  obtain ⟨c0, c1', c2, f1, f2⟩ := h.cells
  have c1 : w.cell? ⟨g, 1, none⟩ = some (.int .i64 0) := c1'
  have H := Lib.hid h; clear h c1'
  go_enter Try.func70, Try.ntmps70
  go_wp2_with fail
  refine wp_still (by kernel_rfl) (by kernel_rfl) ?_
  repeat still_step
  refine wpStill_nil ?_
  go_wp2_with fail
  refine wp_still (by kernel_rfl) (by kernel_rfl) ?_
  repeat still_step
  refine wpStill_nil ?_
  go_wp2_with fail
  go_ret
  exact ⟨rfl, (H.out.setAt' 0 rfl).ext (ext_drew (ext_drew (Ext.rfl' _)))⟩
set_option maxHeartbeats 4000000 in
set_option maxRecDepth 100000 in
theorem piece_ok (g n c at_ m : Nat) (A : Option Addr) (F : Value) (xs : List Nat) (w : World) (h : Rdr w g (.slice A n c) at_ 0) (hB : RB w g A n c xs) (hat : at_ + m ≤ n) (hn : n ≤ 4000000000) :
    Calls Try.prog 70 #[.pointer (some ⟨g, 0, none⟩), .int .u64 (m : Int), F] w (PPost w g (.slice A n c) at_ m ((xs.drop at_).take m)) := by
  obtain ⟨c0, c1, c2, f1, f2⟩ := h.cells
  have H := Lib.hid h; have HB := Lib.hid hB; clear h hB
  obtain ⟨L, hL⟩ : ∃ L : Nat, L = n - at_ := ⟨_, rfl⟩
  have hLm : ¬ (L : Int) < (m : Int) := by omega
  have HW1 : Hid (IntKind.i64.wrap ((n : Int) - (at_ : Int)) = (L : Int)) := Lib.hid (by rw [IntWalk.i64_in _ (by omega)]; omega)
  have HW2 : Hid (IntKind.u64.wrap (L : Int) = (L : Int)) := Lib.hid (by rw [IntKind.wrap_u64]; omega)
  clear hL
  have b1 : (0 : Int) ≤ (at_ : Int) := by omega
  have b2 : (at_ : Int) ≤ (at_ : Int) + (m : Int) := by omega
  have hnc := HB.out.2.1
  have hcm := HB.out.2.2.1
  have b3 : (at_ : Int) + (m : Int) ≤ (c : Int) := by omega
  have HEF := Lib.hid (H.out.eff (ext_drew (Ext.rfl' _)))
  rcases A with _ | a
  · obtain ⟨rfl, rfl⟩ := HB.out.2.2.2.1 rfl
    obtain rfl : at_ = 0 := by omega
    obtain rfl : m = 0 := by omega
    refine (piece_nil g F w H.out).mono ?_
    rintro e w' ⟨rfl, hE⟩
    exact ⟨none, 0, rfl, Nat.le_refl _, by omega, fun _ => ⟨rfl, rfl⟩, by rw [List.take_zero]; exact Bs.none _ _, hE⟩
  · have hmn : ((at_ : Int) + (m : Int)).toNat = at_ + m := by omega
    have HXX : Hid (xs.length = n) := Lib.hid HB.out.1.1
    obtain ⟨A', hA'⟩ : ∃ A' : Option Addr, (if c = at_ then some a else some (a.add at_)) = A' := ⟨_, rfl⟩
    have HIF := Lib.hid hA'; clear hA'
    go_enter Try.func70, Try.ntmps70
    go_wp2_with fail
    have hw1 := HW1.out
    have hw2 := HW2.out
    refine wp_still (by kernel_rfl) (by kernel_rfl) ?_
    repeat still_step
    refine wpStill_nil ?_
    clear hw1 hw2
    go_wp2_with fail
    have hif := HIF.out
    refine wp_still (by kernel_rfl) (by kernel_rfl) ?_
    repeat still_step
    refine wpStill_nil ?_
    clear hif
    go_wp2_with fail
    go_ret
    have hif := HIF.out
    have hEE := (H.out.setAt' (at_ + m) (z := (at_ : Int) + (m : Int)) (by omega)).ext (ext_drew (ext_drew (Ext.rfl' _)))
    refine ⟨A', c - at_, rfl, by omega, by omega, (fun h => by rw [← hif] at h; split at h <;> cases h), ?_, hEE⟩
    have hb := (HB.out.eff hEE.2).1
    rcases Nat.eq_zero_or_pos m with h0 | hp
    · rw [h0, List.take_zero]; exact Bs.none _ _
    · rw [← hif, if_neg (by omega)]
      obtain ⟨b, o, e, _, _⟩ := hb.2.2 (by omega)
      obtain rfl : a = ⟨b, o, none⟩ := Option.some.inj e
      have hadd : (⟨b, o, none⟩ : Addr).add at_ = ⟨b, o + at_, none⟩ := by unfold Addr.add; split <;> simp_all
      rw [hadd]
      exact (Bs.drop hb at_ (by omega)).take (by omega)
/-- What a closure that reads comes to. -/
def CP (w : World) (g : Nat) (s : Value) (Φ : Value → Nat → Int → World → Prop) (e : Ending) (w' : World) : Prop :=
  ∃ (v : Value) (a' : Nat) (err : Int), e = .returned v ∧ Eff w w' g s a' err ∧ Φ v a' err w'
/-- What reading comes to: at a fault the place is the one from before. -/
def RP (w : World) (g : Nat) (s zero : Value) (at_ : Nat) (Φ : Value → Nat → Int → World → Prop) (e : Ending) (w' : World) : Prop :=
  (∃ (v : Value) (a' : Nat), e = .returned v ∧ Eff w w' g s a' 0 ∧ Φ v a' 0 w') ∨
  (∃ err : Int, err ≠ 0 ∧ e = .returned zero ∧ Eff w w' g s at_ err ∧ ∃ v0 a0 w0, Φ v0 a0 err w0)
end Go.Proofs.Ytlldmpcamdginaa.Wire
